/-
  The steps that are alike in all rows of this seat.
  Blocks, and slices of blocks, that came in.
  Slices of elements that came in, whatever the elements' type: what one element's cells are is handed in.
  Slices of api.Write that came in.
-/
import Derived.Test.YtpcdcnnnkblhiaaRows
import Derived.Test.YtpcdcnnnkblhiaaMA
import Derived.WalkKit
import Derived.ProofKit
import Derived.OpenShut
import Derived.ShutString
import Derived.ChangeOld
import Derived.SizedLaws
import Derived.JoinedCond
import Derived.Test.YtpcdcnnnkblhiaaMC
import Derived.Deep.Slices
import Derived.Lib.SmallJoins
namespace Go.Proofs.Ytpcdcnnnkblhiaa
open Go.RowKit Go.ChangeShapes Go.WideShapes Go.ChangeAt

theorem own_knob : ownKnob Try.prog.godebug = none := by kernel_rfl
theorem laid_out : laidOutB Try.prog = true := by kernel_rfl
theorem u8cells : Try.prog.cellsOf 5 = 1 := by kernel_rfl
theorem u8bytes : Try.prog.bytesOf 5 = 1 := by kernel_rfl

/-- The bytes of a list of numbers that each fit a byte. -/
def toBytes (zs : List Int) : List UInt8 := zs.map fun z => UInt8.ofNat z.toNat
theorem bt_toBytes {zs : List Int} (h : ∀ z ∈ zs, (Lit.int .u8 z).wf = true) {k : Nat} (hk : k < zs.length) : bt (toBytes zs) k = zs.getD k 0 := by
  have hl : k < (toBytes zs).length := by simpa [toBytes] using hk
  have hb := h zs[k] (List.getElem_mem hk)
  have hr : 0 ≤ zs[k] ∧ zs[k] ≤ 255 := bounds_u8 hb
  rw [bt_get hl]
  simp only [toBytes, List.getElem_map, UInt8.toNat_ofNat', List.getD, List.getElem?_eq_getElem hk, Option.getD_some]
  omega

/-! What the bound of an '..UptoSaid' gives: the length of each slice. -/
theorem bulk_pos {H : Type} (d : DataW H) : 1 ≤ Rows.uptoBulk d := by
  cases d with
  | lit l => cases l <;> simp [Rows.uptoBulk]
  | _ => simp [Rows.uptoBulk]
theorem bulk_length {H : Type} (l : List (DataW H)) : l.length ≤ Rows.uptoBulkAll l := by
  induction l with
  | nil => simp [Rows.uptoBulkAll]
  | cons d r ih =>
    have h := bulk_pos d
    simp only [Rows.uptoBulkAll, List.length_cons]
    omega
theorem bulk_mem {H : Type} {d : DataW H} {l : List (DataW H)} (h : d ∈ l) : Rows.uptoBulk d ≤ Rows.uptoBulkAll l := by
  induction l with
  | nil => cases h
  | cons x r ih =>
    simp only [Rows.uptoBulkAll]
    rcases List.mem_cons.1 h with e | e
    · subst e; omega
    · have := ih e; omega
theorem bulk_all {H : Type} {l : List (DataW H)} (h : Rows.uptoSmall H l = true) : Rows.uptoBulkAll l ≤ 1048576 := of_decide_eq_true h

end Go.Proofs.Ytpcdcnnnkblhiaa
namespace Go.Proofs.Ytpcdcnnnkblhiaa
open Go.RowKit Go.ChangeShapes Go.WideShapes Go.ChangeAt Go.Deep

theorem cellsB : Try.prog.cellsOf 34 = 64 := by kernel_rfl
theorem bytesB : Try.prog.bytesOf 34 = 64 := by kernel_rfl
section
variable {H : Type} {enc : TypeId × Value → H} {W : World} {base : Nat} {v : Value} {d : DataW H} {p : List MemPlace}
theorem one_u8 {m : Nat} {x : Value} {y : DataW H × List MemPlace} (h : DataW.trod enc Try.prog W 0 (fun _ => true) true m 5 [x] = some y) : ∃ u : UInt8, x = .int .u8 (u.toNat : Int) := by
  obtain ⟨k, e, _, hw⟩ := DataW.trod_int Try.underlying5 h
  have hr : 0 ≤ k ∧ k ≤ 255 := bounds_u8 hw
  injection e with e
  refine ⟨UInt8.ofNat k.toNat, ?_⟩
  rw [e, UInt8.toNat_ofNat']
  congr 1
  omega
theorem cel_of_trod {fuel : Nat} {cs : List Value} {x : DataW H × List MemPlace} (h : DataW.trod enc Try.prog W 0 (fun _ => true) true fuel 34 cs = some x) : ∃ b : Blk, cs = cel b := by
  obtain ⟨xs, m, _, _, hlen, hn, hel⟩ := DataW.trod_array undB h
  rw [cellsB] at hlen
  rw [u8cells] at hel
  have hu : ∀ i : Fin 64, ∃ u : UInt8, cs[i.val]? = some (.int .u8 (u.toNat : Int)) := fun i => by
    have h1 := hel i.val i.isLt
    have hi : i.val < cs.length := by have := i.isLt; omega
    have hd : (cs.drop (i.val * 1)).take 1 = [cs[i.val]] := by
      rw [Nat.mul_one, List.drop_eq_getElem_cons hi]
      rfl
    have hx : i.val < xs.length := by have := i.isLt; omega
    rw [hd, List.getElem?_eq_getElem hx] at h1
    obtain ⟨u, hu⟩ := one_u8 h1
    exact ⟨u, by rw [List.getElem?_eq_getElem hi, hu]⟩
  obtain ⟨f, hf⟩ := Classical.axiomOfChoice hu
  refine ⟨Vector.ofFn f, ?_⟩
  apply List.ext_getElem?
  intro i
  by_cases hi : i < 64
  · rw [hf ⟨i, hi⟩, cel_at _ hi, byt_get _ hi]
    simp
  · rw [List.getElem?_eq_none (by omega), List.getElem?_eq_none (by rw [cel_length]; omega)]
theorem open_blk (hv : Value.okWide Try.prog W .any base 34 v) (h : DataW.Trod enc Try.prog W 0 (fun _ => true) true 34 v d p) : ∃ b : Blk, v = blk b := by
  obtain ⟨cs, rfl, _, _⟩ : ∃ cs, v = .agg cs ∧ cs.size = Try.prog.cellsOf 34 ∧ Row.okWide Try.prog W .any base 34 cs := by
    simpa [Value.okWide, Try.underlying34] using hv
  obtain ⟨fuel, hf⟩ := h
  obtain ⟨b, hb⟩ := cel_of_trod hf
  refine ⟨b, ?_⟩
  unfold blk
  rw [← hb]
  simp [Value.cells]
theorem open_blocks (hv : Value.okWide Try.prog W .any base 78 v) (h : DataW.Trod enc Try.prog W 0 (fun _ => true) true 78 v d p) (hz : ∀ x ∈ DataW.weights Try.prog 78 d, x ≤ reachBytes) :
    ∃ (A : Option Addr) (n c : Nat) (l : List Blk), v = .slice A n c ∧ RdB W W.heap.size A n l ∧ n ≤ 2199023255488 ∧ n ≤ c := by
  obtain ⟨a0, len0, cap0, rfl⟩ := okWide_slice Try.underlying78 hv
  obtain ⟨fuel, hf⟩ := h
  rcases open_slice underS hf with ⟨hcs, hx⟩ | ⟨a, len, cap, m, n, D, Pl, hcs, hb, hl, hm, hmm, hx, hel⟩
  · simp [Value.cells] at hcs
    obtain ⟨rfl, rfl, rfl⟩ := hcs
    exact ⟨none, 0, 0, [], rfl, RdB.nil _ _ _, by omega, by omega⟩
  · simp [Value.cells] at hcs
    obtain ⟨rfl, rfl, rfl⟩ := hcs
    simp only [Prod.mk.injEq] at hx
    obtain ⟨rfl, rfl⟩ := hx
    simp only [if_true] at hmm
    subst hmm
    have hr := hz (((((List.range len0).map D).length + ((List.range (m - len0)).map fun j => D (len0 + j)).length)) * Try.prog.bytesOf 34) (by simp [DataW.weights])
    rw [bytesB] at hr
    simp only [List.length_map, List.length_range, reachBytes] at hr
    obtain ⟨f, hf2⟩ := choose_lt (α := Blk) (p := fun i b => W.cells? 0 (a.add (i * 64)) 64 = some (cel b)) (n := m) (fun i hi => by
      obtain ⟨cs', h1, h2⟩ := hel i hi
      rw [cellsB] at h1
      obtain ⟨b, rfl⟩ := cel_of_trod h2
      exact ⟨b, h1⟩)
    refine ⟨some a, len0, m, (List.range len0).map f, rfl, ⟨by simp, fun k hk => ?_⟩, by omega, hl⟩
    obtain ⟨b, off, spot⟩ := a
    have hspot : spot = none := by
      have h0 := (World.cells?_some (hf2 0 (by omega))).2.2 0 (by omega)
      rw [cel_at _ (by omega)] at h0
      have := World.cell?_spot h0
      simpa [Addr.add] using this
    subst hspot
    have hc := World.cells?_some (hf2 k (by omega))
    refine ⟨b, off, rfl, ?_, fun j u hj => ?_⟩
    · have h0 := hc.2.2 0 (by omega)
      rw [cel_at _ (by omega), Addr.add_mid, Addr.add_mid] at h0
      exact World.block_lt_of_cell? W _ h0
    · have hlt : j < 64 := by have := (List.getElem?_eq_some_iff.1 hj).1; rwa [cel_length] at this
      have h1 := hc.2.2 j hlt
      rw [Addr.add_mid, Addr.add_mid] at h1
      rw [h1, ← hj]
      simp [List.getD, hk]
end
end Go.Proofs.Ytpcdcnnnkblhiaa
namespace Go.Proofs.Ytpcdcnnnkblhiaa
open Go.RowKit Go.ChangeShapes Go.WideShapes Go.ChangeAt Go.Deep
set_option linter.unusedVariables false
section
variable {H : Type} {enc : TypeId × Value → H} {W : World} {base : Nat} {v : Value} {d : DataW H} {p : List MemPlace}
/-- A slice of elements, by its cell: it reads as a list, and each of the list is 'good'. -/
theorem elts_of_trod {α : Type} (E : Elt α) (Good : α → Prop) (hc : Try.prog.cellsOf E.t = E.n) {fuel : Nat} {cs : List Value} {x : DataW H × List MemPlace} (hf : DataW.trod enc Try.prog W 0 (fun _ => true) true fuel E.s cs = some x)
    (hE : ∀ (fuel : Nat) (cs : List Value) (x : DataW H × List MemPlace), DataW.trod enc Try.prog W 0 (fun _ => true) true fuel E.t cs = some x → ∃ a, cs = E.cel a ∧ Good a) :
    ∃ (A : Option Addr) (n c : Nat) (l : List α), cs = [.slice A n c] ∧ RdE E W W.heap.size A n l ∧ n ≤ c ∧ c ≤ maxLen ∧ ∀ k, k < n → Good (l.getD k E.d) := by
  rcases open_slice E.und hf with ⟨hcs, hx⟩ | ⟨a, len0, cap, m, n, D, Pl, hcs, hb, hl, hm, hmm, hx, hel⟩
  · exact ⟨none, 0, 0, [], hcs, RdE.nil _ _ _, by omega, by unfold maxLen; omega, fun k hk => absurd hk (by omega)⟩
  · simp only [if_true] at hmm
    subst hmm
    haveI : Inhabited α := ⟨E.d⟩
    obtain ⟨f, hf2⟩ := choose_lt (α := α) (p := fun i b => W.cells? 0 (a.add (i * E.n)) E.n = some (E.cel b) ∧ Good b) (n := m) (fun i hi => by
      obtain ⟨cs', h1, h2⟩ := hel i hi
      rw [hc] at h1
      obtain ⟨b, rfl, hg⟩ := hE _ _ _ h2
      exact ⟨b, h1, hg⟩)
    have hp := E.pos
    refine ⟨some a, len0, m, (List.range len0).map f, hcs, ⟨by simp, fun k hk => ?_⟩, hl, hm, fun k hk => ?_⟩
    · obtain ⟨b, off, spot⟩ := a
      have hzero : ∀ i, ∃ u, (E.cel (f i))[0]? = some u := fun i => ⟨_, List.getElem?_eq_getElem (by rw [E.len]; exact hp)⟩
      have hspot : spot = none := by
        obtain ⟨u, hu⟩ := hzero 0
        have h0 := (World.cells?_some (hf2 0 (by omega)).1).2.2 0 hp
        rw [hu] at h0
        have := World.cell?_spot h0
        simpa [Addr.add] using this
      subst hspot
      have hcc := World.cells?_some (hf2 k (by omega)).1
      refine ⟨b, off, rfl, ?_, fun j u hj => ?_⟩
      · obtain ⟨u, hu⟩ := hzero k
        have h0 := hcc.2.2 0 hp
        rw [hu, add_mid, add_mid] at h0
        exact World.block_lt_of_cell? W _ h0
      · have hlt : j < E.n := by have := (List.getElem?_eq_some_iff.1 hj).1; rwa [E.len] at this
        have h1 := hcc.2.2 j hlt
        rw [add_mid, add_mid] at h1
        rw [h1, ← hj]
        simp [List.getD, hk]
    · simpa [List.getD, hk] using (hf2 k (by omega)).2
theorem open_elts {α : Type} (E : Elt α) (Good : α → Prop) (hc : Try.prog.cellsOf E.t = E.n) (hv : Value.okWide Try.prog W .any base E.s v) (h : DataW.Trod enc Try.prog W 0 (fun _ => true) true E.s v d p)
    (hE : ∀ (fuel : Nat) (cs : List Value) (x : DataW H × List MemPlace), DataW.trod enc Try.prog W 0 (fun _ => true) true fuel E.t cs = some x → ∃ a, cs = E.cel a ∧ Good a) :
    ∃ (A : Option Addr) (n c : Nat) (l : List α), v = .slice A n c ∧ RdE E W W.heap.size A n l ∧ n ≤ c ∧ c ≤ maxLen ∧ ∀ k, k < n → Good (l.getD k E.d) := by
  obtain ⟨a0, len0, cap0, rfl⟩ := okWide_slice E.und hv
  obtain ⟨fuel, hf⟩ := h
  obtain ⟨A, n, c, l, hcs, rest⟩ := elts_of_trod E Good hc hf hE
  simp [Value.cells] at hcs
  obtain ⟨rfl, rfl, rfl⟩ := hcs
  exact ⟨_, _, _, l, rfl, rest⟩
theorem one_i64 {m : Nat} {x : Value} {y : DataW H × List MemPlace} (h : DataW.trod enc Try.prog W 0 (fun _ => true) true m 3 [x] = some y) : ∃ k : Int, x = .int .i64 k ∧ (Lit.int .i64 k).wf = true := by
  obtain ⟨k, e, _, hw⟩ := DataW.trod_int Try.underlying3 h
  injection e with e
  exact ⟨k, e, hw⟩
theorem int_of_trod (fuel : Nat) (cs : List Value) (x : DataW H × List MemPlace) (h : DataW.trod enc Try.prog W 0 (fun _ => true) true fuel 3 cs = some x) : ∃ a : Int, cs = [.int .i64 a] ∧ (Lit.int .i64 a).wf = true := by
  obtain ⟨k, e, _, hw⟩ := DataW.trod_int Try.underlying3 h
  exact ⟨k, e, hw⟩
theorem open_numbers (hv : Value.okWide Try.prog W .any base 22 v) (h : DataW.Trod enc Try.prog W 0 (fun _ => true) true 22 v d p) :
    ∃ (A : Option Addr) (n c : Nat) (l : List Int), v = .slice A n c ∧ RdE IntE W W.heap.size A n l ∧ n ≤ c ∧ c ≤ maxLen := by
  obtain ⟨A, n, c, l, e, h1, h2, h3, _⟩ := open_elts IntE (fun a => (Lit.int .i64 a).wf = true) (by kernel_rfl) hv h (fun fuel cs x h => int_of_trod fuel cs x h)
  exact ⟨A, n, c, l, e, h1, h2, h3⟩
end
end Go.Proofs.Ytpcdcnnnkblhiaa
namespace Go.Proofs.Ytpcdcnnnkblhiaa
open Go.RowKit Go.ChangeShapes Go.WideShapes Go.ChangeAt Go.Deep
set_option linter.unusedVariables false
def WrE : Elt (Int × Blk) := pairE 42 45 Try.underlying42 (by kernel_rfl)
section
variable {H : Type} {enc : TypeId × Value → H} {W : World} {base : Nat} {v : Value} {d : DataW H} {p : List MemPlace}
theorem wr_of_trod (fuel : Nat) (cs : List Value) (x : DataW H × List MemPlace) (h : DataW.trod enc Try.prog W 0 (fun _ => true) true fuel 45 cs = some x) : ∃ a : Int × Blk, cs = WrE.cel a ∧ (Lit.int .i64 a.1).wf = true := by
  obtain ⟨xs, n, _, _, hlen, hxl, hf⟩ := DataW.trod_struct Try.underlying45 h
  have h0 : DataW.trod enc Try.prog W 0 (fun _ => true) true n 3 ((cs.drop 0).take (Try.prog.cellsOf 3)) = xs[0]? := hf 0 _ rfl
  have h1 : DataW.trod enc Try.prog W 0 (fun _ => true) true n 34 ((cs.drop 1).take (Try.prog.cellsOf 34)) = xs[1]? := hf 1 _ rfl
  have hxl2 : xs.length = 2 := hxl
  have hl65 : cs.length = 65 := hlen.trans (by kernel_rfl)
  rw [show Try.prog.cellsOf 3 = 1 from by kernel_rfl, List.getElem?_eq_getElem (by omega)] at h0
  rw [cellsB, List.getElem?_eq_getElem (by omega)] at h1
  obtain ⟨a, ha, hw⟩ := int_of_trod _ _ _ h0
  obtain ⟨b, hb⟩ := cel_of_trod h1
  refine ⟨(a, b), ?_, hw⟩
  show cs = .int .i64 a :: cel b
  rw [List.take_of_length_le (by rw [List.length_drop]; omega)] at hb
  have := List.take_append_drop 1 cs
  rw [List.drop_zero] at ha
  rw [ha, hb] at this
  exact this.symm
theorem open_writes (hv : Value.okWide Try.prog W .any base 42 v) (h : DataW.Trod enc Try.prog W 0 (fun _ => true) true 42 v d p) :
    ∃ (A : Option Addr) (n c : Nat) (l : List (Int × Blk)), v = .slice A n c ∧ RdE WrE W W.heap.size A n l ∧ n ≤ c ∧ c ≤ maxLen ∧ ∀ k, k < n → (Lit.int .i64 (l.getD k (0, zeroB)).1).wf = true :=
  open_elts WrE (fun a => (Lit.int .i64 a.1).wf = true) (by kernel_rfl) hv h (fun fuel cs x h => wr_of_trod fuel cs x h)
end
end Go.Proofs.Ytpcdcnnnkblhiaa
