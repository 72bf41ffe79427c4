import Derived.Test.YtcafafdimcecpaaGreatDoorLcab
import Derived.Test.YtcafafdimcecpaaGreatDoorLcaa
import Derived.Deep.Slices
import Derived.Lib.SmallJoins
import Derived.Test.YtcafafdimcecpaaGreatDoorLcah
import Derived.Test.YtcafafdimcecpaaGreatDoorLcaz
import Derived.Test.YtcafafdimcecpaaGreatDoorLcak
import Derived.Test.YtcafafdimcecpaaGreatDoorLcan
import Derived.Test.YtcafafdimcecpaaGreatDoorLcag
import Derived.Test.YtcafafdimcecpaaGreatDoorLcax
import Derived.Test.YtcafafdimcecpaaGreatDoorLcZ
namespace Go.Proofs.YtcafafdimcecpaaGreatDoor
open Go.RowKit Go.ChangeShapes Go.WideShapes Go.ChangeAt Go.Deep
set_option maxRecDepth 100000
set_option linter.unusedVariables false
section
variable {H : Type} {enc : TypeId × Value → H} {W : World} {base : Nat} {v : Value} {d : DataW H} {p : List MemPlace}
theorem elts_of_trod {α : Type} (E : Elt α) (Good : α → Prop) (hc : Tryz.prog.cellsOf E.t = E.n) {fuel : Nat} {cs : List Value} {x : DataW H × List MemPlace} (hf : DataW.trod enc Tryz.prog W 0 (fun _ => true) true fuel E.s cs = some x)
    (hE : ∀ (fuel : Nat) (cs : List Value) (x : DataW H × List MemPlace), DataW.trod enc Tryz.prog W 0 (fun _ => true) true fuel E.t cs = some x → ∃ a, cs = E.cel a ∧ Good a) :
    ∃ (A : Option Addr) (n c : Nat) (l : List α), cs = [.slice A n c] ∧ RdE E W W.heap.size A n l ∧ n ≤ c ∧ c ≤ maxLen ∧ ∀ k, k < n → Good (l.getD k E.d) := by
  rcases open_slice E.und hf with ⟨hcs, hx⟩ | ⟨a, len0, cap, m, n, D, Pl, hcs, hb, hl, hm, hmm, hx, hel⟩
  · exact ⟨none, 0, 0, [], hcs, RdE.nil _ _ _, by omega, by unfold maxLen; omega, fun k hk => absurd hk (by omega)⟩
  · simp only [if_true] at hmm
    subst hmm
    haveI : Inhabited α := ⟨E.d⟩
    obtain ⟨f, hf2⟩ := choose_lt (α := α) (p := fun i b => W.cells? 0 (a.add (i * E.n)) E.n = some (E.cel b) ∧ Good b) (n := m) (fun i hi => by
      obtain ⟨cs', h1, h2⟩ := hel i hi
      rw [hc] at h1
      obtain ⟨b, rfl, hg⟩ := hE _ _ _ h2
      exact ⟨b, h1, hg⟩)
    have hp := E.pos
    refine ⟨some a, len0, m, (List.range len0).map f, hcs, ⟨by simp, fun k hk => ?_⟩, hl, hm, fun k hk => ?_⟩
    · obtain ⟨b, off, spot⟩ := a
      have hzero : ∀ i, ∃ u, (E.cel (f i))[0]? = some u := fun i => ⟨_, List.getElem?_eq_getElem (by rw [E.len]; exact hp)⟩
      have hspot : spot = none := by
        obtain ⟨u, hu⟩ := hzero 0
        have h0 := (World.cells?_some (hf2 0 (by omega)).1).2.2 0 hp
        rw [hu] at h0
        have := World.cell?_spot h0
        simpa [Addr.add] using this
      subst hspot
      have hcc := World.cells?_some (hf2 k (by omega)).1
      refine ⟨b, off, rfl, ?_, fun j u hj => ?_⟩
      · obtain ⟨u, hu⟩ := hzero k
        have h0 := hcc.2.2 0 hp
        rw [hu, add_mid, add_mid] at h0
        exact World.block_lt_of_cell? W _ h0
      · have hlt : j < E.n := by have := (List.getElem?_eq_some_iff.1 hj).1; rwa [E.len] at this
        have h1 := hcc.2.2 j hlt
        rw [add_mid, add_mid] at h1
        rw [h1, ← hj]
        simp [List.getD, hk]
    · simpa [List.getD, hk] using (hf2 k (by omega)).2
theorem open_elts {α : Type} (E : Elt α) (Good : α → Prop) (hc : Tryz.prog.cellsOf E.t = E.n) (hv : Value.okWide Tryz.prog W .any base E.s v) (h : DataW.Trod enc Tryz.prog W 0 (fun _ => true) true E.s v d p)
    (hE : ∀ (fuel : Nat) (cs : List Value) (x : DataW H × List MemPlace), DataW.trod enc Tryz.prog W 0 (fun _ => true) true fuel E.t cs = some x → ∃ a, cs = E.cel a ∧ Good a) :
    ∃ (A : Option Addr) (n c : Nat) (l : List α), v = .slice A n c ∧ RdE E W W.heap.size A n l ∧ n ≤ c ∧ c ≤ maxLen ∧ ∀ k, k < n → Good (l.getD k E.d) := by
  obtain ⟨a0, len0, cap0, rfl⟩ := okWide_slice E.und hv
  obtain ⟨fuel, hf⟩ := h
  obtain ⟨A, n, c, l, hcs, rest⟩ := elts_of_trod E Good hc hf hE
  simp [Value.cells] at hcs
  obtain ⟨rfl, rfl, rfl⟩ := hcs
  exact ⟨_, _, _, l, rfl, rest⟩
theorem int_of_trod (fuel : Nat) (cs : List Value) (x : DataW H × List MemPlace) (h : DataW.trod enc Tryz.prog W 0 (fun _ => true) true fuel 3 cs = some x) : ∃ a : Int, cs = [.int .i64 a] ∧ (Lit.int .i64 a).wf = true := by
  obtain ⟨k, e, _, hw⟩ := DataW.trod_int Tryz.underlying3 h
  exact ⟨k, e, hw⟩
end
set_option linter.unusedSimpArgs false
theorem u8_of_trod {H : Type} {enc : TypeId × Value → H} {W : World} (fuel : Nat) (cs : List Value) (x : DataW H × List MemPlace) (h : DataW.trod enc Tryz.prog W 0 (fun _ => true) true fuel 5 cs = some x) : ∃ a : UInt8, cs = [.int .u8 (a.toNat : Int)] := by
  obtain ⟨k, e, _, hw⟩ := DataW.trod_int Tryz.underlying5 h
  have hr : 0 ≤ k ∧ k ≤ 255 := bounds_u8 hw
  refine ⟨UInt8.ofNat k.toNat, ?_⟩
  rw [e, UInt8.toNat_ofNat']
  congr 2
  omega
theorem bool_of_trod {H : Type} {enc : TypeId × Value → H} {W : World} (fuel : Nat) (cs : List Value) (x : DataW H × List MemPlace) (h : DataW.trod enc Tryz.prog W 0 (fun _ => true) true fuel 4 cs = some x) : ∃ a : Bool, cs = [.bool a] := by
  obtain ⟨k, e, _⟩ := DataW.trod_bool Tryz.underlying4 h
  exact ⟨k, e⟩
theorem cell_of_trod {H : Type} {enc : TypeId × Value → H} {W : World} (fuel : Nat) (cs : List Value) (x : DataW H × List MemPlace) (h : DataW.trod enc Tryz.prog W 0 (fun _ => true) true fuel 104 cs = some x) : ∃ a : Cl, cs = bn.cel a ∧ True := by
  obtain ⟨c, e⟩ := at_cell h
  exact ⟨c, e, trivial⟩
theorem cells_of_trod {H : Type} {enc : TypeId × Value → H} {W : World} {fuel : Nat} {cs : List Value} {x : DataW H × List MemPlace} (h : DataW.trod enc Tryz.prog W 0 (fun _ => true) true fuel 34 cs = some x) :
    ∃ (A : Option Addr) (n c : Nat) (l : List Cl), cs = [.slice A n c] ∧ RdE bn W W.heap.size A n l ∧ n ≤ c ∧ c ≤ maxLen := by
  obtain ⟨A, n, c, l, e, h1, h2, h3, _⟩ := elts_of_trod bn (fun _ => True) (by kernel_rfl) h (fun fuel cs x h => cell_of_trod fuel cs x h)
  exact ⟨A, n, c, l, e, h1, h2, h3⟩
def ClsIn (W : World) (A : Option Addr) (n c : Nat) : Prop := ∃ l : List Cl, RdE bn W W.heap.size A n l ∧ n ≤ c ∧ c ≤ maxLen
theorem split_at {α : Type} (l : List α) (a k : Nat) : l.drop a = (l.drop a).take k ++ l.drop (a + k) := by
  conv => lhs; rw [← List.take_append_drop k (l.drop a)]
  rw [List.drop_drop]
structure Act14 where
  Do : Int
  D : Int
  CsA : Option Addr
  Csn : Nat
  Csc : Nat
  N : Nat
  Near : Bool
  Size : Int
  At : Int
  By : UInt8
  PsA : Option Addr
  Psn : Nat
  Psc : Nat
structure Step14 where
  Clear : Bool
  N : UInt8
  CsA : Option Addr
  Csn : Nat
  Csc : Nat
def Step14.C (a : Step14) : List Value := [.bool a.Clear] ++ ([.int .u8 (a.N.toNat : Int)] ++ ([.slice a.CsA a.Csn a.Csc]))
def Step14.V (a : Step14) : Value := .agg a.C.toArray
theorem Step14.C_len (a : Step14) : a.C.length = 3 := by simp [Step14.C, ax, celM_length, celNt_length]
theorem Step14.C_one (a : Step14) : ∀ v ∈ a.C, v.oneCell' = true := by
  intro v hv
  simp only [Step14.C, List.mem_append, List.mem_singleton] at hv
  rcases hv with rfl | rfl | rfl
  · rfl
  · rfl
  · rfl
def Step14.zero : Step14 := ⟨false, 0, none, 0, 0⟩
def Step14E : Elt Step14 where
  s := 41
  t := 48
  n := 3
  by_ := 32
  cel := Step14.C
  d := Step14.zero
  z := Step14.zero.V
  pos := by omega
  small := by omega
  len := Step14.C_len
  one := Step14.C_one
  und := Tryz.underlying41
  info := by kernel_rfl
  zc := by show (Value.cells (.agg _)).size = 3; simp [Value.cells, Step14.C_len]
def Step14.In (W : World) (a : Step14) : Prop := (ClsIn W a.CsA a.Csn a.Csc)
section
variable {H : Type} {enc : TypeId × Value → H} {W : World} {base : Nat} {v : Value} {d : DataW H} {p : List MemPlace}
theorem Step14.of_trod (fuel : Nat) (cs : List Value) (x : DataW H × List MemPlace) (h : DataW.trod enc Tryz.prog W 0 (fun _ => true) true fuel 48 cs = some x) : ∃ a : Step14, cs = a.C ∧ a.In W := by
  obtain ⟨xs, m, _, _, hlen, hxl, hf⟩ := DataW.trod_struct Tryz.underlying48 h
  have h0 : DataW.trod enc Tryz.prog W 0 (fun _ => true) true m 4 ((cs.drop 0).take (Tryz.prog.cellsOf 4)) = xs[0]? := hf 0 _ rfl
  have h1 : DataW.trod enc Tryz.prog W 0 (fun _ => true) true m 5 ((cs.drop 1).take (Tryz.prog.cellsOf 5)) = xs[1]? := hf 1 _ rfl
  have h2 : DataW.trod enc Tryz.prog W 0 (fun _ => true) true m 34 ((cs.drop 2).take (Tryz.prog.cellsOf 34)) = xs[2]? := hf 2 _ rfl
  have hxl2 : xs.length = 3 := hxl
  have hln : cs.length = 3 := hlen.trans (by kernel_rfl)
  rw [show Tryz.prog.cellsOf 4 = 1 from by kernel_rfl, List.getElem?_eq_getElem (by omega)] at h0
  rw [show Tryz.prog.cellsOf 5 = 1 from by kernel_rfl, List.getElem?_eq_getElem (by omega)] at h1
  rw [show Tryz.prog.cellsOf 34 = 1 from by kernel_rfl, List.getElem?_eq_getElem (by omega)] at h2
  obtain ⟨a0, e0⟩ := bool_of_trod _ _ _ h0
  obtain ⟨a1, e1⟩ := u8_of_trod _ _ _ h1
  obtain ⟨A2, n2, c2, l2, e2, r2, s2, t2⟩ := cells_of_trod h2
  refine ⟨⟨a0, a1, A2, n2, c2⟩, ?_, ⟨l2, r2, s2, t2⟩⟩
  have q2 : cs.drop 2 = [.slice A2 n2 c2] := by rw [← List.take_of_length_le (l := cs.drop 2) (i := 1) (by rw [List.length_drop]; omega)]; exact e2
  have q1 : cs.drop 1 = [.int .u8 (a1.toNat : Int)] ++ ([.slice A2 n2 c2]) := by rw [split_at cs 1 1, e1, show 1 + 1 = 2 from rfl, q2]
  have q0 : cs.drop 0 = [.bool a0] ++ ([.int .u8 (a1.toNat : Int)] ++ ([.slice A2 n2 c2])) := by rw [split_at cs 0 1, e0, show 0 + 1 = 1 from rfl, q1]
  exact q0
theorem open_Step14s (hv : Value.okWide Tryz.prog W .any base 41 v) (h : DataW.Trod enc Tryz.prog W 0 (fun _ => true) true 41 v d p) :
    ∃ (A : Option Addr) (n c : Nat) (l : List Step14), v = .slice A n c ∧ RdE Step14E W W.heap.size A n l ∧ n ≤ c ∧ c ≤ maxLen ∧ ∀ k, k < n → (l.getD k Step14.zero).In W :=
  open_elts Step14E (Step14.In W) (by kernel_rfl) hv h (fun fuel cs x h => Step14.of_trod fuel cs x h)
end
theorem Step14.size : (Tryz.prog.info? 48).map (·.size) = some 3 := by kernel_rfl
theorem Step14.zinfo : (Tryz.prog.info? 48).map (fun i => i.zero) = some (some Step14.zero.V) := by kernel_rfl
section
variable {ρ : Operand → Value} {o : Oper} {x y : Operand} {w : World} {b off : Nat} {a c : Step14}
theorem exec_loadStep14 (ho : o.op = .load 48 x) (hx : ρ x = .pointer (some ⟨b, off, none⟩)) (hc : w.rangeAt b off a.C) : (execOp ρ o).run Tryz.prog w = .ok (.value a.V) w := dy Tryz.underlying48 rfl (by rw [Step14.C_len]; exact Step14.size) ho hx hc
theorem exec_allocStep14 (ho : o.op = .alloc 48) : (execOp ρ o).run Tryz.prog w = .ok (.value (.pointer (some ⟨w.heap.size, 0, none⟩))) (w.alloc (.cells Step14.zero.C.toArray 48)) := df Step14.zinfo ho
theorem exec_fillStep14 (ho : o.op = .store 48 x y) (hx : ρ x = .pointer (some ⟨w.heap.size, 0, none⟩)) (hy : ρ y = a.V) : (execOp ρ o).run Tryz.prog (w.alloc (.cells c.C.toArray 48)) = .ok .skip (w.alloc (.cells a.C.toArray 48)) := dP (by rw [Step14.C_len]; exact Step14.size) (by rw [Step14.C_len, Step14.C_len]) (Step14.C_one a) ho hx hy
end
section
variable {w w' : World} {b : Nat} {a : Step14}
theorem faStep140 : (Instr.fieldAt 48 (.pointer (some ⟨b, 0, none⟩)) 0).run Tryz.prog w = .ok (.pointer (some ⟨b, 0, none⟩)) w := by kernel_rfl
theorem faStep141 : (Instr.fieldAt 48 (.pointer (some ⟨b, 0, none⟩)) 1).run Tryz.prog w = .ok (.pointer (some ⟨b, 1, none⟩)) w := by kernel_rfl
theorem faStep142 : (Instr.fieldAt 48 (.pointer (some ⟨b, 0, none⟩)) 2).run Tryz.prog w = .ok (.pointer (some ⟨b, 2, none⟩)) w := by kernel_rfl
def Step14.At_ (w : World) (b : Nat) (a : Step14) : Prop := w.heap[b]? = some (.cells a.C.toArray 48 (0, 0))
theorem Step14.At_.range (h : Step14.At_ w b a) : w.rangeAt b 0 a.C := d7 h
theorem Step14.At_.new (w : World) (a : Step14) : Step14.At_ (w.alloc (.cells a.C.toArray 48)) w.heap.size a := heap_alloc_new w _
theorem Step14.At_.f0 (h : Step14.At_ w b a) : w.cell? ⟨b, 0, none⟩ = some (.bool a.Clear) := by
  have := h.range 0 (.bool a.Clear) (by
    show a.C[0]? = _
    rw [show 0 = 0 + 0 from rfl, ← List.getElem?_drop]
    rw [show a.C.drop 0 = [.bool a.Clear] ++ ([.int .u8 (a.N.toNat : Int)] ++ ([.slice a.CsA a.Csn a.Csc])) from ?_]
    · rfl
    · rfl)
  rwa [Nat.zero_add] at this
theorem Step14.At_.f1 (h : Step14.At_ w b a) : w.cell? ⟨b, 1, none⟩ = some (.int .u8 (a.N.toNat : Int)) := by
  have := h.range 1 (.int .u8 (a.N.toNat : Int)) (by
    show a.C[1]? = _
    rw [show 1 = 1 + 0 from rfl, ← List.getElem?_drop]
    rw [show a.C.drop 1 = [.int .u8 (a.N.toNat : Int)] ++ ([.slice a.CsA a.Csn a.Csc]) from ?_]
    · rfl
    · rfl)
  rwa [Nat.zero_add] at this
theorem Step14.At_.f2 (h : Step14.At_ w b a) : w.cell? ⟨b, 2, none⟩ = some (.slice a.CsA a.Csn a.Csc) := by
  have := h.range 2 (.slice a.CsA a.Csn a.Csc) (by
    show a.C[2]? = _
    rw [show 2 = 2 + 0 from rfl, ← List.getElem?_drop]
    rw [show a.C.drop 2 = [.slice a.CsA a.Csn a.Csc] from ?_]
    · rfl
    · rfl)
  rwa [Nat.zero_add] at this
end
structure Spot14 where
  Kind : Int
  N : Int
  B : Blk
  Count : Nat
  Mark : Mrk
  Note : Nte
structure Sl14 where
  A : Option Addr
  n : Nat
  c : Nat
def dm : Elt Sl14 where
  s := 46
  t := 34
  n := 1
  by_ := 24
  cel a := [.slice a.A a.n a.c]
  d := ⟨none, 0, 0⟩
  z := .slice none 0 0
  pos := by omega
  small := by omega
  len _ := rfl
  one a v hv := by simp at hv; subst hv; rfl
  und := Tryz.underlying46
  info := by kernel_rfl
  zc := rfl
open Go.RowKit
section
variable {S : List Blk} {x : LgS} {A : Nat → List Cl} {N left st : Nat} {b : Bool} {cs : List Cl} {f : Nat}
theorem OnD.lgok (h : OnD S x A N) : LgOk (solo S [] left b st) x N :=
  ⟨by rw [h.dev]; exact Nat.zero_lt_one, by rw [h.dev]; show 10 + x.size ≤ S.length; have := h.len; omega, h.siz, h.own.2, h.use, h.eig, h.lim, by have := h.cnt; omega, by have := h.fst; omega, by have := h.pos; omega,
    fun i hi => by
      obtain ⟨t1, t2, t3⟩ := h.tak hi
      have e := (h.rcd i hi).2.1
      exact ⟨by omega, by omega, (h.nts i hi).2.1, (h.note_fit hi).2⟩⟩
end
section
variable {ρ : Operand → Value} {o : Oper} {x y : Operand} {w : World} {t r : TypeId}
theorem exec_sbI {a b c : Int} (ho : o.op = .binOp .sub t x y r) (hx : ρ x = .int .u64 a) (hy : ρ y = .int .u64 b) (h : IntKind.u64.wrap (a - b) = c) : (execOp ρ o).run Tryz.prog w = .ok (.value (.int .u64 c)) w := by
  unfold execOp
  simp [ho, hx, hy, eqGuard, binOp, Op.intArith, h]
theorem exec_cv8U {n : Nat} (ho : o.op = .convert 5 35 x) (hx : ρ x = .int .u8 (n : Int)) (hn : n < 256) : (execOp ρ o).run Tryz.prog w = .ok (.value (.int .u64 (n : Int))) w := by
  have h : IntKind.u64.wrap (n : Int) = (n : Int) := IntWalk.u64_in _ ⟨by omega, by omega⟩
  have hc : (convert 5 35 (.int .u8 (n : Int))).run Tryz.prog w = .ok (.int .u64 (n : Int)) w := by simp [convert, go_sem, h]
  unfold execOp
  simp only [ho, hx, Sem.run_bind, hc, Result.andThen_ok, Sem.run_pure]
theorem ldClsA {ad : Addr} {A : Option Addr} {n c : Nat} (h : w.cell? ad = some (.slice A n c)) : (Instr.loadAt 34 (.pointer (some ad))).run Tryz.prog w = .ok (.slice A n c) w := by simp [go_sem, h]
theorem ldBoolA {ad : Addr} {k : Bool} (h : w.cell? ad = some (.bool k)) : (Instr.loadAt 4 (.pointer (some ad))).run Tryz.prog w = .ok (.bool k) w := by simp [go_sem, h]
theorem exec_remI {a b c : Int} (ho : o.op = .binOp .rem t x y r) (hx : ρ x = .int .u64 a) (hy : ρ y = .int .u64 b) (h0 : b ≠ 0) (h : a.tmod b = c) : (execOp ρ o).run Tryz.prog w = .ok (.value (.int .u64 c)) w := by
  unfold execOp
  simp [ho, hx, hy, eqGuard, binOp, Op.intDiv, h, h0]
theorem u64w {a : Nat} (h : a < 18446744073709551616) : IntKind.u64.wrap (a : Int) = (a : Int) := IntWalk.u64_in _ ⟨by omega, by omega⟩
theorem i64w {a : Int} (h : 0 ≤ a ∧ a ≤ 9223372036854775807) : IntKind.i64.wrap a = a := IntWalk.i64_in _ ⟨by omega, by omega⟩
end
def slV (s : Sl14) : Value := .slice s.A s.n s.c
structure AllAt (B : Nat) (wr : World) (K : Nat → Prop) (v : Value) (L : List (List Cl)) (ss : List Sl14) : Prop where
  all : aA dm wr B v ss
  len : ss.length = L.length
  own : ∀ b, v.ownBlock = some b → K b
  row : ∀ i, i < L.length → aA bn wr B (slV (ss.getD i dm.d)) (L.getD i []) ∧ ∀ b, (slV (ss.getD i dm.d)).ownBlock = some b → K b
section
variable {B : Nat} {w w' : World} {K K' : Nat → Prop} {v : Value} {L : List (List Cl)} {ss : List Sl14} {A : Option Addr} {n c : Nat} {cl : List Cl}
theorem AllAt.nil (B : Nat) (w : World) : AllAt B w K (.slice none 0 0) [] [] := ⟨aA.nil w B, rfl, fun b e => by simp [Value.ownBlock] at e, fun i hi => absurd hi (by simp)⟩
theorem AllAt.kept (h : AllAt B w K v L ss) (hk : ∀ b, K b → w'.heap[b]? = w.heap[b]?) : AllAt B w' K v L ss :=
  ⟨h.all.kept_ fun b e => hk b (h.own b e), h.len, h.own, fun i hi => ⟨(h.row i hi).1.kept_ fun b e => hk b ((h.row i hi).2 b e), (h.row i hi).2⟩⟩
theorem AllAt.below (h : AllAt B w K v L ss) (hb : Below w.heap.size w w') : AllAt B w' K v L ss :=
  ⟨h.all.below hb, h.len, h.own, fun i hi => ⟨(h.row i hi).1.below hb, (h.row i hi).2⟩⟩
theorem AllAt.get (h : AllAt B w K v L ss) {i : Nat} (hi : i < L.length) : ∃ g c s, v = .slice (some ⟨g, 0, none⟩) L.length c ∧ w.cell? ⟨g, i, none⟩ = some (slV s) ∧ s.n = (L.getD i []).length ∧ RdE bn w w.heap.size s.A s.n (L.getD i []) := by
  obtain ⟨A, c, rfl, hr, _⟩ := h.all.open_ h.len
  obtain ⟨g, c2, e⟩ := h.all.slice h.len (by omega)
  cases e
  obtain ⟨b, off, e, _, hc⟩ := hr.2 i hi
  cases e
  obtain ⟨m, _⟩ := h.row i hi
  obtain ⟨A2, c3, e2, hr2, _⟩ := m.open_ rfl
  have hn : (ss.getD i dm.d).n = (L.getD i []).length := by
    unfold slV at e2
    injection e2
  have hA : (ss.getD i dm.d).A = A2 := by
    unfold slV at e2
    injection e2
  refine ⟨g, _, ss.getD i dm.d, rfl, ?_, hn, by rw [hA, hn]; exact hr2⟩
  have := hc 0 (slV (ss.getD i dm.d)) rfl
  rwa [show 0 + i * dm.n + 0 = i from by show 0 + i * 1 + 0 = i; omega] at this
theorem AllAt.app (ty : TypeId) (h : AllAt B w K v L ss) (hr : aA bn w B (.slice A n c) cl) (hB : B ≤ w.heap.size) (hl : L.length ≤ 1000) :
    ∃ v' w', (Builtin.append_ #[dm.s, dm.s] ty #[v, .slice (some ⟨w.heap.size, 0, none⟩) 1 1]).run Tryz.prog (w.alloc (.cells (dm.cel ⟨A, n, c⟩).toArray dm.t)) = .ok v' w' ∧
      AllAt B w' (fun b => K b ∨ v'.ownBlock = some b ∨ (Value.slice A n c).ownBlock = some b) v' (L ++ [cl]) (ss ++ [⟨A, n, c⟩]) ∧ Only (fun b => v.ownBlock = some b) w w' ∧ (∀ x, v'.ownBlock = some x → v.ownBlock = some x ∨ w.heap.size ≤ x) := by
  have hb1 := (Below.refl w.heap.size w).alloc (Nat.le_refl _) (.cells (dm.cel ⟨A, n, c⟩).toArray dm.t)
  have hz : (w.alloc (.cells (dm.cel ⟨A, n, c⟩).toArray dm.t)).heap.size = w.heap.size + 1 := World.size_alloc ..
  have hrd := dZ (E := dm) (l := [⟨A, n, c⟩]) w (dm.cel ⟨A, n, c⟩).toArray dm.t rfl
  obtain ⟨v', w', h1, h2, h3, h4⟩ := er dm _ ty B _ 1 1 v ss [⟨A, n, c⟩] _ (h.all.below hb1) hrd (by omega) (by have := h.len; omega)
  have ho : Only (fun b => v.ownBlock = some b) w w' := ((Only.refl _ w).cJ hb1).grown h3 fun k e => .inl e
  refine ⟨v', w', h1, ⟨h2, by rw [List.length_append, List.length_append, h.len]; rfl, fun b e => .inr (.inl e), fun i hi => ?_⟩, ho, fun x e => (h4 x e).imp id fun e => by omega⟩
  rw [List.length_append] at hi
  have hi2 : i < L.length + 1 := hi
  have keep : ∀ {u : Value} {l : List Cl}, aA bn w B u l → aA bn w' B u l := fun k => (k.below hb1).kept h3 ((k.below hb1).other (h.all.below hb1) (by decide))
  by_cases e : i = L.length
  · subst e
    rw [fh, ← h.len, fh]
    exact ⟨keep hr, fun b e => .inr (.inr e)⟩
  · have i1 : i < L.length := by omega
    have i2 : i < ss.length := by rw [h.len]; exact i1
    rw [eX (l := L) i1, eX (l := ss) i2]
    obtain ⟨m1, m2⟩ := h.row i i1
    exact ⟨keep m1, fun b e => .inl (m2 b e)⟩
end
theorem LAt.inK {C : LogI} {w0 w wz : World} {B q p : Nat} {K K' F : Nat → Prop} {M : BenS} {x : LgS} (h : LAt C w0 B K w q p M x) (k : Only F w wz) (hF : ∀ b, F b → K b ∧ B ≤ b) (hK : ∀ b, K' b → K b ∨ (w.heap.size ≤ b ∧ b < wz.heap.size)) : LAt C w0 B K' wz q p M x := by
  have hle := AtK.le h
  obtain ⟨G, h1, h2, h3, h4, h5⟩ := h
  have hs := k.size
  refine ⟨G, C.only h1 k fun b hb hf => (h5 b (hF b hf).1).1 hb, h2, h3.trans (k.below (fun b e => (hF b e).2) hle), h4, fun b hb => ?_⟩
  rcases hK b hb with e | ⟨e1, e2⟩
  · obtain ⟨g1, g2⟩ := h5 b e
    exact ⟨g1, by omega⟩
  · exact ⟨fun hg => by have := C.lt h1 b hg; omega, e2⟩
theorem forget {G : Act → World → Prop} {l : List Value} {ds : List Deferred} {w : World} (i : Nat) (h : ∀ u, G ⟨(l.set i u).toArray, ds⟩ w) : G ⟨l.toArray, ds⟩ w := by
  by_cases hi : i < l.length
  · have := h l[i]
    rwa [List.set_getElem_self] at this
  · have := h undef
    rwa [List.set_eq_of_length_le (by omega)] at this
theorem share13 {F : World → Prop} {G : Prop} {T : Value → Value → Value → Value → Value → Value → Value → Value → Value → Value → Value → Value → Value → World → Prop}
    (k : (∀ a b c d e f g h i j l m n w, F w → T a b c d e f g h i j l m n w) → G) (h : ∀ a b c d e f g h i j l m n w, F w → T a b c d e f g h i j l m n w) : G := k h
theorem share24 {G : Prop} {T : Value → Value → Value → Value → Value → Value → Value → Value → Value → Value → Value → Value → Value → Value → Value → Value → Value → Value → Value → Value → Value → Value → Value → Value → Prop}
    (k : (∀ a b c d e f g h i j l m n a2 b2 c2 d2 e2 f2 g2 h2 i2 j2 k2, T a b c d e f g h i j l m n a2 b2 c2 d2 e2 f2 g2 h2 i2 j2 k2) → G) (h : ∀ a b c d e f g h i j l m n a2 b2 c2 d2 e2 f2 g2 h2 i2 j2 k2, T a b c d e f g h i j l m n a2 b2 c2 d2 e2 f2 g2 h2 i2 j2 k2) : G := k h
def FinS (M : BenS) (f1 f2 : Nat) (L : List (List Cl)) (la : List Cl) : Prop :=
  ∀ P : List Int, ∃ S' st' x A N, crS6 M P = solo S' [] 0 false st' ∧ OnD S' x A N ∧ (x.fst = f1 ∨ x.fst = f2) ∧ (x.next = L.length + 1 ∨ (la ≠ [] ∧ x.next = L.length + 2)) ∧
    ∀ i, x.fst ≤ i → i < x.next → A i = if i ≤ L.length then L.getD (i - 1) [] else la
def FinC (w : World) (K : Nat → Prop) (wr : World) (q f1 f2 : Nat) (L : List (List Cl)) (la : List Cl) (dk : Bool) : Prop :=
  ∃ M x p, LAt eA w w.heap.size K wr q p M x ∧ M.bY = dk ∧ FinS M f1 f2 L la
def cW (w : World) (K : Nat → Prop) (wr : World) (q p k : Nat) (x : LgS) (L : List (List Cl)) : Prop :=
  ∃ S A st N left, LAt eA w w.heap.size K wr q p (solo S [] left false st) x ∧ OnD S x A N ∧ Twn S x ∧ N ≤ k + 1 ∧ st ≤ 13 + 40 * k ∧ 1 ≤ left ∧ left ≤ 1000 ∧ x.next = L.length + 1 ∧ ∀ i, x.fst ≤ i → i < x.next → A i = L.getD (i - 1) []
theorem solo_roomL {S : List Blk} {left st k : Nat} (h : st + k ≤ 1000000) (hl : left ≤ 1000) : Room (solo S [] left false st) k := by
  refine ⟨h, by show left < _; omega, fun d hd => ?_⟩
  rw [show (solo S [] left false st).ds = [⟨S, [], false⟩] from rfl, List.mem_singleton] at hd
  subst hd
  show 0 + k ≤ _
  omega
section
variable {w wr wz : World} {K K' F : Nat → Prop} {q p k f1 f2 : Nat} {x : LgS} {L : List (List Cl)} {la : List Cl} {dk : Bool}
theorem cW.guard (h : cW w K wr q p k x L) (hb : Below wr.heap.size wr wz) (hK : ∀ b, K' b → K b ∨ (wr.heap.size ≤ b ∧ b < wz.heap.size)) : cW w K' wz q p k x L := by
  obtain ⟨S, A, st, N, left, h1, h2⟩ := h
  exact ⟨S, A, st, N, left, h1.guard hb hK, h2⟩
theorem cW.below (h : cW w K wr q p k x L) (hb : Below wr.heap.size wr wz) : cW w K wz q p k x L := h.guard hb fun b e => .inl e
theorem cW.inK (h : cW w K wr q p k x L) (k_ : Only F wr wz) (hF : ∀ b, F b → K b ∧ w.heap.size ≤ b) (hK : ∀ b, K' b → K b ∨ (wr.heap.size ≤ b ∧ b < wz.heap.size)) : cW w K' wz q p k x L := by
  obtain ⟨S, A, st, N, left, h1, h2⟩ := h
  exact ⟨S, A, st, N, left, h1.inK k_ hF hK, h2⟩
theorem cW.bel (h : cW w K wr q p k x L) : Below w.heap.size w wr := by
  obtain ⟨S, A, st, N, left, h1, h2⟩ := h
  exact AtK.bel h1
theorem cW.more (h : cW w K wr q p k x L) {j : Nat} (hj : k ≤ j) : cW w K wr q p j x L := by
  obtain ⟨S, A, st, N, left, h1, h2, h3, h4, h5, h6⟩ := h
  exact ⟨S, A, st, N, left, h1, h2, h3, by omega, by omega, h6⟩
theorem cW.nums (h : cW w K wr q p k x L) : x.next = L.length + 1 ∧ x.next = x.fst + x.nts.length ∧ 1 ≤ x.fst ∧ x.next ≤ k + 1 ∧ x.nts.length ≤ 8 := by
  obtain ⟨S, A, st, N, left, h1, h2, h3, h4, h5, h6, h7, h8, h9⟩ := h
  have := h2.fst
  exact ⟨h8, rfl, by omega, by omega, h2.eig⟩
theorem FinC.guard (h : FinC w K wr q f1 f2 L la dk) (hb : Below wr.heap.size wr wz) (hK : ∀ b, K' b → K b ∨ (wr.heap.size ≤ b ∧ b < wz.heap.size)) : FinC w K' wz q f1 f2 L la dk := by
  obtain ⟨M, x, p, h1, h2⟩ := h
  exact ⟨M, x, p, h1.guard hb hK, h2⟩
theorem FinC.below (h : FinC w K wr q f1 f2 L la dk) (hb : Below wr.heap.size wr wz) : FinC w K wz q f1 f2 L la dk := h.guard hb fun b e => .inl e
theorem FinC.dark_ (h : FinC w K wr q f1 f2 L la dk) : Calls Tryz.prog 16 #[.pointer (some ⟨q, 0, none⟩)] wr fun e w' => e = .returned (.bool dk) ∧ Below wr.heap.size wr w' := by
  obtain ⟨M, x, p, ⟨G, h1, _⟩, rfl, _⟩ := h
  obtain ⟨Gb, b1, _⟩ := eA.ben h1
  exact eA.R.bY b1
theorem cW.fin (h : cW w K wr q p k x L) : FinC w K wr q x.fst x.fst L [] false := by
  obtain ⟨S, A, st, N, left, h1, h2, h3, h4, h5, h6, h7, h8, h9⟩ := h
  refine ⟨_, x, p, h1, rfl, fun P => ⟨crI S [] P 0, st, x, A, N, solo_cr _ _, by simpa [crI] using h2, .inl rfl, .inl h8, fun i i1 i2 => ?_⟩⟩
  rw [if_pos (by omega)]
  exact h9 i i1 i2
def CutApp (w : World) (K : Nat → Prop) (wr : World) (q p k : Nat) (x : LgS) (L : List (List Cl)) (cs : List Cl) (e : Ending) (w' : World) : Prop :=
  keptK K wr w' ∧ ∃ (a : Nat) (E : Int), e = .returned (.tuple #[.int .u64 (a : Int), .int .i64 E]) ∧
    ((E = 0 ∧ a = x.next ∧ cs.length ≤ 32 ∧ ∃ x', x'.fst = x.fst ∧ cW w K w' q p (k + 1) x' (L ++ [cs])) ∨ (E ≠ 0 ∧ E ≠ 8 ∧ cW w K w' q p (k + 1) x L) ∨ (E = 8 ∧ cs.length ≤ 32 ∧ FinC w K w' q x.fst x.fst L cs true))
theorem recE_not8 {cs : List Cl} : ((recE cs : Nat) : Int) ≠ 8 := by
  unfold recE
  split
  · decide
  · split <;> decide
theorem appQ_not8 {x : LgS} {cs : List Cl} : appQ x cs ≠ 8 := by
  unfold appQ
  split
  · exact recE_not8
  · split <;> decide
theorem cW.app (B : Option Addr) (n c N0 : Nat) (cs : List Cl) (h : cW w K wr q p k x L) (hk : k ≤ 1000) (hc : RdE bn wr N0 B n cs) (hN0 : N0 ≤ wr.heap.size) (hn : n ≤ maxLen) :
    Calls Tryz.prog 19 #[.pointer (some ⟨p, 0, none⟩), .slice B n c] wr (CutApp w K wr q p k x L cs) := by
  obtain ⟨S, A, st, N, left, h1, h2, h3, h4, h5, h6, h7, h8, h9⟩ := h
  refine (h1.app B n c N0 cs h2.lgok (solo_roomL (by omega) (by omega)) hc hN0 hn).mono ?_
  rintro e w' ⟨rfl, k1, k2⟩
  refine ⟨k2, appN (solo S [] left false st) x cs, appE (solo S [] left false st) x cs, rfl, ?_⟩
  by_cases hq : appQ x cs = 0
  rotate_left 1
  · right
    left
    obtain ⟨a1, a2, a3, _⟩ := app_no (M := solo S [] left false st) hq
    rw [a2, a3] at k1
    exact ⟨by rw [a1]; exact hq, by rw [a1]; exact appQ_not8, S, A, st, N, left, k1, h2, h3, by omega, by omega, h6, h7, h8, h9⟩
  obtain ⟨c1, _, _⟩ := of_appQ hq
  obtain ⟨c2, c3, _⟩ := of_recE c1
  have hhd : hd cs.length ≤ 2 := by unfold hd; omega
  have hrl := bL cs
  have hup : ∀ i, x.fst ≤ i → i < x.next + 1 → upA A x.next cs i = if i ≤ L.length then L.getD (i - 1) [] else cs := fun i i1 i2 => by
    by_cases e : i = x.next
    · subst e
      rw [if_neg (by omega)]
      exact upA_at
    · rw [upA_off e, if_pos (by omega)]
      exact h9 i i1 (by omega)
  rcases app_go (left := left) (st := st) h2 h3 hq (by omega) with ⟨g0, g1, S', g2, g3, g4⟩ | ⟨_, g1, S1, L1, st', g2, g3, g4, g5⟩
  · left
    have e2 : appX (solo S [] left false st) x cs = x.with_ (cD x cs) := if_pos g1
    rw [e2, g2] at k1
    refine ⟨g1, if_pos g1, c3, x.with_ (cD x cs), rfl, S', _, _, N + 1, _, k1, g3, g4, by omega, by omega, by omega, by omega, by rw [eq, List.length_append, h8]; rfl, fun i i1 i2 => ?_⟩
    rw [eq] at i2
    rw [hup i i1 i2]
    by_cases e : i ≤ L.length
    · rw [if_pos e, eX (by have : 1 ≤ i := Nat.le_trans h2.fst.1 i1; omega)]
    · rw [if_neg e, show i - 1 = L.length from by omega, fh]
  · right
    right
    have e2 : appX (solo S [] left false st) x cs = x := if_neg (by rw [g1]; decide)
    rw [e2, g2] at k1
    refine ⟨g1, c3, _, x, p, k1, rfl, fun P => ?_⟩
    rcases g5 P with g | g
    · refine ⟨_, st', x, A, N, solo_cr _ _, g, .inl rfl, .inl h8, fun i i1 i2 => ?_⟩
      rw [if_pos (by omega)]
      exact h9 i i1 i2
    · exact ⟨_, st', _, _, N + 1, solo_cr _ _, g, .inl rfl, .inr ⟨fun e => by rw [e] at c2; simp at c2, by rw [eq]; omega⟩, fun i i1 i2 => hup i i1 (by rw [eq] at i2; exact i2)⟩
def CutClr (w : World) (K : Nat → Prop) (wr : World) (q p k : Nat) (x : LgS) (L : List (List Cl)) (f : Nat) (e : Ending) (w' : World) : Prop :=
  keptK K wr w' ∧ ∃ E : Int, e = .returned (.int .i64 E) ∧ ((E = 0 ∧ cW w K w' q p (k + 1) (x.cut f) L) ∨ (E = 8 ∧ FinC w K w' q x.fst f L [] true))
theorem cW.clr (f : Nat) (h : cW w K wr q p k x L) (hk : k ≤ 1000) (hq : clrQ x f = true) : Calls Tryz.prog 17 #[.pointer (some ⟨p, 0, none⟩), .int .u64 (f : Nat)] wr (CutClr w K wr q p k x L f) := by
  have hn := h.nums
  have hc := of_clrQ hq
  obtain ⟨S, A, st, N, left, h1, h2, h3, h4, h5, h6, h7, h8, h9⟩ := h
  refine (h1.clr f h2.lgok (solo_roomL (by omega) (by omega)) (by omega)).mono ?_
  rintro e w' ⟨rfl, k1, k2⟩
  refine ⟨k2, _, rfl, ?_⟩
  rcases clr_go (left := left) (st := st) h2 h3 hq (by omega) with ⟨g0, g1, S', g2, g3, g4⟩ | ⟨_, g1, S1, L1, st', g2, g3, g4, g5⟩
  · left
    have e2 : clrX (solo S [] left false st) x f = x.cut f := if_pos g1
    rw [e2, g2] at k1
    exact ⟨g1, S', A, _, N + 1, _, k1, g3, g4, by omega, by omega, by omega, by omega, by rw [fe hq]; exact h8, fun i i1 i2 => h9 i (Nat.le_trans hc.1 i1) (by rw [fe hq] at i2; exact i2)⟩
  · right
    have e2 : clrX (solo S [] left false st) x f = x := if_neg (by rw [g1]; decide)
    rw [e2, g2] at k1
    refine ⟨g1, _, x, p, k1, rfl, fun P => ?_⟩
    rcases g5 P with g | g
    · refine ⟨_, st', x, A, N, solo_cr _ _, g, .inl rfl, .inl h8, fun i i1 i2 => ?_⟩
      rw [if_pos (by omega)]
      exact h9 i i1 i2
    · refine ⟨_, st', _, A, N + 1, solo_cr _ _, g, .inr rfl, .inl (by rw [fe hq]; exact h8), fun i i1 i2 => ?_⟩
      rw [fe hq] at i2
      rw [if_pos (by omega)]
      exact h9 i (Nat.le_trans hc.1 i1) i2
def OpenC (w : World) (K : Nat → Prop) (wr : World) (q f1 f2 : Nat) (L : List (List Cl)) (la : List Cl) : Prop :=
  ∃ S' st' x A N, BAt eA w w.heap.size K wr q (solo S' [] 0 false st') ∧ OnD S' x A N ∧ (x.fst = f1 ∨ x.fst = f2) ∧ (x.next = L.length + 1 ∨ (la ≠ [] ∧ x.next = L.length + 2)) ∧
    ∀ i, x.fst ≤ i → i < x.next → A i = if i ≤ L.length then L.getD (i - 1) [] else la
theorem FinC.crash {A : Option Addr} {n c : Nat} {P : List Int} (h : FinC w K wr q f1 f2 L la dk) (hP : RdE dq w w.heap.size A n P) (hn : n ≤ c) (hc : c ≤ maxLen) : Calls Tryz.prog 21 #[.pointer (some ⟨q, 0, none⟩), .slice A n c] wr fun e w' => e = .returned (.int .i64 0) ∧ OpenC w K w' q f1 f2 L la ∧ keptK K wr w' := by
  obtain ⟨M, x, p, h1, _, h3⟩ := h
  have hbel := AtK.bel h1
  obtain ⟨G, g1, g2, g3, g4, g5⟩ := h1.bench
  refine (eA.R.crash (P := P) ⟨(hP.below hbel).more hbel.size, hn, hc, fun y hy h0 hg => by
    obtain ⟨b, off, e, hlt, _⟩ := hP.2 0 h0
    rw [e] at hy
    cases hy
    have : w.heap.size ≤ b := g2 b hg
    omega⟩ g1).mono ?_
  rintro e w' ⟨rfl, F', k1, k2, k3⟩
  obtain ⟨y1, y2⟩ := AtK.turn (P' := fun w G => eA.R.Bn w G q (crS6 M P)) (K := K) g2 g3 g4 g5 k1 k2 k3
  obtain ⟨S', st', x', A', N', z1, z2⟩ := h3 P
  rw [z1] at y1
  exact ⟨rfl, ⟨S', st', x', A', N', y1, z2⟩, y2⟩
def RecC (w : World) (K : Nat → Prop) (wr : World) (q p : Nat) (x : LgS) (L : List (List Cl)) (la : List Cl) : Prop :=
  ∃ S' st' A N, LAt eA w w.heap.size K wr q p (solo S' [] 0 false st') x ∧ OnD S' x A N ∧ ∀ i, x.fst ≤ i → i < x.next → A i = if i ≤ L.length then L.getD (i - 1) [] else la
theorem OpenC.open_ (h : OpenC w K wr q f1 f2 L la) : Calls Tryz.prog 22 #[.pointer (some ⟨q, 0, none⟩), .int .i64 0] wr fun e w' => ∃ p x, e = .returned (.tuple #[.pointer (some ⟨p, 0, none⟩), .int .i64 0]) ∧ RecC w K w' q p x L la ∧ keptK K wr w' ∧ (x.fst = f1 ∨ x.fst = f2) ∧ (x.next = L.length + 1 ∨ (la ≠ [] ∧ x.next = L.length + 2)) ∧ 1 ≤ x.fst ∧ x.fst ≤ x.next := by
  obtain ⟨S', st', x, A, N, h1, h2, h3, h4, h5⟩ := h
  obtain ⟨o1, o2⟩ := h2.open_ (left := 0) (st := st')
  refine (h1.open_ 0).mono ?_
  intro e w' hq
  obtain ⟨p, he, k1, k2⟩ := hq.yes o1
  rw [o2] at k1
  exact ⟨p, x, he, ⟨S', st', A, N, k1, h2, h5⟩, k2, h3, h4, h2.fst.1, Nat.le_add_right _ _⟩
theorem RecC.below (h : RecC w K wr q p x L la) (hb : Below wr.heap.size wr wz) : RecC w K wz q p x L la := by
  obtain ⟨S, A, st, N, h1, h2⟩ := h
  exact ⟨S, A, st, N, h1.below hb, h2⟩
theorem RecC.bel (h : RecC w K wr q p x L la) : Below w.heap.size w wr := by
  obtain ⟨S, A, st, N, h1, h2⟩ := h
  exact AtK.bel h1
theorem RecC.live (h : RecC w K wr q p x L la) : Calls Tryz.prog 23 #[.pointer (some ⟨p, 0, none⟩)] wr fun e w' => e = .returned (.tuple #[.int .u64 ((x.fst : Nat) : Int), .int .u64 ((x.next : Nat) : Int)]) ∧ Below wr.heap.size wr w' := by
  obtain ⟨S, st, A, N, h1, h2, _⟩ := h
  exact h1.live h2.lgok
def CutRec (wr : World) (L : List (List Cl)) (la : List Cl) (i : Nat) (e : Ending) (w' : World) : Prop :=
  ∃ (A : Option Addr) (n c : Nat) (l : List Cl), e = .returned (.tuple #[.slice A n c, .int .i64 0]) ∧ RdE bn w' w'.heap.size A n l ∧ n ≤ maxLen ∧ Below wr.heap.size wr w' ∧ l = if i ≤ L.length then L.getD (i - 1) [] else la
theorem RecC.rec_ (h : RecC w K wr q p x L la) (i : Nat) (h1 : x.fst ≤ i) (h2 : i < x.next) (h3 : x.next ≤ 2000) : Calls Tryz.prog 24 #[.pointer (some ⟨p, 0, none⟩), .int .u64 ((i : Nat) : Int)] wr (CutRec wr L la i) := by
  obtain ⟨S, st, A, N, g1, g2, g3⟩ := h
  refine (g1.rec_ i g2.lgok (by omega)).mono ?_
  rintro e w' ⟨v', rfl, k1, k2⟩
  obtain ⟨e1, e2⟩ := g2.record (left := 0) (st := st) (q := i) (decide_eq_true ⟨h1, h2⟩)
  rw [e1]
  rw [e2] at k1
  obtain ⟨A', c, rfl, hr, hn1, hn2⟩ := k1.open_ rfl
  exact ⟨A', _, c, _, rfl, hr, Nat.le_trans hn1 hn2, k2, g3 i h1 h2⟩
theorem Laid.cut {r : Nat} {e : Ending} {w' : World} (h : Laid eA w r e w') : ∃ q p S, e = .returned (.tuple #[.pointer (some ⟨q, 0, none⟩), .pointer (some ⟨p, 0, none⟩), .bool true]) ∧ LAt eA w w.heap.size (fun _ => False) w' q p (solo S [] 0 false 13) (layX 0 7 (r : Int)) ∧ (∀ A, OnD S (layX 0 7 (r : Int)) A 1) ∧ Twn S (layX 0 7 (r : Int)) := by
  obtain ⟨q, p, S, he, h1, h2, h3, h4⟩ := h
  exact ⟨q, p, S, he, h1, h2, h3⟩
theorem cut_arm {S : List Blk} {st a : Nat} (ha : 1 ≤ a ∧ a ≤ 1000) (h1 : LAt eA w w.heap.size K wr q p (solo S [] 0 false st) x) (h2 : ∀ A, OnD S x A 1) (h3 : Twn S x) (hst : st ≤ 13) (hx : x.fst = 1 ∧ x.nts = []) :
    Calls Tryz.prog 15 #[.pointer (some ⟨q, 0, none⟩), .int .i64 (a : Int)] wr fun e w' => e = .returned (.int .i64 0) ∧ cW w K w' q p 0 x [] ∧ keptK K wr w' := by
  have e1 : arE6 (solo S [] 0 false st) (a : Int) = 0 := by
    unfold arE6 solo
    simp
  have e2 : arS6 (solo S [] 0 false st) (a : Int) = solo S [] a false st := by
    unfold arS6
    rw [if_pos e1]
    rfl
  refine (h1.ben (M' := arS6 (solo S [] 0 false st) (a : Int)) (v := .int .i64 0) fun hb => by
    have := eA.R.arm (a : Int) hb
    rw [e1] at this
    exact this).mono ?_
  rintro e w' ⟨rfl, k1, k2⟩
  rw [e2] at k1
  have hn : x.next = 1 := by unfold LgS.next; rw [hx.1, hx.2]; rfl
  exact ⟨rfl, ⟨S, fun _ => [], st, 1, a, k1, h2 _, h3, by omega, by omega, ha.1, ha.2, hn, fun i i1 i2 => by rw [hx.1] at i1; omega⟩, k2⟩
theorem AllAt.mono {B : Nat} {v : Value} {ss : List Sl14} (h : AllAt B wr K v L ss) (hK : ∀ b, K b → K' b) : AllAt B wr K' v L ss :=
  ⟨h.all, h.len, fun b e => hK b (h.own b e), fun i hi => ⟨(h.row i hi).1, fun b e => hK b ((h.row i hi).2 b e)⟩⟩
theorem cut_add {w2 w3 : World} {v vc : Value} {ss : List Sl14} {cl : List Cl} (ty : TypeId) (hs : cW w K w2 q p k x (L ++ [cl])) (ha : AllAt w.heap.size w2 K v L ss) (hv : aA bn w3 w2.heap.size vc cl) (hb : Below w2.heap.size w2 w3) (hl : L.length ≤ 1000) :
    ∃ A c, vc = .slice A cl.length c ∧ ∃ v' w' K', (Builtin.append_ #[dm.s, dm.s] ty #[v, .slice (some ⟨w3.heap.size, 0, none⟩) 1 1]).run Tryz.prog (w3.alloc (.cells (dm.cel ⟨A, cl.length, c⟩).toArray dm.t)) = .ok v' w' ∧
      cW w K' w' q p k x (L ++ [cl]) ∧ AllAt w.heap.size w' K' v' (L ++ [cl]) (ss ++ [⟨A, cl.length, c⟩]) := by
  obtain ⟨A, c, rfl, _, _⟩ := hv.form
  have hle := hs.bel.size
  have hs2 := hb.size
  have g1 : cW w (fun b => K b ∨ (Value.slice A cl.length c).ownBlock = some b) w3 q p k x (L ++ [cl]) := hs.guard hb fun b e => e.imp id fun e => hv.own_both b e
  obtain ⟨v', w', h1, h2, h3, h4⟩ := (ha.below hb).app ty (hv.base hle) (by omega) hl
  refine ⟨A, c, rfl, v', w', _, h1, ?_, h2⟩
  refine g1.inK h3 (fun b e => ⟨.inl (ha.own b e), ((ha.all.own_both b e).1)⟩) fun b e => ?_
  rcases e with e | e | e
  · exact .inl (.inl e)
  · rcases h4 b e with e2 | e2
    · exact .inl (.inl (ha.own b e2))
    · exact .inr ⟨e2, (h2.all.own_both b e).2⟩
  · exact .inl (.inr e)
def CutR (w : World) (q p : Nat) (v12 v13 v14 v15 i : Value) (wr : World) (j fs un : Nat) (L : List (List Cl)) (K : Nat → Prop) (ss : List Sl14) (Al : Option Addr) (nl cl : Nat) (la : List Cl) (dk : Bool) : Prop :=
  i = .int .i64 j ∧ j ≤ 40 ∧ v13 = .int .u64 fs ∧ v14 = .int .u64 un ∧ v15 = .slice Al nl cl ∧ RdE bn w w.heap.size Al nl la ∧ nl ≤ maxLen ∧ AllAt w.heap.size wr K v12 L ss ∧ L.length ≤ j ∧ FinC w K wr q fs un L la dk ∧ (dk = false → ∃ x, cW w K wr q p j x L ∧ fs = x.fst ∧ un = x.fst ∧ la = [])
end
end Go.Proofs.YtcafafdimcecpaaGreatDoor
