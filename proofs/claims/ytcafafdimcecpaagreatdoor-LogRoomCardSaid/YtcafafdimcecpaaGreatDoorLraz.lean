import Derived.Test.YtcafafdimcecpaaGreatDoorLrab
import Derived.Test.YtcafafdimcecpaaGreatDoorLraa
import Derived.Deep.Slices
import Derived.Lib.SmallJoins
import Derived.Test.YtcafafdimcecpaaGreatDoorLrah
import Derived.Test.YtcafafdimcecpaaGreatDoorLray
import Derived.Test.YtcafafdimcecpaaGreatDoorLrak
import Derived.Test.YtcafafdimcecpaaGreatDoorLran
import Derived.Test.YtcafafdimcecpaaGreatDoorLraj
import Derived.Test.YtcafafdimcecpaaGreatDoorLrZ
namespace Go.Proofs.YtcafafdimcecpaaGreatDoor
open Go.RowKit Go.ChangeShapes Go.WideShapes Go.ChangeAt Go.Deep
set_option maxRecDepth 100000
set_option linter.unusedVariables false
section
variable {H : Type} {enc : TypeId × Value → H} {W : World} {base : Nat} {v : Value} {d : DataW H} {p : List MemPlace}
theorem elts_of_trod {α : Type} (E : Elt α) (Good : α → Prop) (hc : Tryz.prog.cellsOf E.t = E.n) {fuel : Nat} {cs : List Value} {x : DataW H × List MemPlace} (hf : DataW.trod enc Tryz.prog W 0 (fun _ => true) true fuel E.s cs = some x)
    (hE : ∀ (fuel : Nat) (cs : List Value) (x : DataW H × List MemPlace), DataW.trod enc Tryz.prog W 0 (fun _ => true) true fuel E.t cs = some x → ∃ a, cs = E.cel a ∧ Good a) :
    ∃ (A : Option Addr) (n c : Nat) (l : List α), cs = [.slice A n c] ∧ RdE E W W.heap.size A n l ∧ n ≤ c ∧ c ≤ maxLen ∧ ∀ k, k < n → Good (l.getD k E.d) := by
  rcases open_slice E.und hf with ⟨hcs, hx⟩ | ⟨a, len0, cap, m, n, D, Pl, hcs, hb, hl, hm, hmm, hx, hel⟩
  · exact ⟨none, 0, 0, [], hcs, RdE.nil _ _ _, by omega, by unfold maxLen; omega, fun k hk => absurd hk (by omega)⟩
  · simp only [if_true] at hmm
    subst hmm
    haveI : Inhabited α := ⟨E.d⟩
    obtain ⟨f, hf2⟩ := choose_lt (α := α) (p := fun i b => W.cells? 0 (a.add (i * E.n)) E.n = some (E.cel b) ∧ Good b) (n := m) (fun i hi => by
      obtain ⟨cs', h1, h2⟩ := hel i hi
      rw [hc] at h1
      obtain ⟨b, rfl, hg⟩ := hE _ _ _ h2
      exact ⟨b, h1, hg⟩)
    have hp := E.pos
    refine ⟨some a, len0, m, (List.range len0).map f, hcs, ⟨by simp, fun k hk => ?_⟩, hl, hm, fun k hk => ?_⟩
    · obtain ⟨b, off, spot⟩ := a
      have hzero : ∀ i, ∃ u, (E.cel (f i))[0]? = some u := fun i => ⟨_, List.getElem?_eq_getElem (by rw [E.len]; exact hp)⟩
      have hspot : spot = none := by
        obtain ⟨u, hu⟩ := hzero 0
        have h0 := (World.cells?_some (hf2 0 (by omega)).1).2.2 0 hp
        rw [hu] at h0
        have := World.cell?_spot h0
        simpa [Addr.add] using this
      subst hspot
      have hcc := World.cells?_some (hf2 k (by omega)).1
      refine ⟨b, off, rfl, ?_, fun j u hj => ?_⟩
      · obtain ⟨u, hu⟩ := hzero k
        have h0 := hcc.2.2 0 hp
        rw [hu, add_mid, add_mid] at h0
        exact World.block_lt_of_cell? W _ h0
      · have hlt : j < E.n := by have := (List.getElem?_eq_some_iff.1 hj).1; rwa [E.len] at this
        have h1 := hcc.2.2 j hlt
        rw [add_mid, add_mid] at h1
        rw [h1, ← hj]
        simp [List.getD, hk]
    · simpa [List.getD, hk] using (hf2 k (by omega)).2
theorem open_elts {α : Type} (E : Elt α) (Good : α → Prop) (hc : Tryz.prog.cellsOf E.t = E.n) (hv : Value.okWide Tryz.prog W .any base E.s v) (h : DataW.Trod enc Tryz.prog W 0 (fun _ => true) true E.s v d p)
    (hE : ∀ (fuel : Nat) (cs : List Value) (x : DataW H × List MemPlace), DataW.trod enc Tryz.prog W 0 (fun _ => true) true fuel E.t cs = some x → ∃ a, cs = E.cel a ∧ Good a) :
    ∃ (A : Option Addr) (n c : Nat) (l : List α), v = .slice A n c ∧ RdE E W W.heap.size A n l ∧ n ≤ c ∧ c ≤ maxLen ∧ ∀ k, k < n → Good (l.getD k E.d) := by
  obtain ⟨a0, len0, cap0, rfl⟩ := okWide_slice E.und hv
  obtain ⟨fuel, hf⟩ := h
  obtain ⟨A, n, c, l, hcs, rest⟩ := elts_of_trod E Good hc hf hE
  simp [Value.cells] at hcs
  obtain ⟨rfl, rfl, rfl⟩ := hcs
  exact ⟨_, _, _, l, rfl, rest⟩
end
set_option linter.unusedSimpArgs false
theorem u8_of_trod {H : Type} {enc : TypeId × Value → H} {W : World} (fuel : Nat) (cs : List Value) (x : DataW H × List MemPlace) (h : DataW.trod enc Tryz.prog W 0 (fun _ => true) true fuel 5 cs = some x) : ∃ a : UInt8, cs = [.int .u8 (a.toNat : Int)] := by
  obtain ⟨k, e, _, hw⟩ := DataW.trod_int Tryz.underlying5 h
  have hr : 0 ≤ k ∧ k ≤ 255 := bounds_u8 hw
  refine ⟨UInt8.ofNat k.toNat, ?_⟩
  rw [e, UInt8.toNat_ofNat']
  congr 2
  omega
theorem bool_of_trod {H : Type} {enc : TypeId × Value → H} {W : World} (fuel : Nat) (cs : List Value) (x : DataW H × List MemPlace) (h : DataW.trod enc Tryz.prog W 0 (fun _ => true) true fuel 4 cs = some x) : ∃ a : Bool, cs = [.bool a] := by
  obtain ⟨k, e, _⟩ := DataW.trod_bool Tryz.underlying4 h
  exact ⟨k, e⟩
theorem cell_of_trod {H : Type} {enc : TypeId × Value → H} {W : World} (fuel : Nat) (cs : List Value) (x : DataW H × List MemPlace) (h : DataW.trod enc Tryz.prog W 0 (fun _ => true) true fuel 104 cs = some x) : ∃ a : Cl, cs = bE.cel a ∧ True := by
  obtain ⟨c, e⟩ := at_cell h
  exact ⟨c, e, trivial⟩
theorem cells_of_trod {H : Type} {enc : TypeId × Value → H} {W : World} {fuel : Nat} {cs : List Value} {x : DataW H × List MemPlace} (h : DataW.trod enc Tryz.prog W 0 (fun _ => true) true fuel 34 cs = some x) :
    ∃ (A : Option Addr) (n c : Nat) (l : List Cl), cs = [.slice A n c] ∧ RdE bE W W.heap.size A n l ∧ n ≤ c ∧ c ≤ maxLen := by
  obtain ⟨A, n, c, l, e, h1, h2, h3, _⟩ := elts_of_trod bE (fun _ => True) (by kernel_rfl) h (fun fuel cs x h => cell_of_trod fuel cs x h)
  exact ⟨A, n, c, l, e, h1, h2, h3⟩
def ClsIn (W : World) (A : Option Addr) (n c : Nat) : Prop := ∃ l : List Cl, RdE bE W W.heap.size A n l ∧ n ≤ c ∧ c ≤ maxLen
theorem split_at {α : Type} (l : List α) (a k : Nat) : l.drop a = (l.drop a).take k ++ l.drop (a + k) := by
  conv => lhs; rw [← List.take_append_drop k (l.drop a)]
  rw [List.drop_drop]
structure Act14 where
  Do : Int
  D : Int
  CsA : Option Addr
  Csn : Nat
  Csc : Nat
  N : Nat
  Near : Bool
  Size : Int
  At : Int
  By : UInt8
  PsA : Option Addr
  Psn : Nat
  Psc : Nat
structure Step14 where
  Clear : Bool
  N : UInt8
  CsA : Option Addr
  Csn : Nat
  Csc : Nat
def Step14.C (a : Step14) : List Value := [.bool a.Clear] ++ ([.int .u8 (a.N.toNat : Int)] ++ ([.slice a.CsA a.Csn a.Csc]))
def Step14.V (a : Step14) : Value := .agg a.C.toArray
theorem Step14.C_len (a : Step14) : a.C.length = 3 := by simp [Step14.C, aw, celM_length, celNt_length]
theorem Step14.C_one (a : Step14) : ∀ v ∈ a.C, v.oneCell' = true := by
  intro v hv
  simp only [Step14.C, List.mem_append, List.mem_singleton] at hv
  rcases hv with rfl | rfl | rfl
  · rfl
  · rfl
  · rfl
def Step14.zero : Step14 := ⟨false, 0, none, 0, 0⟩
def Step14E : Elt Step14 where
  s := 41
  t := 48
  n := 3
  by_ := 32
  cel := Step14.C
  d := Step14.zero
  z := Step14.zero.V
  pos := by omega
  small := by omega
  len := Step14.C_len
  one := Step14.C_one
  und := Tryz.underlying41
  info := by kernel_rfl
  zc := by show (Value.cells (.agg _)).size = 3; simp [Value.cells, Step14.C_len]
def Step14.In (W : World) (a : Step14) : Prop := (ClsIn W a.CsA a.Csn a.Csc)
section
variable {H : Type} {enc : TypeId × Value → H} {W : World} {base : Nat} {v : Value} {d : DataW H} {p : List MemPlace}
theorem Step14.of_trod (fuel : Nat) (cs : List Value) (x : DataW H × List MemPlace) (h : DataW.trod enc Tryz.prog W 0 (fun _ => true) true fuel 48 cs = some x) : ∃ a : Step14, cs = a.C ∧ a.In W := by
  obtain ⟨xs, m, _, _, hlen, hxl, hf⟩ := DataW.trod_struct Tryz.underlying48 h
  have h0 : DataW.trod enc Tryz.prog W 0 (fun _ => true) true m 4 ((cs.drop 0).take (Tryz.prog.cellsOf 4)) = xs[0]? := hf 0 _ rfl
  have h1 : DataW.trod enc Tryz.prog W 0 (fun _ => true) true m 5 ((cs.drop 1).take (Tryz.prog.cellsOf 5)) = xs[1]? := hf 1 _ rfl
  have h2 : DataW.trod enc Tryz.prog W 0 (fun _ => true) true m 34 ((cs.drop 2).take (Tryz.prog.cellsOf 34)) = xs[2]? := hf 2 _ rfl
  have hxl2 : xs.length = 3 := hxl
  have hln : cs.length = 3 := hlen.trans (by kernel_rfl)
  rw [show Tryz.prog.cellsOf 4 = 1 from by kernel_rfl, List.getElem?_eq_getElem (by omega)] at h0
  rw [show Tryz.prog.cellsOf 5 = 1 from by kernel_rfl, List.getElem?_eq_getElem (by omega)] at h1
  rw [show Tryz.prog.cellsOf 34 = 1 from by kernel_rfl, List.getElem?_eq_getElem (by omega)] at h2
  obtain ⟨a0, e0⟩ := bool_of_trod _ _ _ h0
  obtain ⟨a1, e1⟩ := u8_of_trod _ _ _ h1
  obtain ⟨A2, n2, c2, l2, e2, r2, s2, t2⟩ := cells_of_trod h2
  refine ⟨⟨a0, a1, A2, n2, c2⟩, ?_, ⟨l2, r2, s2, t2⟩⟩
  have q2 : cs.drop 2 = [.slice A2 n2 c2] := by rw [← List.take_of_length_le (l := cs.drop 2) (i := 1) (by rw [List.length_drop]; omega)]; exact e2
  have q1 : cs.drop 1 = [.int .u8 (a1.toNat : Int)] ++ ([.slice A2 n2 c2]) := by rw [split_at cs 1 1, e1, show 1 + 1 = 2 from rfl, q2]
  have q0 : cs.drop 0 = [.bool a0] ++ ([.int .u8 (a1.toNat : Int)] ++ ([.slice A2 n2 c2])) := by rw [split_at cs 0 1, e0, show 0 + 1 = 1 from rfl, q1]
  exact q0
theorem open_Step14s (hv : Value.okWide Tryz.prog W .any base 41 v) (h : DataW.Trod enc Tryz.prog W 0 (fun _ => true) true 41 v d p) :
    ∃ (A : Option Addr) (n c : Nat) (l : List Step14), v = .slice A n c ∧ RdE Step14E W W.heap.size A n l ∧ n ≤ c ∧ c ≤ maxLen ∧ ∀ k, k < n → (l.getD k Step14.zero).In W :=
  open_elts Step14E (Step14.In W) (by kernel_rfl) hv h (fun fuel cs x h => Step14.of_trod fuel cs x h)
end
theorem Step14.size : (Tryz.prog.info? 48).map (·.size) = some 3 := by kernel_rfl
theorem Step14.zinfo : (Tryz.prog.info? 48).map (fun i => i.zero) = some (some Step14.zero.V) := by kernel_rfl
section
variable {ρ : Operand → Value} {o : Oper} {x y : Operand} {w : World} {b off : Nat} {a c : Step14}
theorem exec_loadStep14 (ho : o.op = .load 48 x) (hx : ρ x = .pointer (some ⟨b, off, none⟩)) (hc : w.rangeAt b off a.C) : (execOp ρ o).run Tryz.prog w = .ok (.value a.V) w := dq Tryz.underlying48 rfl (by rw [Step14.C_len]; exact Step14.size) ho hx hc
theorem exec_allocStep14 (ho : o.op = .alloc 48) : (execOp ρ o).run Tryz.prog w = .ok (.value (.pointer (some ⟨w.heap.size, 0, none⟩))) (w.alloc (.cells Step14.zero.C.toArray 48)) := dc Step14.zinfo ho
theorem exec_fillStep14 (ho : o.op = .store 48 x y) (hx : ρ x = .pointer (some ⟨w.heap.size, 0, none⟩)) (hy : ρ y = a.V) : (execOp ρ o).run Tryz.prog (w.alloc (.cells c.C.toArray 48)) = .ok .skip (w.alloc (.cells a.C.toArray 48)) := dI (by rw [Step14.C_len]; exact Step14.size) (by rw [Step14.C_len, Step14.C_len]) (Step14.C_one a) ho hx hy
end
section
variable {w w' : World} {b : Nat} {a : Step14}
theorem faStep140 : (Instr.fieldAt 48 (.pointer (some ⟨b, 0, none⟩)) 0).run Tryz.prog w = .ok (.pointer (some ⟨b, 0, none⟩)) w := by kernel_rfl
theorem faStep141 : (Instr.fieldAt 48 (.pointer (some ⟨b, 0, none⟩)) 1).run Tryz.prog w = .ok (.pointer (some ⟨b, 1, none⟩)) w := by kernel_rfl
theorem ed : (Instr.fieldAt 48 (.pointer (some ⟨b, 0, none⟩)) 2).run Tryz.prog w = .ok (.pointer (some ⟨b, 2, none⟩)) w := by kernel_rfl
def Step14.At_ (w : World) (b : Nat) (a : Step14) : Prop := w.heap[b]? = some (.cells a.C.toArray 48 (0, 0))
theorem Step14.At_.range (h : Step14.At_ w b a) : w.rangeAt b 0 a.C := dV h
theorem Step14.At_.below {B : Nat} (h : Step14.At_ w b a) (hB : b < B) (hb : Below B w w') : Step14.At_ w' b a := blk_keep2 h hB hb
theorem Step14.At_.new (w : World) (a : Step14) : Step14.At_ (w.alloc (.cells a.C.toArray 48)) w.heap.size a := heap_alloc_new w _
theorem Step14.At_.f0 (h : Step14.At_ w b a) : w.cell? ⟨b, 0, none⟩ = some (.bool a.Clear) := by
  have := h.range 0 (.bool a.Clear) (by
    show a.C[0]? = _
    rw [show 0 = 0 + 0 from rfl, ← List.getElem?_drop]
    rw [show a.C.drop 0 = [.bool a.Clear] ++ ([.int .u8 (a.N.toNat : Int)] ++ ([.slice a.CsA a.Csn a.Csc])) from ?_]
    · rfl
    · rfl)
  rwa [Nat.zero_add] at this
theorem Step14.At_.f1 (h : Step14.At_ w b a) : w.cell? ⟨b, 1, none⟩ = some (.int .u8 (a.N.toNat : Int)) := by
  have := h.range 1 (.int .u8 (a.N.toNat : Int)) (by
    show a.C[1]? = _
    rw [show 1 = 1 + 0 from rfl, ← List.getElem?_drop]
    rw [show a.C.drop 1 = [.int .u8 (a.N.toNat : Int)] ++ ([.slice a.CsA a.Csn a.Csc]) from ?_]
    · rfl
    · rfl)
  rwa [Nat.zero_add] at this
theorem Step14.At_.f2 (h : Step14.At_ w b a) : w.cell? ⟨b, 2, none⟩ = some (.slice a.CsA a.Csn a.Csc) := by
  have := h.range 2 (.slice a.CsA a.Csn a.Csc) (by
    show a.C[2]? = _
    rw [show 2 = 2 + 0 from rfl, ← List.getElem?_drop]
    rw [show a.C.drop 2 = [.slice a.CsA a.Csn a.Csc] from ?_]
    · rfl
    · rfl)
  rwa [Nat.zero_add] at this
end
structure Spot14 where
  Kind : Int
  N : Int
  B : Blk
  Count : Nat
  Mark : Mrk
  Note : Nte
open Go.RowKit
section
variable {S : List Blk} {x : LgS} {A : Nat → List Cl} {N left st : Nat} {b : Bool} {cs : List Cl} {f : Nat}
theorem OnD.lgok (h : OnD S x A N) : LgOk (solo S [] left b st) x N :=
  ⟨by rw [h.dev]; exact Nat.zero_lt_one, by rw [h.dev]; show 10 + x.size ≤ S.length; have := h.len; omega, h.siz, h.own.2, h.use, h.eig, h.lim, by have := h.cnt; omega, by have := h.fst; omega, by have := h.pos; omega,
    fun i hi => by
      obtain ⟨t1, t2, t3⟩ := h.tak hi
      have e := (h.rcd i hi).2.1
      exact ⟨by omega, by omega, (h.nts i hi).2.1, (h.note_fit hi).2⟩⟩
theorem recL_siz (hc : 1 ≤ cs.length ∧ cs.length ≤ 32) : (bC cs).length = dr (cs.length : Int) := by rw [bD, fa hc.1 hc.2]
theorem rm_clr (h : OnD S x A N) (t : Twn S x) (hN : N + 1 ≤ 1000000) (hq : clrQ x f = true) :
    clrE (solo S [] 0 false st) x f = 0 ∧ clrX (solo S [] 0 false st) x f = x.cut f ∧ ∃ S' st', clrB (solo S [] 0 false st) x f = solo S' [] 0 false st' ∧ st' ≤ st + 40 ∧ OnD S' (x.cut f) A (N + 1) ∧ Twn S' (x.cut f) := by
  rcases clr_go (left := 0) (st := st) h t hq hN with ⟨_, h1, S', h2, h3, h4⟩ | ⟨h0, _⟩
  · exact ⟨h1, if_pos h1, S', st + 2, h2, by omega, h3, h4⟩
  · omega
theorem cut_free (hq : clrQ x f = true) : x.free ≤ (x.cut f).free := by
  have := cut_used hq
  unfold LgS.free
  show x.size - x.used ≤ x.size - (x.cut f).used
  omega
theorem cut_all : (x.cut x.next).free = x.size := by
  unfold LgS.free LgS.used LgS.cut LgS.next
  simp [usd]
theorem rm_app (h : OnD S x A N) (t : Twn S x) (hN : N + 1 ≤ 1000000) (hc : 1 ≤ cs.length ∧ cs.length ≤ 32) :
    (appE (solo S [] 0 false st) x cs = 2 ∧ appB (solo S [] 0 false st) x cs = solo S [] 0 false st ∧ appX (solo S [] 0 false st) x cs = x) ∨
    (appE (solo S [] 0 false st) x cs = 10 ∧ appB (solo S [] 0 false st) x cs = solo S [] 0 false st ∧ appX (solo S [] 0 false st) x cs = x ∧ ¬ (dr (cs.length : Int) ≤ x.free ∧ x.nts.length < 8)) ∨
    (appE (solo S [] 0 false st) x cs = 0 ∧ appX (solo S [] 0 false st) x cs = x.with_ (cw x cs) ∧ appN (solo S [] 0 false st) x cs = x.next ∧ dr (cs.length : Int) ≤ x.free ∧ x.nts.length < 8 ∧ (x.with_ (cw x cs)).free = x.free - dr (cs.length : Int) ∧
      ∃ S' st', appB (solo S [] 0 false st) x cs = solo S' [] 0 false st' ∧ st' ≤ st + 40 ∧ OnD S' (x.with_ (cw x cs)) (upA A x.next cs) (N + 1) ∧ Twn S' (x.with_ (cw x cs))) := by
  have hl := recL_siz hc
  by_cases hr : recE cs = 0
  rotate_left 1
  · left
    have h2 : recE cs = 2 := by
      unfold recE at hr ⊢
      split
      · rfl
      · rename_i h1
        rw [if_neg h1, if_neg (by omega)] at hr
        exact absurd rfl hr
    have hq : appQ x cs ≠ 0 := by rw [appQ_rec hr, h2]; decide
    obtain ⟨a1, a2, a3, _⟩ := app_no (M := solo S [] 0 false st) hq
    exact ⟨by rw [a1, appQ_rec hr, h2]; rfl, a2, a3⟩
  right
  by_cases hf : 8 ≤ x.nts.length ∨ x.free < (bC cs).length
  · left
    have e := appQ_full hr hf
    obtain ⟨a1, a2, a3, _⟩ := app_no (M := solo S [] 0 false st) (x := x) (cs := cs) (by rw [e]; decide)
    exact ⟨by rw [a1, e], a2, a3, by omega⟩
  · right
    have hq := appQ_ok hr hf
    have hhd : hd cs.length ≤ 2 := by unfold hd; omega
    rcases app_go (left := 0) (st := st) h t hq hN with ⟨_, h1, S', h2, h3, h4⟩ | ⟨h0, _⟩
    · rw [Nat.zero_sub] at h2
      refine ⟨h1, if_pos h1, if_pos h1, by omega, by omega, ?_, S', _, h2, (by rw [bD]; omega), h3, h4⟩
      unfold LgS.free
      rw [with_used, ee]
      show x.size - _ = x.size - _ - _
      omega
    · omega
end
section
variable {ρ : Operand → Value} {o : Oper} {x y : Operand} {w : World} {t r : TypeId}
theorem exec_neBool {a b : Bool} (c : Bool) (ho : o.op = .binOp .neq 4 x y r) (hx : ρ x = .bool a) (hy : ρ y = .bool b) (h : (a != b) = c) : (execOp ρ o).run Tryz.prog w = .ok (.value (.bool c)) w := by
  have he := run_equalIn_bool' (P := Tryz.prog) w 9999 4 a b Tryz.underlying4
  unfold execOp
  subst h
  simp [ho, hx, hy, eqGuard, binOp, Op.equal, Op.maxDepth, he, bne]
theorem exec_sbI {a b c : Int} (ho : o.op = .binOp .sub t x y r) (hx : ρ x = .int .u64 a) (hy : ρ y = .int .u64 b) (h : IntKind.u64.wrap (a - b) = c) : (execOp ρ o).run Tryz.prog w = .ok (.value (.int .u64 c)) w := by
  unfold execOp
  simp [ho, hx, hy, eqGuard, binOp, Op.intArith, h]
theorem exec_cv8U {n : Nat} (ho : o.op = .convert 5 35 x) (hx : ρ x = .int .u8 (n : Int)) (hn : n < 256) : (execOp ρ o).run Tryz.prog w = .ok (.value (.int .u64 (n : Int))) w := by
  have h : IntKind.u64.wrap (n : Int) = (n : Int) := IntWalk.u64_in _ ⟨by omega, by omega⟩
  have hc : (convert 5 35 (.int .u8 (n : Int))).run Tryz.prog w = .ok (.int .u64 (n : Int)) w := by simp [convert, go_sem, h]
  unfold execOp
  simp only [ho, hx, Sem.run_bind, hc, Result.andThen_ok, Sem.run_pure]
theorem ldClsA {ad : Addr} {A : Option Addr} {n c : Nat} (h : w.cell? ad = some (.slice A n c)) : (Instr.loadAt 34 (.pointer (some ad))).run Tryz.prog w = .ok (.slice A n c) w := by simp [go_sem, h]
theorem ldBoolA {ad : Addr} {k : Bool} (h : w.cell? ad = some (.bool k)) : (Instr.loadAt 4 (.pointer (some ad))).run Tryz.prog w = .ok (.bool k) w := by simp [go_sem, h]
theorem exec_remI {a b c : Int} (ho : o.op = .binOp .rem t x y r) (hx : ρ x = .int .u64 a) (hy : ρ y = .int .u64 b) (h0 : b ≠ 0) (h : a.tmod b = c) : (execOp ρ o).run Tryz.prog w = .ok (.value (.int .u64 c)) w := by
  unfold execOp
  simp [ho, hx, hy, eqGuard, binOp, Op.intDiv, h, h0]
theorem u64w {a : Nat} (h : a < 18446744073709551616) : IntKind.u64.wrap (a : Int) = (a : Int) := IntWalk.u64_in _ ⟨by omega, by omega⟩
theorem i64w {a : Int} (h : 0 ≤ a ∧ a ≤ 9223372036854775807) : IntKind.i64.wrap a = a := IntWalk.i64_in _ ⟨by omega, by omega⟩
end
def RmS (w : World) (K : Nat → Prop) (wr : World) (q p k : Nat) (x : LgS) : Prop :=
  ∃ S A st N, LAt theLog w w.heap.size K wr q p (solo S [] 0 false st) x ∧ OnD S x A N ∧ Twn S x ∧ N ≤ k + 1 ∧ st ≤ 13 + 40 * k
section
variable {w wr wz : World} {K K' : Nat → Prop} {q p k : Nat} {x : LgS}
theorem RmS.guard (h : RmS w K wr q p k x) (hb : Below wr.heap.size wr wz) (hK : ∀ b, K' b → K b ∨ (wr.heap.size ≤ b ∧ b < wz.heap.size)) : RmS w K' wz q p k x := by
  obtain ⟨S, A, st, N, h1, h2⟩ := h
  exact ⟨S, A, st, N, h1.guard hb hK, h2⟩
theorem RmS.below (h : RmS w K wr q p k x) (hb : Below wr.heap.size wr wz) : RmS w K wz q p k x := h.guard hb fun b e => .inl e
theorem RmS.bel (h : RmS w K wr q p k x) : Below w.heap.size w wr := by
  obtain ⟨S, A, st, N, h1, h2⟩ := h
  exact AtK.bel h1
theorem RmS.live (h : RmS w K wr q p k x) : Calls Tryz.prog 23 #[.pointer (some ⟨p, 0, none⟩)] wr fun e w' => e = .returned (.tuple #[.int .u64 ((x.fst : Nat) : Int), .int .u64 ((x.next : Nat) : Int)]) ∧ Below wr.heap.size wr w' := by
  obtain ⟨S, A, st, N, h1, h2, _⟩ := h
  exact h1.live h2.lgok
theorem RmS.free (h : RmS w K wr q p k x) : Calls Tryz.prog 31 #[.pointer (some ⟨p, 0, none⟩)] wr fun e w' => e = .returned (.int .i64 ((x.free : Nat) : Int)) ∧ Below wr.heap.size wr w' := by
  obtain ⟨S, A, st, N, h1, h2, _⟩ := h
  exact h1.free h2.lgok
theorem RmS.ring (h : RmS w K wr q p k x) : Calls Tryz.prog 32 #[.pointer (some ⟨p, 0, none⟩)] wr fun e w' => e = .returned (.int .i64 ((x.size : Nat) : Int)) ∧ Below wr.heap.size wr w' := by
  obtain ⟨S, A, st, N, h1, h2, _⟩ := h
  exact h1.ring h2.lgok
theorem RmS.nums (h : RmS w K wr q p k x) : x.next = x.fst + x.nts.length ∧ 1 ≤ x.fst ∧ x.next ≤ k + 1 ∧ x.nts.length ≤ 8 ∧ x.free ≤ x.size ∧ x.size ≤ 256 := by
  obtain ⟨S, A, st, N, h1, h2, _, h4, _⟩ := h
  have := h2.fst
  have := h2.siz
  exact ⟨rfl, by omega, by omega, h2.eig, Nat.sub_le _ _, by omega⟩
theorem RmS.clr (f : Nat) (h : RmS w K wr q p k x) (hk : k ≤ 1000) (hq : clrQ x f = true) : Calls Tryz.prog 17 #[.pointer (some ⟨p, 0, none⟩), .int .u64 (f : Nat)] wr fun e w' => e = .returned (.int .i64 0) ∧ RmS w K w' q p (k + 1) (x.cut f) ∧ keptK K wr w' := by
  have hn := h.nums
  have hc := of_clrQ hq
  obtain ⟨S, A, st, N, h1, h2, h3, h4, h5⟩ := h
  obtain ⟨e1, e2, S', st', e3, e4, e5, e6⟩ := rm_clr (st := st) h2 h3 (by omega) hq
  refine (h1.clr f h2.lgok (solo_room (by omega)) (by omega)).mono ?_
  rintro e w' ⟨rfl, k1, k2⟩
  rw [e2, e3] at k1
  exact ⟨by rw [e1], ⟨S', A, st', N + 1, k1, e5, e6, by omega, by omega⟩, k2⟩
theorem RmS.clr_no (f : Nat) (h : RmS w K wr q p k x) (hk : k ≤ 1000) (hf : f < 18446744073709551616) (hq : clrQ x f = false) : Calls Tryz.prog 17 #[.pointer (some ⟨p, 0, none⟩), .int .u64 (f : Nat)] wr fun e w' => e = .returned (.int .i64 2) ∧ RmS w K w' q p k x ∧ keptK K wr w' := by
  obtain ⟨S, A, st, N, h1, h2, h3, h4, h5⟩ := h
  refine (h1.clr f h2.lgok (solo_room (by omega)) hf).mono ?_
  rintro e w' ⟨rfl, k1, k2⟩
  have n1 : clrE (solo S [] 0 false st) x f = 2 := if_neg (by rw [hq]; decide)
  have n2 : clrB (solo S [] 0 false st) x f = solo S [] 0 false st := if_neg (by rw [hq]; decide)
  have n3 : clrX (solo S [] 0 false st) x f = x := if_neg (by rw [n1]; decide)
  rw [n2, n3] at k1
  exact ⟨by rw [n1], ⟨S, A, st, N, k1, h2, h3, h4, h5⟩, k2⟩
def RmApp (w : World) (K : Nat → Prop) (wr : World) (q p k : Nat) (x : LgS) (n : Nat) (e : Ending) (w' : World) : Prop :=
  keptK K wr w' ∧ ∃ (a : Nat) (E : Int) (x' : LgS), e = .returned (.tuple #[.int .u64 (a : Int), .int .i64 E]) ∧ RmS w K w' q p (k + 1) x' ∧
    ((E = 2) ∨ (E = 10 ∧ x' = x ∧ ¬ (dr (n : Int) ≤ x.free ∧ x.nts.length < 8)) ∨ (E = 0 ∧ a = x.next ∧ dr (n : Int) ≤ x.free ∧ x.nts.length < 8 ∧ x'.free = x.free - dr (n : Int)))
theorem RmS.app (B : Option Addr) (n c N0 : Nat) (cs : List Cl) (h : RmS w K wr q p k x) (hk : k ≤ 1000) (hc : RdE bE wr N0 B n cs) (hN0 : N0 ≤ wr.heap.size) (hn : 1 ≤ n ∧ n ≤ 32) :
    Calls Tryz.prog 19 #[.pointer (some ⟨p, 0, none⟩), .slice B n c] wr (RmApp w K wr q p k x n) := by
  have hl : cs.length = n := hc.1
  subst hl
  obtain ⟨S, A, st, N, h1, h2, h3, h4, h5⟩ := h
  refine (h1.app B cs.length c N0 cs h2.lgok (solo_room (by omega)) hc hN0 (by unfold maxLen; omega)).mono ?_
  rintro e w' ⟨rfl, k1, k2⟩
  refine ⟨k2, appN (solo S [] 0 false st) x cs, appE (solo S [] 0 false st) x cs, appX (solo S [] 0 false st) x cs, rfl, ?_, ?_⟩
  rotate_left 1
  · rcases rm_app (st := st) h2 h3 (by omega) hn with ⟨e1, _⟩ | ⟨e1, e2, e3, e4⟩ | ⟨e1, e2, e3, e4, e5, e6, _⟩
    · exact .inl e1
    · exact .inr (.inl ⟨e1, e3, e4⟩)
    · exact .inr (.inr ⟨e1, e3, e4, e5, by rw [e2]; exact e6⟩)
  · rcases rm_app (st := st) h2 h3 (by omega) hn with ⟨e1, e2, e3⟩ | ⟨e1, e2, e3, e4⟩ | ⟨e1, e2, e3, e4, e5, e6, S', st', g1, g2, g3, g4⟩
    · rw [e3] at k1 ⊢
      rw [e2] at k1
      exact ⟨S, A, st, N, k1, h2, h3, by omega, by omega⟩
    · rw [e3] at k1 ⊢
      rw [e2] at k1
      exact ⟨S, A, st, N, k1, h2, h3, by omega, by omega⟩
    · rw [e2] at k1 ⊢
      rw [g1] at k1
      exact ⟨S', _, st', N + 1, k1, g3, g4, by omega, by omega⟩
theorem RmS.lt (h : RmS w K wr q p k x) {b : Nat} (hb : K b) : b < wr.heap.size := by
  obtain ⟨S, A, st, N, h1, h2⟩ := h
  exact AtK.lt h1 hb
theorem RmS.more (h : RmS w K wr q p k x) {j : Nat} (hj : k ≤ j) : RmS w K wr q p j x := by
  obtain ⟨S, A, st, N, h1, h2, h3, h4, h5⟩ := h
  exact ⟨S, A, st, N, h1, h2, h3, by omega, by omega⟩
theorem RmS.free_of (h : RmS w K wr q p k x) (hK : ∀ b, ¬ K' b) : RmS w K' wr q p k x := h.guard (Below.refl _ _) fun b e => absurd e (hK b)
theorem Laid.rms {r : Nat} {e : Ending} {w' : World} (h : Laid theLog w r e w') : ∃ q p, e = .returned (.tuple #[.pointer (some ⟨q, 0, none⟩), .pointer (some ⟨p, 0, none⟩), .bool true]) ∧ RmS w (fun _ => False) w' q p 0 (layX 0 7 (r : Int)) := by
  obtain ⟨q, p, S, he, h1, h2, h3, h4⟩ := h
  exact ⟨q, p, he, S, fun _ => [], 13, 1, h1, h2 _, h3, by omega, by omega⟩
end
end Go.Proofs.YtcafafdimcecpaaGreatDoor
