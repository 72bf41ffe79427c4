import Derived.Test.YtbbcdhkinbmdnaaGreatDoorLoad
import Derived.Test.YtbbcdhkinbmdnaaGreatDoorLoaa
import Derived.Deep.Slices
import Derived.Lib.SmallJoins
import Derived.Test.YtbbcdhkinbmdnaaGreatDoorLoac
import Derived.Test.YtbbcdhkinbmdnaaGreatDoorLoab
import Derived.Laws.CopyOwn
import Derived.OrdersHeld
import Derived.Test.YtbbcdhkinbmdnaaGreatDoorLoZ
namespace Go.Proofs.YtbbcdhkinbmdnaaGreatDoor
open Go.RowKit Go.ChangeShapes Go.WideShapes Go.ChangeAt Go.Deep
set_option maxRecDepth 100000
set_option linter.unusedVariables false
section
variable {H : Type} {enc : TypeId × Value → H} {W : World} {base : Nat} {v : Value} {d : DataW H} {p : List MemPlace}
theorem elts_of_trod {α : Type} (E : Elt α) (Good : α → Prop) (hc : Tryz.prog.cellsOf E.t = E.n) {fuel : Nat} {cs : List Value} {x : DataW H × List MemPlace} (hf : DataW.trod enc Tryz.prog W 0 (fun _ => true) true fuel E.s cs = some x)
  (hE : ∀ (fuel : Nat) (cs : List Value) (x : DataW H × List MemPlace), DataW.trod enc Tryz.prog W 0 (fun _ => true) true fuel E.t cs = some x → ∃ a, cs = E.cel a ∧ Good a) :
  ∃ (A : Option Addr) (n c : Nat) (l : List α), cs = [.slice A n c] ∧ RdE E W W.heap.size A n l ∧ n ≤ c ∧ c ≤ maxLen ∧ ∀ k, k < n → Good (l.getD k E.d) := by
 rcases open_slice E.und hf with ⟨hcs, hx⟩ | ⟨a, len0, cap, m, n, D, Pl, hcs, hb, hl, hm, hmm, hx, hel⟩
 ·exact ⟨none, 0, 0, [], hcs, RdE.nil _ _ _, by omega, by unfold maxLen; omega, fun k hk => absurd hk (by omega)⟩
 ·simp only [if_true] at hmm
  subst hmm
  haveI : Inhabited α := ⟨E.d⟩
  obtain ⟨f, hf2⟩ := choose_lt (α := α) (p := fun i b => W.cells? 0 (a.add (i * E.n)) E.n = some (E.cel b) ∧ Good b) (n := m) (fun i hi => by
   obtain ⟨cs', h1, h2⟩ := hel i hi
   rw [hc] at h1
   obtain ⟨b, rfl, hg⟩ := hE _ _ _ h2
   exact ⟨b, h1, hg⟩)
  have hp := E.pos
  refine ⟨some a, len0, m, (List.range len0).map f, hcs, ⟨by simp, fun k hk => ?_⟩, hl, hm, fun k hk => ?_⟩
  ·obtain ⟨b, off, spot⟩ := a
   have hzero : ∀ i, ∃ u, (E.cel (f i))[0]? = some u := fun i => ⟨_, List.getElem?_eq_getElem (by rw [E.len]; exact hp)⟩
   have hspot : spot = none := by
    obtain ⟨u, hu⟩ := hzero 0
    have h0 := (World.cells?_some (hf2 0 (by omega)).1).2.2 0 hp
    rw [hu] at h0
    have := World.cell?_spot h0
    simpa [Addr.add] using this
   subst hspot
   have hcc := World.cells?_some (hf2 k (by omega)).1
   refine ⟨b, off, rfl, ?_, fun j u hj => ?_⟩
   ·obtain ⟨u, hu⟩ := hzero k
    have h0 := hcc.2.2 0 hp
    rw [hu, add_mid, add_mid] at h0
    exact World.block_lt_of_cell? W _ h0
   ·have hlt : j < E.n := by have := (List.getElem?_eq_some_iff.1 hj).1; rwa [E.len] at this
    have h1 := hcc.2.2 j hlt
    rw [add_mid, add_mid] at h1
    rw [h1, ← hj]
    simp [List.getD, hk]
  ·simpa [List.getD, hk] using (hf2 k (by omega)).2
theorem open_elts {α : Type} (E : Elt α) (Good : α → Prop) (hc : Tryz.prog.cellsOf E.t = E.n) (hv : Value.okWide Tryz.prog W .any base E.s v) (h : DataW.Trod enc Tryz.prog W 0 (fun _ => true) true E.s v d p)
  (hE : ∀ (fuel : Nat) (cs : List Value) (x : DataW H × List MemPlace), DataW.trod enc Tryz.prog W 0 (fun _ => true) true fuel E.t cs = some x → ∃ a, cs = E.cel a ∧ Good a) :
  ∃ (A : Option Addr) (n c : Nat) (l : List α), v = .slice A n c ∧ RdE E W W.heap.size A n l ∧ n ≤ c ∧ c ≤ maxLen ∧ ∀ k, k < n → Good (l.getD k E.d) := by
 obtain ⟨a0, len0, cap0, rfl⟩ := okWide_slice E.und hv
 obtain ⟨fuel, hf⟩ := h
 obtain ⟨A, n, c, l, hcs, rest⟩ := elts_of_trod E Good hc hf hE
 simp [Value.cells] at hcs
 obtain ⟨rfl, rfl, rfl⟩ := hcs
 exact ⟨_, _, _, l, rfl, rest⟩
theorem int_of_trod (fuel : Nat) (cs : List Value) (x : DataW H × List MemPlace) (h : DataW.trod enc Tryz.prog W 0 (fun _ => true) true fuel 3 cs = some x) : ∃ a : Int, cs = [.int .i64 a] ∧ (Lit.int .i64 a).wf = true := by
 obtain ⟨k, e, _, hw⟩ := DataW.trod_int Tryz.underlying3 h
 exact ⟨k, e, hw⟩
end
open Go.RowKit
def IntE : Elt Int where
 s := 53
 t := 3
 n := 1
 by_ := 8
 cel x := [.int .i64 x]
 d := 0
 z := .int .i64 0
 pos := by omega
 small := by omega
 len _ := rfl
 one x v hv := by simp at hv; subst hv; rfl
 und := Tryz.underlying53
 info := by kernel_rfl
 zc := rfl
theorem flat_ints (l : List Int) : bC IntE l = l.map fun x => .int .i64 x := by
 induction l with
 | nil => rfl
 | cons x l ih => rw [d5, ih]; rfl
section
variable {w : World} {B n : Nat} {A : Option Addr} {l : List Int}
theorem RdE.int (h : RdE IntE w B A n l) {k : Nat} (hk : k < n) : ∃ b off, A = some ⟨b, off, none⟩ ∧ b < B ∧ w.cell? ⟨b, off + k, none⟩ = some (.int .i64 (l.getD k 0)) := by
 obtain ⟨b, off, e, hb, hc⟩ := h.2 k hk
 refine ⟨b, off, e, hb, ?_⟩
 have h0 := hc 0 (.int .i64 (l.getD k 0)) rfl
 rwa [show off + k * IntE.n + 0 = off + k from by show off + k * 1 + 0 = _; omega] at h0
end
theorem row_puti {w : World} {g c i : Nat} {f : Nat → Int} {e : TypeId} (h : w.rowIs g e c (fun j => .int .i64 (f j))) (x : Int) : (w.setCell ⟨g, i, none⟩ (.int .i64 x)).rowIs g e c (fun j => .int .i64 (upd f i x j)) :=
 (h.set i _).congr fun j _ => by
  unfold upd
  split
  ·rfl
  ·rfl
theorem made_ints {w : World} {g B n : Nat} {f : Nat → Int} {l : List Int} (h : w.rowIs g 3 n (fun j => .int .i64 (f j))) (hB : B ≤ g) (hl : l.length = n) (hf : ∀ j, j < n → f j = l.getD j 0) (hm : n ≤ maxLen) : aH IntE w B (.slice (some ⟨g, 0, none⟩) n n) l := by
 obtain ⟨cur, hg, hn, hc⟩ := h
 refine aH.of_block (cs := cur) hg ?_ hB hl hm
 rw [flat_ints]
 apply List.ext_getElem?
 intro k
 by_cases hk : k < n
 ·rw [Array.getElem?_toList, hc k hk, List.getElem?_map, List.getElem?_eq_getElem (by omega)]
  show some (Value.int .i64 (f k)) = _
  rw [hf k hk]
  simp [List.getD, List.getElem?_eq_getElem (show k < l.length by omega)]
 ·rw [List.getElem?_eq_none (by simp; omega), List.getElem?_eq_none (by simp; omega)]
theorem splice_vals (l x : List UInt8) (off : Nat) : splice (vals l) off (vals x) = vals (splice l off x) := by
 unfold splice vals
 simp [List.map_take, List.map_drop]
def bR (w : World) (g : Nat) (t : TypeId) (l : List UInt8) : Prop := w.heap[g]? = some (.cells (vals l).toArray t (0, 0))
section
variable {w w' : World} {g : Nat} {t : TypeId} {l : List UInt8}
theorem bR.lt (h : bR w g t l) : g < w.heap.size := (Array.getElem?_eq_some_iff.1 h).1
theorem bR.below {B : Nat} (h : bR w g t l) (hB : g < B) (hb : Below B w w') : bR w' g t l := (hb.block g hB).trans h
theorem bR.grown {k : Nat} (h : bR w g t l) (hk : g ≠ k) (hb : w.grownBy w' (some k)) : bR w' g t l := (hb.block g h.lt (fun e => hk (by injection e))).trans h
theorem bR.past (h : bR w g t l) (o : Obj) : bR (w.alloc o) g t l := bU h o
theorem bR.cell (h : bR w g t l) {j : Nat} (hj : j < l.length) : w.cell? ⟨g, j, none⟩ = some (.int .u8 (bt l j)) := by
 rw [cell_of_row w g j _ t (0, 0) h, List.getElem?_toArray, vals_at hj]
theorem bR.rd (h : bR w g t l) {p k : Nat} (hp : p + k ≤ l.length) : Rd w w.heap.size (some ⟨g, p, none⟩) k (piece l p k) :=
 ⟨bi hp, fun j hj => ⟨g, p, rfl, h.lt, by rw [h.cell (by omega), dy hj]⟩⟩
theorem bR.range (h : bR w g t l) (hl : l.length = 64) : w.rangeAt g 0 (cel (ofL l)) := fun j v hj => by
 have hlt : j < 64 := by have := (List.getElem?_eq_some_iff.1 hj).1; rwa [aA] at this
 rw [Nat.zero_add, h.cell (by omega), ← hj, cel_at _ hlt, ofL_byt _ hlt]
theorem bR.new (w : World) (l : List UInt8) (t : TypeId) : bR (w.alloc (.cells (vals l).toArray t)) w.heap.size t l := heap_alloc_new w _
theorem bR.blk (w : World) (b : Blk) (t : TypeId) : bR (w.alloc (.cells (cel b).toArray t)) w.heap.size t b.toList := heap_alloc_new w _
theorem bR.row (h : bR w g t l) : w.rowIs g t l.length (fun j => .int .u8 (bt l j)) :=
 ⟨_, h, by simp [bu], fun j hj => by rw [List.getElem?_toArray, vals_at hj]⟩
end
theorem cN {w : World} {ops : Array Oper} {rest : List Oper} {o : Oper} {a : Act} {Q : Exit → Act → World → Prop} (hgd : o.guard = none) (d s : Operand)
  (ho : o.op = .call { callee := .builtin .copy, args := #[d, s], argTypes := #[118, 118] }) (g off n c m c' N : Nat) (A : Option Addr) (t : TypeId) (l x : List UInt8)
  (hd : a.eval d = .slice (some ⟨g, off, none⟩) n c) (hs : a.eval s = .slice A m c') (hS : bR w g t l) (hr : Rd w N A m x) (hmn : m ≤ n) (hfit : off + m ≤ l.length)
  (h : ∀ w', bR w' g t (splice l off x) → w.grownBy w' (some g) → wpList Tryz.prog ops Q rest (a.put o.dst (goInt m)) w') : wpList Tryz.prog ops Q (o :: rest) a w := by
 have hx := hr.1
 rcases A with _ | ad
 ·have h0 : m = 0 := by
   rcases Nat.eq_zero_or_pos m with h | h
   ·exact h
   ·obtain ⟨b, off, e, _⟩ := hr.2 0 h
    cases e
  subst h0
  obtain rfl : x = [] := List.eq_nil_of_length_eq_zero hx
  refine wpList_copy_nothing hgd d s _ _ ho 5 Tryz.underlying118 (by kernel_rfl) _ _ _ _ _ _ hd hs (Nat.zero_min _) ?_
  exact h w (by simpa [splice] using hS) (World.grownBy.refl w _)
 ·have hcl : (vals x).length = m := by rw [bu, hx]
  refine wpList_copy_own hgd d s _ _ ho 5 Tryz.underlying118 (by kernel_rfl) g off n c ad m c' hd hs _ t hS (vals x) (by rw [hcl]; exact (Nat.min_eq_left hmn).symm) (fun j v hj => ?_) (by simp [hcl, bu]; omega) (vals_one x) ?_
  ·have hlt : j < m := by have := (List.getElem?_eq_some_iff.1 hj).1; omega
   obtain ⟨b, o2, e, _, hc⟩ := hr.2 j hlt
   injection e with e
   subst e
   rw [Addr.add_mid, hc, ← hj, vals_at (by omega)]
  ·have hrow := setRow_heap w g (vals l).toArray ((vals l).toArray.toList.take off ++ (vals x ++ (vals l).toArray.toList.drop (off + (vals x).length))).toArray t (0, 0) hS
   have e : (vals l).toArray.toList.take off ++ (vals x ++ (vals l).toArray.toList.drop (off + (vals x).length)) = vals (splice l off x) := by
    rw [← splice_vals]
    rfl
   rw [hcl]
   rw [hcl] at hrow e
   refine h _ ?_ ⟨rfl, rfl, rfl, by simp [World.setRow], fun k hk hne => setRow_other w g k _ (fun e => hne (by rw [e]))⟩
   unfold bR
   rw [e] at hrow ⊢
   exact hrow
def torn (old now : Blk) (n : Int) : Blk := Vector.ofFn fun i => if (i.val : Int) < n then now[i] else old[i]
theorem torn_get (old now : Blk) (n : Int) (i : Nat) (h : i < 64) : (torn old now n)[i] = if (i : Int) < n then now[i] else old[i] := by simp [torn]
theorem fz (old now : Blk) (n : Int) {i : Nat} (h : i < 64) : byt (torn old now n) i = if (i : Int) < n then byt now i else byt old i := by
 rw [byt_get _ h, torn_get _ _ _ _ h]
 split
 ·rw [byt_get _ h]
 ·rw [byt_get _ h]
def cy (b : List UInt8) : List UInt8 := b ++ List.replicate (44 - b.length) 0
def dj (n : Nat) (b : List UInt8) : List UInt8 := aX 8 8 n ++ cy b
def db (n : Nat) (b : List UInt8) : List UInt8 := dj n b ++ (aX 8 4 (more 0 (dj n b)) ++ aX 8 8 n)
theorem cT {b : List UInt8} (h : b.length ≤ 44) : (cy b).length = 44 := by simp [cy]; omega
theorem dU {b : List UInt8} (n : Nat) (h : b.length ≤ 44) : (dj n b).length = 52 := by simp [dj, ay, cT h]
theorem fF {b : List UInt8} (n : Nat) (h : b.length ≤ 44) : (db n b).length = 64 := by simp [db, ay, dU n h]
theorem val_piece_inj {a b : List UInt8} {p q k : Nat} (ha : p + k ≤ a.length) (hb : q + k ≤ b.length) (h : val 8 (piece a p k) = val 8 (piece b q k)) : piece a p k = piece b q k :=
 val8_inj (by rw [bi ha, bi hb]) h
def cH (l : List UInt8) : Nat := val 8 (piece l 0 8)
def agO (l : List UInt8) : Nat := val 8 (piece l 56 8)
def sumO (l : List UInt8) : Nat := val 8 (piece l 52 4)
def crcO (l : List UInt8) : Nat := more 0 (piece l 0 52)
def cu (l : List UInt8) : Nat := if cH l = 0 ∨ cH l ≠ agO l then 5 else if sumO l ≠ crcO l then 6 else 0
def cP (l : List UInt8) : Nat := if cu l = 0 then cH l else 0
def cv (l : List UInt8) : List UInt8 := if cu l = 0 then piece l 8 44 else []
theorem getE_form {l : List UInt8} (h : cH l = 0 ∨ cH l ≠ agO l) : cu l = 5 := by unfold cu; rw [if_pos h]
theorem getE_sum {l : List UInt8} (h0 : cH l ≠ 0) (h1 : cH l = agO l) (h : sumO l ≠ crcO l) : cu l = 6 := by
 unfold cu
 rw [if_neg (by omega), if_pos h]
theorem getE_ok {l : List UInt8} (h0 : cH l ≠ 0) (h1 : cH l = agO l) (h : sumO l = crcO l) : cu l = 0 := by
 unfold cu
 rw [if_neg (by omega), if_neg (by omega)]
theorem of_getE {l : List UInt8} (h : cu l = 0) : cH l ≠ 0 ∧ cH l = agO l ∧ sumO l = crcO l := by
 unfold cu at h
 split at h
 ·omega
 ·split at h
  ·omega
  ·omega
theorem getN_of {l : List UInt8} (h : cu l = 0) : cP l = cH l := if_pos h
theorem getN_no {l : List UInt8} (h : cu l ≠ 0) : cP l = 0 := if_neg h
theorem getB_of {l : List UInt8} (h : cu l = 0) : cv l = piece l 8 44 := if_pos h
theorem getB_no {l : List UInt8} (h : cu l ≠ 0) : cv l = [] := if_neg h
theorem getN_zero {l : List UInt8} : cP l = 0 ↔ cu l ≠ 0 := by
 constructor
 ·intro h e
  rw [getN_of e] at h
  exact (of_getE e).1 h
 ·exact getN_no
theorem numO_lt {l : List UInt8} (h : l.length = 64) : cH l < 18446744073709551616 := cg (b := l) (p := 0) (k := 8) (by omega)
theorem sumO_lt {l : List UInt8} (h : l.length = 64) : sumO l < 4294967296 := cg (b := l) (p := 52) (k := 4) (by omega)
theorem crcO_lt (l : List UInt8) : crcO l < 4294967296 := more_lt (by omega) _
theorem getN_lt {l : List UInt8} (h : l.length = 64) : cP l < 18446744073709551616 := by
 have := numO_lt h
 unfold cP
 split <;> omega
theorem seal_first (n : Nat) (b : List UInt8) : piece (db n b) 0 8 = aX 8 8 n := by
 rw [show db n b = aX 8 8 n ++ (cy b ++ (aX 8 4 (more 0 (dj n b)) ++ aX 8 8 n)) from by simp [db, dj]]
 exact piece_head _ _ (ay _ _ _)
theorem seal_num {n : Nat} {b : List UInt8} (hn : n < 18446744073709551616) : cH (db n b) = n := by
 unfold cH
 rw [seal_first, val_digL (by omega)]
 exact Nat.mod_eq_of_lt hn
section
variable {n : Nat} {b : List UInt8} (hb : b.length ≤ 44)
include hb
theorem seal_last : piece (db n b) 56 8 = aX 8 8 n := by
 rw [show db n b = (dj n b ++ aX 8 4 (more 0 (dj n b))) ++ (aX 8 8 n ++ []) from by simp [db]]
 exact piece_mid _ _ _ (by simp [dU n hb, ay]) (ay _ _ _)
theorem seal_sum : piece (db n b) 52 4 = aX 8 4 (more 0 (dj n b)) := piece_mid _ _ _ (dU n hb) (ay _ _ _)
theorem seal_head : piece (db n b) 0 52 = dj n b := piece_head _ _ (dU n hb)
theorem seal_body : piece (db n b) 8 44 = cy b := by
 rw [show db n b = aX 8 8 n ++ (cy b ++ (aX 8 4 (more 0 (dj n b)) ++ aX 8 8 n)) from by simp [db, dj]]
 exact piece_mid _ _ _ (ay _ _ _) (cT hb)
theorem seal_ag (hn : n < 18446744073709551616) : agO (db n b) = n := by
 unfold agO
 rw [seal_last hb, val_digL (by omega)]
 exact Nat.mod_eq_of_lt hn
theorem seal_ok (hn : n < 18446744073709551616) (h0 : n ≠ 0) : cu (db n b) = 0 := by
 refine getE_ok (by rw [seal_num hn]; exact h0) (by rw [seal_num hn, seal_ag hb hn]) ?_
 unfold sumO crcO
 rw [seal_sum hb, seal_head hb, val_digL (by omega)]
 exact Nat.mod_eq_of_lt (more_lt (by omega) _)
theorem seal_getN (hn : n < 18446744073709551616) (h0 : n ≠ 0) : cP (db n b) = n := by rw [getN_of (seal_ok hb hn h0), seal_num hn]
theorem seal_getB (hn : n < 18446744073709551616) (h0 : n ≠ 0) : cv (db n b) = cy b := by rw [getB_of (seal_ok hb hn h0), seal_body hb]
end
def dW (n : Nat) (b : List UInt8) : Nat := if n = 0 then 2 else if 44 < b.length then 3 else 0
def dL (n : Nat) (b : List UInt8) : Blk := if dW n b = 0 then ofL (db n b) else ap
theorem putE_ok {n : Nat} {b : List UInt8} (h0 : n ≠ 0) (hb : b.length ≤ 44) : dW n b = 0 := by unfold dW; rw [if_neg h0, if_neg (by omega)]
theorem of_putE {n : Nat} {b : List UInt8} (h : dW n b = 0) : n ≠ 0 ∧ b.length ≤ 44 := by
 unfold dW at h
 split at h
 ·omega
 ·split at h <;> omega
theorem putB_ok {n : Nat} {b : List UInt8} (h : dW n b = 0) : dL n b = ofL (db n b) := if_pos h
theorem putB_list {n : Nat} {b : List UInt8} (h : dW n b = 0) : (dL n b).toList = db n b := by
 rw [putB_ok h, toList_ofL (fF n (of_putE h).2)]
theorem put_getE {n : Nat} {b : List UInt8} (hn : n < 18446744073709551616) (h : dW n b = 0) : cu (dL n b).toList = 0 := by
 rw [putB_list h]; exact seal_ok (of_putE h).2 hn (of_putE h).1
theorem put_getN {n : Nat} {b : List UInt8} (hn : n < 18446744073709551616) (h : dW n b = 0) : cP (dL n b).toList = n := by
 rw [putB_list h]; exact seal_getN (of_putE h).2 hn (of_putE h).1
theorem put_getB {n : Nat} {b : List UInt8} (hn : n < 18446744073709551616) (h : dW n b = 0) : cv (dL n b).toList = cy b := by
 rw [putB_list h]; exact seal_getB (of_putE h).2 hn (of_putE h).1
theorem zero_getE : cu ap.toList = 5 := getE_form (.inl (by decide +kernel))
theorem ends_of {b : Blk} (h : cH b.toList = agO b.toList) {j : Nat} (hj : j < 8) : byt b j = byt b (56 + j) := by
 have := of_piece_eq (val_piece_inj (by simp) (by simp) h) hj
 rwa [Nat.zero_add] at this
theorem num_of_ends {a b : Blk} (h : ∀ j, j < 8 → byt a j = byt b j) : cH a.toList = cH b.toList := by
 unfold cH
 rw [piece_eq (a := a.toList) (b := b.toList) (p := 0) (q := 0) (k := 8) (by simp) (by simp) fun j hj => by rw [Nat.zero_add]; exact h j hj]
theorem torn_whole {old now : Blk} {n : Int} (hn : cH now.toList = agO now.toList) (ho : cH old.toList = agO old.toList) (hne : cH now.toList ≠ cH old.toList) (h : cH (torn old now n).toList = agO (torn old now n).toList) :
  torn old now n = now ∨ torn old now n = old := by
 by_cases hk : 56 < n
 ·left
  apply blk_ext
  intro j hj
  rw [fz _ _ _ hj]
  split
  ·rfl
  ·rename_i hlt
   have e := ends_of h (j := j - 56) (by omega)
   rw [fz _ _ _ (by omega), fz _ _ _ (by omega), if_pos (by omega), if_neg (by omega), ends_of hn (by omega)] at e
   rw [show 56 + (j - 56) = j from by omega] at e
   exact e.symm
 ·by_cases h8 : 8 ≤ n
  ·exfalso
   apply hne
   apply num_of_ends
   intro j hj
   have e := ends_of h hj
   rw [fz _ _ _ (by omega), fz _ _ _ (by omega), if_pos (by omega), if_neg (by omega), ← ends_of ho hj] at e
   exact e
  ·right
   apply blk_ext
   intro j hj
   rw [fz _ _ _ hj]
   split
   ·rename_i hlt
    have hj8 : j < 8 := by omega
    have e := ends_of h hj8
    rw [fz _ _ _ (by omega), fz _ _ _ (by omega), if_pos (by omega), if_neg (by omega), ← ends_of ho hj8] at e
    exact e
   ·rfl
theorem max_u32 : IntKind.u32.max = 4294967295 := by decide
theorem neg_bits (r : Nat) (h : r < 4294967296) : bits .xor .u32 IntKind.u32.max (r : Int) = ((neg r : Nat) : Int) := by
 rw [max_u32]
 exact u32_xor_nat 4294967295 r (by omega) h
theorem run_snoc (r : Nat) (l : List UInt8) {k : Nat} (h : k < l.length) : tak (run r (l.take k)) l[k].toNat = run r (l.take (k + 1)) := by
 rw [List.take_succ_eq_append_getElem h, run_append]
 rfl
set_option maxHeartbeats 400000 in
theorem more_any (s : Nat) (A : Option Addr) (n c N : Nat) (b : List UInt8) (w : World) (T : Tab w) (hs : s < 4294967296) (hb : Rd w N A n b) (hn : n ≤ maxLen) :
  Calls Tryz.prog 119 #[.int .u32 s, .slice A n c] w fun e w' => e = .returned (.int .u32 (more s b)) ∧ w = w' := by
 have hnb := neg_bits s hs
 have hnl := neg_lt hs
 have hlen := hb.1
 unfold maxLen at hn
 have HL := af hlen
 clear hlen
 go_enter Tryz.func119, Tryz.ntmps119
 go_wp2
 clear hnb
 have HM : Hid (more s b = neg (run (neg s) b)) := af rfl
 generalize neg s = r0 at *
 go_loop [5, 12] (fun x i => ∃ j : Nat, j ≤ n ∧ i = .int .i64 j ∧ x = .int .u32 (run r0 (b.take j))) (fun _ i => n - (intOf i).toNat)
 case atStart => exact ⟨0, by omega, rfl, rfl⟩
 case round =>
  obtain ⟨j, hj, rfl, rfl⟩ := hrel
  by_cases hlt : j < n
  ·obtain ⟨bA, oA, rfl, hA, cA⟩ := hb.2 j hlt
   have hjl : j < b.length := by have := HL.out; omega
   rw [fi hjl] at cA
   have HS := af (run_snoc r0 b hjl)
   have hu := UInt8.toNat_lt b[j]
   generalize b[j].toNat = u at *
   have hrl := run_lt hnl (b.take j)
   go_wp2_with fail
   refine (take_any (run r0 (b.take j)) u _ T hrl hu).mono ?_
   rintro e w' ⟨rfl, rfl⟩
   go_wp2
   go_round
   case rel => exact ⟨j + 1, by omega, by go_num, by rw [HS.out]⟩
   case measure => simp [intOf]; omega
  ·have h : j = n := by omega
   subst h
   have ht : b.take j = b := List.take_of_length_le (Nat.le_of_eq HL.out)
   rw [ht]
   have hrl := run_lt hnl b
   have hnb := neg_bits (run r0 b) hrl
   clear ht
   go_wp2
   go_ret
   exact ⟨bD (by first | rw [HM.out] | rw [HM.out, hnb]), rfl⟩
set_option maxHeartbeats 400000 in
theorem refMore_any (s : Nat) (A : Option Addr) (n c N : Nat) (b : List UInt8) (w : World) (hs : s < 4294967296) (hb : Rd w N A n b) (hn : n ≤ maxLen) :
  Calls Tryz.prog 132 #[.int .u32 s, .slice A n c] w fun e w' => e = .returned (.int .u32 (more s b)) ∧ w = w' := by
 have hnb := neg_bits s hs
 have hnl := neg_lt hs
 have hlen := hb.1
 unfold maxLen at hn
 have HL := af hlen
 clear hlen
 go_enter Tryz.func132, Tryz.ntmps132
 go_wp2
 clear hnb
 have HM : Hid (more s b = neg (run (neg s) b)) := af rfl
 generalize neg s = r0 at *
 go_loop [5, 6] (fun x i => ∃ j : Nat, j ≤ n ∧ i = .int .i64 j ∧ x = .int .u32 (run r0 (b.take j))) (fun _ i => n - (intOf i).toNat)
 case atStart => exact ⟨0, by omega, rfl, rfl⟩
 case round =>
  obtain ⟨j, hj, rfl, rfl⟩ := hrel
  by_cases hlt : j < n
  ·obtain ⟨bA, oA, rfl, hA, cA⟩ := hb.2 j hlt
   have hjl : j < b.length := by have := HL.out; omega
   rw [fi hjl] at cA
   have HS := af (run_snoc r0 b hjl)
   have hu := UInt8.toNat_lt b[j]
   generalize b[j].toNat = u at *
   have hrl := run_lt hnl (b.take j)
   go_wp2_with fail
   refine (refTake_any (run r0 (b.take j)) u _ hrl hu).mono ?_
   rintro e w' ⟨rfl, rfl⟩
   go_wp2
   go_round
   case rel => exact ⟨j + 1, by omega, by go_num, by rw [HS.out]⟩
   case measure => simp [intOf]; omega
  ·have h : j = n := by omega
   subst h
   have ht : b.take j = b := List.take_of_length_le (Nat.le_of_eq HL.out)
   rw [ht]
   have hrl := run_lt hnl b
   have hnb := neg_bits (run r0 b) hrl
   clear ht
   go_wp2
   go_ret
   exact ⟨bD (by first | rw [HM.out] | rw [HM.out, hnb]), rfl⟩
theorem of_any (A : Option Addr) (n c N : Nat) (b : List UInt8) (w : World) (T : Tab w) (hb : Rd w N A n b) (hn : n ≤ maxLen) :
  Calls Tryz.prog 118 #[.slice A n c] w fun e w' => e = .returned (.int .u32 (more 0 b)) ∧ w = w' := by
 go_enter Tryz.func118, Tryz.ntmps118
 go_wp2_with fail
 refine (more_any 0 A n c N b _ T (by omega) hb hn).mono ?_
 rintro e w' ⟨rfl, rfl⟩
 go_wp2
 go_ret
 exact ⟨rfl, rfl⟩
theorem refOf_any (A : Option Addr) (n c N : Nat) (b : List UInt8) (w : World) (hb : Rd w N A n b) (hn : n ≤ maxLen) :
  Calls Tryz.prog 102 #[.slice A n c] w fun e w' => e = .returned (.int .u32 (more 0 b)) ∧ w = w' := by
 go_enter Tryz.func102, Tryz.ntmps102
 go_wp2_with fail
 refine (refMore_any 0 A n c N b _ (by omega) hb hn).mono ?_
 rintro e w' ⟨rfl, rfl⟩
 go_wp2
 go_ret
 exact ⟨rfl, rfl⟩
section
variable {ρ : Operand → Value} {o : Oper} {x y z u : Operand} {w : World} {t : TypeId} {p q a b c : Value}
theorem exec_cut3 (ho : o.op = .slice t x (some y) (some z) (some u)) (hx : ρ x = p) (hy : ρ y = a) (hz : ρ z = b) (hu : ρ u = c) (h : (Instr.sliceAt t p (some a) (some b) (some c)).run Tryz.prog w = .ok q w) : (execOp ρ o).run Tryz.prog w = .ok (.value q) w := by
 unfold execOp
 simp only [ho, hx, hy, hz, hu, Option.map_some, Sem.run_bind, h, Result.andThen_ok, Sem.run_pure]
end
section
variable (g : Nat) (w : World)
theorem cut_gen {i j k : Nat} (h1 : i ≤ j) (h2 : j ≤ k) (h3 : k ≤ 64) (h4 : i < k) : (Instr.sliceAt 29 (.pointer (some ⟨g, 0, none⟩)) (some (.int .i64 (i : Int))) (some (.int .i64 (j : Int))) (some (.int .i64 (k : Int)))).run Tryz.prog w = .ok (.slice (some ⟨g, i, none⟩) (j - i) (k - i)) w := by
 have e1 : (0 ≤ (k : Int) ∧ (k : Int) ≤ 64) := by omega
 have e2 : (0 ≤ (j : Int) ∧ (j : Int) ≤ (k : Int)) := by omega
 have e3 : (0 ≤ (i : Int) ∧ (i : Int) ≤ (j : Int)) := by omega
 have e4 : k ≠ i := by omega
 simp [Instr.sliceAt, Instr.sliceBounds, Instr.sliceBound, Instr.sureAddr, asIntOf, run_underlying undB, Tryz.sizeOf5, Addr.add_mid, e1, e2, e3, e4, h1, h2, h3]
theorem cut_a : (Instr.sliceAt 29 (.pointer (some ⟨g, 0, none⟩)) (some (.int .i64 0)) (some (.int .i64 8)) (some (.int .i64 8))).run Tryz.prog w = .ok (.slice (some ⟨g, 0, none⟩) 8 8) w := cut_gen g w (i := 0) (j := 8) (k := 8) (by omega) (by omega) (by omega) (by omega)
theorem cut_b : (Instr.sliceAt 29 (.pointer (some ⟨g, 0, none⟩)) (some (.int .i64 8)) (some (.int .i64 52)) (some (.int .i64 52))).run Tryz.prog w = .ok (.slice (some ⟨g, 8, none⟩) 44 44) w := cut_gen g w (i := 8) (j := 52) (k := 52) (by omega) (by omega) (by omega) (by omega)
theorem cut_c : (Instr.sliceAt 29 (.pointer (some ⟨g, 0, none⟩)) (some (.int .i64 52)) (some (.int .i64 56)) (some (.int .i64 56))).run Tryz.prog w = .ok (.slice (some ⟨g, 52, none⟩) 4 4) w := cut_gen g w (i := 52) (j := 56) (k := 56) (by omega) (by omega) (by omega) (by omega)
theorem cut_d : (Instr.sliceAt 29 (.pointer (some ⟨g, 0, none⟩)) (some (.int .i64 56)) (some (.int .i64 64)) (some (.int .i64 64))).run Tryz.prog w = .ok (.slice (some ⟨g, 56, none⟩) 8 8) w := cut_gen g w (i := 56) (j := 64) (k := 64) (by omega) (by omega) (by omega) (by omega)
theorem cut_e : (Instr.sliceAt 29 (.pointer (some ⟨g, 0, none⟩)) (some (.int .i64 0)) (some (.int .i64 52)) (some (.int .i64 52))).run Tryz.prog w = .ok (.slice (some ⟨g, 0, none⟩) 52 52) w := cut_gen g w (i := 0) (j := 52) (k := 52) (by omega) (by omega) (by omega) (by omega)
end
section
variable {ρ : Operand → Value} {o : Oper} {x y : Operand} {w : World} {t : TypeId} {old cs : Array Value}
theorem exec_fillD (hz : (Tryz.prog.info? t).map (·.size) = some cs.size) (he : old.size = cs.size) (h1 : cs.toList.all Value.oneCell' = true) (ho : o.op = .store t x y) (hx : ρ x = .pointer (some ⟨w.heap.size, 0, none⟩)) (hy : ρ y = .agg cs) :
  (execOp ρ o).run Tryz.prog (w.alloc (.cells old t)).drew = .ok .skip (w.alloc (.cells cs t)).drew := exec_fillT (w := w.drew) hz he h1 ho hx hy
end
theorem exec_bld5 {ρ : Operand → Value} {o : Oper} {w : World} {t : TypeId} {v : Value} {x0 x1 x2 x3 x4 : Operand} {y0 y1 y2 y3 y4 : Value} (ho : o.op = .build t #[(0, x0), (1, x1), (2, x2), (3, x3), (4, x4)]) (h0 : ρ x0 = y0) (h1 : ρ x1 = y1) (h2 : ρ x2 = y2) (h3 : ρ x3 = y3) (h4 : ρ x4 = y4)
  (h : (Instr.build t #[(0, y0), (1, y1), (2, y2), (3, y3), (4, y4)]).run Tryz.prog w = .ok v w) : (execOp ρ o).run Tryz.prog w = .ok (.value v) w := by
 subst h0 h1 h2 h3 h4
 unfold execOp
 simp only [ho, List.map_toArray, List.map_cons, List.map_nil, Sem.run_bind, h, Result.andThen_ok, Sem.run_pure]
theorem res_row {fn : Func} {p : Tmp} {t : TypeId} {cs : Array Value} {d : TypeDesc} (h0 : fn.results = #[.cell p t]) (tmps : Array Value) (w : World) (b : Nat) (hp : tmps.getD p undef = .pointer (some ⟨b, 0, none⟩)) (h : w.heap[b]? = some (.cells cs t (0, 0))) (hu : Tryz.prog.underlying t = some d) (hd : d.isRow = true) (hz : (Tryz.prog.info? t).map (·.size) = some cs.size) :
  (results fn tmps).run Tryz.prog w = .ok (.agg cs) w := by
 have hr : w.rangeAt b 0 cs.toList := fun j v hj => by
  rw [cell_of_row w b (0 + j) cs t (0, 0) h, Nat.zero_add]
  simpa using hj
 have hl : (loadVar t ⟨b, 0, none⟩).run Tryz.prog w = .ok (.agg cs) w := by
  have := run_loadVar_mid (P := Tryz.prog) w b 0 t cs.toList d hr hu hd (by simpa using hz)
  simpa using this
 have hp' : tmps[p]?.getD undef = .pointer (some ⟨b, 0, none⟩) := by simpa using hp
 simp [results, h0, hp', asAddr, hl]
theorem grown_of_below {w w' : World} {row : Option Nat} (hb : Below w.heap.size w w') : w.grownBy w' row := ⟨hb.os, hb.tape, hb.output, hb.size, fun k hk _ => hb.block k hk⟩
def fe (g : Nat) : Array Value := #[.slice (some ⟨g, 0, none⟩) 8 8, .slice (some ⟨g, 8, none⟩) 44 44, .slice (some ⟨g, 52, none⟩) 4 4, .slice (some ⟨g, 56, none⟩) 8 8, .slice (some ⟨g, 0, none⟩) 52 52]
theorem parts5 (g : Nat) (w : World) : (Instr.build 182 #[(0, .slice (some ⟨g, 0, none⟩) 8 8), (1, .slice (some ⟨g, 8, none⟩) 44 44), (2, .slice (some ⟨g, 52, none⟩) 4 4), (3, .slice (some ⟨g, 56, none⟩) 8 8), (4, .slice (some ⟨g, 0, none⟩) 52 52)]).run Tryz.prog w = .ok (.agg (fe g)) w := by kernel_rfl
set_option maxHeartbeats 1000000 in
theorem cut_any (g : Nat) (w : World) : Calls Tryz.prog 145 #[.pointer (some ⟨g, 0, none⟩)] w fun e w' => e = .returned (.agg #[.slice (some ⟨g, 0, none⟩) 8 8, .slice (some ⟨g, 8, none⟩) 44 44, .slice (some ⟨g, 52, none⟩) 4 4, .slice (some ⟨g, 56, none⟩) 8 8, .slice (some ⟨g, 0, none⟩) 52 52]) ∧ Below w.heap.size w w' := by
 go_enter Tryz.func145, Tryz.ntmps145
 go_wp2_with fail
 refine wp_region_still_tail 15 (by kernel_rfl) (by kernel_rfl) ?_
 simp only [ae]
 refine aF rfl (aj rfl (ev rfl)) ?_;simp only [aa]
 refine aF rfl (aB rfl (ev rfl)) ?_;simp only [aa]
 refine aF rfl (exec_cut3 rfl (ev rfl) evk evk evk (cut_a g _)) ?_;simp only [aa]
 refine aF rfl (aj rfl (ev rfl)) ?_;simp only [aa]
 refine aF rfl (aB rfl (ev rfl)) ?_;simp only [aa]
 refine aF rfl (exec_cut3 rfl (ev rfl) evk evk evk (cut_b g _)) ?_;simp only [aa]
 refine aF rfl (aj rfl (ev rfl)) ?_;simp only [aa]
 refine aF rfl (aB rfl (ev rfl)) ?_;simp only [aa]
 refine aF rfl (exec_cut3 rfl (ev rfl) evk evk evk (cut_c g _)) ?_;simp only [aa]
 refine aF rfl (aj rfl (ev rfl)) ?_;simp only [aa]
 refine aF rfl (aB rfl (ev rfl)) ?_;simp only [aa]
 refine aF rfl (exec_cut3 rfl (ev rfl) evk evk evk (cut_d g _)) ?_;simp only [aa]
 refine aF rfl (aj rfl (ev rfl)) ?_;simp only [aa]
 refine aF rfl (aB rfl (ev rfl)) ?_;simp only [aa]
 refine aF rfl (exec_cut3 rfl (ev rfl) evk evk evk (cut_e g _)) ?_;simp only [aa]
 refine wpStill_nil ?_
 change wpList _ _ _ _ _ (World.drew _)
 refine al rfl (exec_bld5 (v := .agg (fe g)) rfl (ev rfl) (ev rfl) (ev rfl) (ev rfl) (ev rfl) (parts5 g _)) ?_;simp only [aa]
 refine aV rfl (exec_fillD (w := w) (cs := fe g) ?s1 ?s2 ?s3 rfl (ev rfl) (ev rfl)) ?_
 case s1 => kernel_rfl
 case s2 => rfl
 case s3 => rfl
 refine ah ?_
 go_wp2_with fail
 refine bodyPost_ret (res_row (cs := fe g) (t := 182) rfl _ _ w.heap.size rfl ?h1 Tryz.underlying182 rfl ?h2) rfl ⟨rfl, ?h3⟩
 case h1 => exact heap_alloc_new w.drew _
 case h2 => kernel_rfl
 case h3 => exact bd ((Below.refl _ w).alloc (Nat.le_refl _) _)
theorem df {b : List UInt8} {n : Nat} (h : b.length = n) : piece b 0 n = b := by
 subst h
 simp [piece]
set_option maxHeartbeats 400000 in
theorem fA (A : Option Addr) (n c N : Nat) (b : List UInt8) (w : World) (hb : Rd w N A n b) (h1 : 1 ≤ n) (h2 : n ≤ 8) :
  Calls Tryz.prog 146 #[.slice A n c] w fun e w' => e = .returned (.int .u64 (val 8 b)) ∧ w = w' := by
 have hp := df hb.1
 have HP := af hp
 clear hp
 go_enter Tryz.func146, Tryz.ntmps146
 go_wp2_with fail
 refine (get_ok A n c N b 0 n _ hb (by unfold maxLen; omega) h1 h2 (by omega)).mono ?_
 rintro e w' ⟨rfl, rfl⟩
 rw [HP.out]
 go_wp2
 go_ret
 exact ⟨rfl, rfl⟩
set_option maxHeartbeats 400000 in
theorem lay_any (g off k n : Nat) (t : TypeId) (l : List UInt8) (w : World) (hs : bR w g t l) (h1 : 1 ≤ k) (h2 : k ≤ 8) (ho : off + k ≤ l.length) (hn : n < 256 ^ k) :
  Calls Tryz.prog 170 #[.slice (some ⟨g, off, none⟩) k k, .int .u64 n] w fun e w' => e = .returned (.tuple #[]) ∧ bR w' g t (splice l off (aX 8 k n)) ∧ w.grownBy w' (some g) := by
 have HS := af hs
 have HL := af (ay 8 k n)
 clear hs
 go_enter Tryz.func170, Tryz.ntmps170
 go_wp2_with fail
 refine (put_ok n k w h1 h2 hn).mono ?_
 rintro e w1 ⟨v, rfl, hv, hb⟩
 obtain ⟨A, c, rfl, hrd, _, _⟩ := hv.made.open_ HL.out
 have HR := af hrd
 have HS1 := af (HS.out.below HS.out.lt hb)
 have HB := af hb
 clear hv hrd hb
 go_wp2_with (with_reducible refine cN rfl _ _ rfl g off k k k c _ A t l (aX 8 k n) rfl rfl HS1.out HR.out (Nat.le_refl _) ho ?_)
 intro w2 hr2 hg2
 have HR2 := af hr2
 have HG2 := af hg2
 clear hr2 hg2
 go_wp2
 go_end0
 exact ⟨rfl, HR2.out, (grown_of_below HB.out).trans HG2.out⟩
theorem bt_pad {b : List UInt8} {j : Nat} : bt (cy b) j = if j < b.length then bt b j else 0 := by
 unfold cy
 split
 ·rename_i h; exact bX h
 ·rename_i h; rw [ct (by omega), bt_noughts]
theorem bt_head {n : Nat} {b : List UInt8} {j : Nat} : bt (dj n b) j = if j < 8 then bt (aX 8 8 n) j else if j < 8 + b.length then bt b (j - 8) else 0 := by
 unfold dj
 split
 ·rename_i h; exact bX (by rw [ay]; exact h)
 ·rename_i h
  rw [ct (by rw [ay]; omega), ay, bt_pad]
  by_cases h2 : j < 8 + b.length
  ·rw [if_pos (by omega), if_pos h2]
  ·rw [if_neg (by omega), if_neg h2]
theorem bt_seal {n : Nat} {b : List UInt8} {j : Nat} (hb : b.length ≤ 44) : bt (db n b) j = if j < 52 then bt (dj n b) j else if j < 56 then bt (aX 8 4 (more 0 (dj n b))) (j - 52) else bt (aX 8 8 n) (j - 56) := by
 have h52 := dU n hb
 unfold db
 split
 ·rename_i h; exact bX (by omega)
 ·rename_i h
  rw [ct (by omega), h52]
  split
  ·rename_i h2; exact bX (by rw [ay]; omega)
  ·rename_i h2; rw [ct (by rw [ay]; omega), ay, show j - 52 - 4 = j - 56 from by omega]
def noSum (n : Nat) (b : List UInt8) : List UInt8 := splice (splice (splice ap.toList 0 (aX 8 8 n)) 56 (aX 8 8 n)) 8 b
theorem noSum_1 (n : Nat) : (splice ap.toList 0 (aX 8 8 n)).length = 64 := by rw [length_splice _ _ _ (by simp [ay])]; simp
theorem noSum_2 (n : Nat) : (splice (splice ap.toList 0 (aX 8 8 n)) 56 (aX 8 8 n)).length = 64 := by rw [length_splice _ _ _ (by rw [noSum_1, ay]; omega), noSum_1]
section
variable {n : Nat} {b : List UInt8} (hb : b.length ≤ 44)
include hb
theorem fG : (noSum n b).length = 64 := by unfold noSum; rw [length_splice _ _ _ (by rw [noSum_2]; omega), noSum_2]
theorem bt_noSum {j : Nat} : bt (noSum n b) j = if 8 ≤ j ∧ j < 8 + b.length then bt b (j - 8) else if 56 ≤ j ∧ j < 64 then bt (aX 8 8 n) (j - 56) else if j < 8 then bt (aX 8 8 n) j else 0 := by
 unfold noSum
 have hz : bt ap.toList j = 0 := by
  have : ap.toList = List.replicate 64 0 := by decide
  rw [this, bt_noughts]
 rw [bt_splice (by rw [noSum_2]; omega), bt_splice (by rw [noSum_1, ay]; omega), bt_splice (by simp [ay]), ay, hz]
 congr 2
 by_cases h : j < 8
 ·rw [if_pos (by omega), if_pos h, Nat.sub_zero]
 ·rw [if_neg (by omega), if_neg h]
theorem noSum_head : piece (noSum n b) 0 52 = dj n b := by
 refine eC (by rw [bi (by rw [fG hb]; omega), dU n hb]) fun j hj => ?_
 rw [bi (by rw [fG hb]; omega)] at hj
 rw [dy hj, Nat.zero_add, bt_noSum hb, bt_head]
 by_cases h8 : j < 8
 ·rw [if_neg (by omega), if_neg (by omega), if_pos h8, if_pos h8]
 ·by_cases h2 : j < 8 + b.length
  ·rw [if_pos (by omega), if_neg h8, if_pos h2]
  ·rw [if_neg (by omega), if_neg (by omega), if_neg h8, if_neg h8, if_neg h2]
theorem noSum_seal : splice (noSum n b) 52 (aX 8 4 (more 0 (dj n b))) = db n b := by
 have h64 := fG (n := n) hb
 refine eC (by rw [length_splice _ _ _ (by rw [h64, ay]; omega), h64, fF n hb]) fun j hj => ?_
 rw [length_splice _ _ _ (by rw [h64, ay]; omega), h64] at hj
 rw [bt_splice (by rw [h64, ay]; omega), bt_seal hb, ay, bt_noSum hb, bt_head]
 by_cases h52 : j < 52
 ·rw [if_neg (by omega), if_pos h52]
  by_cases h8 : j < 8
  ·rw [if_neg (by omega), if_neg (by omega), if_pos h8, if_pos h8]
  ·by_cases h2 : j < 8 + b.length
   ·rw [if_pos (by omega), if_neg h8, if_pos h2]
   ·rw [if_neg (by omega), if_neg (by omega), if_neg h8, if_neg h8, if_neg h2]
 ·by_cases h56 : j < 56
  ·rw [if_pos (by omega), if_neg h52, if_pos h56]
  ·rw [if_neg (by omega), if_neg h52, if_neg h56, if_neg (by omega), if_pos (by omega)]
end
theorem cells5 {w : World} {b : Nat} {t : TypeId} {x y z u v : Value} (h : w.heap[b]? = some (.cells #[x, y, z, u, v] t (0, 0))) : w.cell? ⟨b, 0, none⟩ = some x ∧ w.cell? ⟨b, 1, none⟩ = some y ∧ w.cell? ⟨b, 2, none⟩ = some z ∧ w.cell? ⟨b, 3, none⟩ = some u ∧ w.cell? ⟨b, 4, none⟩ = some v := by
 refine ⟨?_, ?_, ?_, ?_, ?_⟩
 ·rw [cell_of_row w b 0 _ t (0, 0) h]; rfl
 ·rw [cell_of_row w b 1 _ t (0, 0) h]; rfl
 ·rw [cell_of_row w b 2 _ t (0, 0) h]; rfl
 ·rw [cell_of_row w b 3 _ t (0, 0) h]; rfl
 ·rw [cell_of_row w b 4 _ t (0, 0) h]; rfl
def PartsAt (w : World) (p g : Nat) : Prop := w.heap[p]? = some (.cells (fe g) 182 (0, 0))
theorem PartsAt.cells {w : World} {p g : Nat} (h : PartsAt w p g) : w.cell? ⟨p, 0, none⟩ = some (.slice (some ⟨g, 0, none⟩) 8 8) ∧ w.cell? ⟨p, 1, none⟩ = some (.slice (some ⟨g, 8, none⟩) 44 44) ∧ w.cell? ⟨p, 2, none⟩ = some (.slice (some ⟨g, 52, none⟩) 4 4) ∧ w.cell? ⟨p, 3, none⟩ = some (.slice (some ⟨g, 56, none⟩) 8 8) ∧ w.cell? ⟨p, 4, none⟩ = some (.slice (some ⟨g, 0, none⟩) 52 52) := cells5 h
theorem PartsAt.grown {w w' : World} {p g k : Nat} (h : PartsAt w p g) (hk : p ≠ k) (hb : w.grownBy w' (some k)) : PartsAt w' p g := (hb.block p (aK h) (fun e => hk (by injection e))).trans h
theorem PartsAt.below {w w' : World} {p g B : Nat} (h : PartsAt w p g) (hB : p < B) (hb : Below B w w') : PartsAt w' p g := eM h hB hb
structure PutW (B : Nat) (w w' : World) (r g p : Nat) (l : List UInt8) : Prop where
 res : bR w' r 29 ap.toList
 row : bR w' g 29 l
 par : PartsAt w' p g
 bel : Below B w w'
 r0 : B ≤ r
 g0 : B ≤ g
 rg : r ≠ g
 pg : p ≠ g
theorem PutW.turn {B : Nat} {w w1 w2 : World} {r g p : Nat} {l l' : List UInt8} (h : PutW B w w1 r g p l) (hr : bR w2 g 29 l') (hg : w1.grownBy w2 (some g)) (hB : B ≤ w.heap.size) : PutW B w w2 r g p l' :=
 ⟨h.res.grown h.rg hg, hr, h.par.grown h.pg hg, h.bel.grown hg (Nat.le_trans hB h.bel.size) (fun k hk => by injection hk with e; have := h.g0; omega), h.r0, h.g0, h.rg, h.pg⟩
theorem PutW.draw {B : Nat} {w w1 : World} {r g p : Nat} {l : List UInt8} (h : PutW B w w1 r g p l) : PutW B w w1.drew r g p l := ⟨h.res, h.row, h.par, bd h.bel, h.r0, h.g0, h.rg, h.pg⟩
section
variable {ρ : Operand → Value} {o : Oper} {x y z : Operand} {w : World} {t : TypeId} {n : Nat} {a : Value} {ad : Addr} {A : Option Addr} {m c : Nat}
theorem fb (ho : o.op = .convert 33 30 x) (hx : ρ x = .int .u32 (n : Int)) (hn : n < 4294967296) : (execOp ρ o).run Tryz.prog w = .ok (.value (.int .u64 (n : Int))) w := by
 have h : IntKind.u64.wrap (n : Int) = (n : Int) := IntWalk.u64_in _ ⟨by omega, by omega⟩
 have hc : (convert 33 30 (.int .u32 (n : Int))).run Tryz.prog w = .ok (.int .u64 (n : Int)) w := by simp [convert, go_sem, h]
 unfold execOp
 simp only [ho, hx, Sem.run_bind, hc, Result.andThen_ok, Sem.run_pure]
theorem ldS (h : w.cell? ad = some (.slice A m c)) : (Instr.loadAt 118 (.pointer (some ad))).run Tryz.prog w = .ok (.slice A m c) w := by simp [go_sem, h]
theorem faP2 {b : Nat} : (Instr.fieldAt 182 (.pointer (some ⟨b, 0, none⟩)) 2).run Tryz.prog w = .ok (.pointer (some ⟨b, 2, none⟩)) w := by kernel_rfl
theorem faP4 {b : Nat} : (Instr.fieldAt 182 (.pointer (some ⟨b, 0, none⟩)) 4).run Tryz.prog w = .ok (.pointer (some ⟨b, 4, none⟩)) w := by kernel_rfl
end
set_option maxHeartbeats 1000000 in
theorem put_arg (m c : Nat) (A : Option Addr) (b : List UInt8) (w : World) (hb : b.length = m) :
  Calls Tryz.prog 162 #[.int .u64 0, .slice A m c] w fun e w' => e = .returned (.tuple #[blk (dL 0 b), .int .i64 (dW 0 b : Nat)]) ∧ Below w.heap.size w w' := by
 have hA := (Below.refl w.heap.size w).alloc (Nat.le_refl _) (.cells (cel ap).toArray 29)
 have HT := af (dl w ap 29)
 have HA := af hA
 clear hA
 rw [show dL 0 b = ap from rfl, show dW 0 b = 2 from rfl]
 go_enter Tryz.func162, Tryz.ntmps162
 go_wp2_with (first | (refine al rfl (aT rfl) ?_) | (refine al rfl (b8 (c := ap) (parts := []) rfl rfl) ?_) | (refine aV rfl (aR rfl rfl rfl HT.out) ?_))
 refine bodyPost_ret (bZ rfl _ _ _ rfl (World.rangeAt_setCells_same _ _ _ _ (by rw [aA]; exact HT.out))) rfl ⟨rfl, below_setCells HA.out (Nat.le_refl _) _⟩
set_option maxHeartbeats 1000000 in
theorem put_long (n m c : Nat) (A : Option Addr) (b : List UInt8) (w : World) (hb : b.length = m) (h0 : 0 < n) (hm : 44 < m) (hm2 : m ≤ maxLen) :
  Calls Tryz.prog 162 #[.int .u64 n, .slice A m c] w fun e w' => e = .returned (.tuple #[blk (dL n b), .int .i64 (dW n b : Nat)]) ∧ Below w.heap.size w w' := by
 have hA := (Below.refl w.heap.size w).alloc (Nat.le_refl _) (.cells (cel ap).toArray 29)
 have HT := af (dl w ap 29)
 have HA := af hA
 have hE : dW n b = 3 := by unfold dW; rw [if_neg (by omega), if_pos (by omega)]
 have hB : dL n b = ap := by unfold dL; rw [hE]; rfl
 rw [hE, hB]
 unfold maxLen at hm2
 clear hA hE hB hb
 have hz : ((n : Int) == 0) = false := by simp; omega
 go_enter Tryz.func162, Tryz.ntmps162
 go_wp2_with (first | (refine al rfl (aT rfl) ?_) | (refine al rfl (b8 (c := ap) (parts := []) rfl rfl) ?_) | (refine aV rfl (aR rfl rfl rfl HT.out) ?_))
 refine bodyPost_ret (bZ rfl _ _ _ rfl (World.rangeAt_setCells_same _ _ _ _ (by rw [aA]; exact HT.out))) rfl ⟨rfl, below_setCells HA.out (Nat.le_refl _) _⟩
theorem eH {a x : List UInt8} (h : a.length + x.length ≤ 44) : splice (cy a) a.length x = cy (a ++ x) := by
 unfold splice cy
 rw [List.take_append_of_le_length (Nat.le_refl _), List.take_length, List.drop_append]
 rw [List.drop_of_length_le (by omega), List.nil_append, List.drop_replicate, List.append_assoc, List.length_append]
 congr 3
 omega
def z44 : List UInt8 := List.replicate 44 0
theorem z44_length : z44.length = 44 := rfl
def evB (n : Nat) : Bool := decide (1 ≤ n ∧ n ≤ 4611686018427387904)
theorem of_evB {n : Nat} (h : evB n = true) : 1 ≤ n ∧ n ≤ 4611686018427387904 := of_decide_eq_true h
theorem padL_full {b : List UInt8} (h : b.length = 44) : cy b = b := by simp [cy, h]
theorem headL_pad {b : List UInt8} (n : Nat) (h : b.length ≤ 44) : dj n (cy b) = dj n b := by unfold dj; rw [padL_full (cT h)]
theorem sealL_pad {b : List UInt8} (n : Nat) (h : b.length ≤ 44) : db n (cy b) = db n b := by unfold db; rw [headL_pad n h]
theorem val_dig {k n : Nat} (h : n < 2 ^ (8 * k)) : val 8 (aX 8 k n) = n := by rw [val_digL (by omega), Nat.mod_eq_of_lt h]
theorem piece_cat (l : List UInt8) (p a b : Nat) : piece l p a ++ piece l (p + a) b = piece l p (a + b) := by
 unfold piece
 rw [List.take_add, List.drop_drop]
theorem fg {l : List UInt8} {p k : Nat} (h : p + k ≤ l.length) : aX 8 k (val 8 (piece l p k)) = piece l p k := by
 have := digL_val (all_256 (piece l p k))
 rwa [bi h] at this
theorem fM (b : Blk) : cP b.toList < 18446744073709551616 := getN_lt (by simp)
theorem dA {b : Blk} (h : cu b.toList = 0) : (cv b.toList).length = 44 := by rw [getB_of h]; exact bi (by simp)
end Go.Proofs.YtbbcdhkinbmdnaaGreatDoor
