import Derived.Test.YtbbcdhkinbmdnaaGreatDoorLoae
import Derived.Test.YtbbcdhkinbmdnaaGreatDoorLoad
import Derived.Test.YtbbcdhkinbmdnaaGreatDoorLoac
import Derived.Test.YtbbcdhkinbmdnaaGreatDoorLoab
import Derived.Test.YtbbcdhkinbmdnaaGreatDoorLoZ
namespace Go.Proofs.YtbbcdhkinbmdnaaGreatDoor
open Go.RowKit
set_option maxRecDepth 100000
set_option linter.unusedVariables false
structure Cod (Y : Type) where
 zero : Y
 may : Y → Bool
 num : Y → Nat
 body : Y → List UInt8
 told : Nat → List UInt8 → Y
 fits : Y → Prop
 may_num : ∀ y, may y = true → 1 ≤ num y ∧ num y ≤ 4611686018427387904
 len : ∀ y, (body y).length ≤ 44
 back : ∀ y, fits y → may y = true → told (num y) (cy (body y)) = y
 num_told : ∀ n l, num (told n l) = n
 fits_told : ∀ n l, l.length = 44 → n < 18446744073709551616 → fits (told n l)
 zero_no : may zero = false
 zero_num : num zero = 0
 zero_fits : fits zero
namespace Cod
variable {Y : Type} (C : Cod Y)
def full (y : Y) : List UInt8 := cy (C.body y)
theorem full_length (y : Y) : (C.full y).length = 44 := cT (C.len y)
def pE (y : Y) : Nat := if C.may y = true then 0 else 2
def pB (y : Y) : Blk := if C.may y = true then dL (C.num y) (C.body y) else ap
theorem pE_ok {y : Y} (h : C.may y = true) : C.pE y = 0 := if_pos h
theorem pB_ok {y : Y} (h : C.may y = true) : C.pB y = dL (C.num y) (C.body y) := if_pos h
theorem pE_no {y : Y} (h : ¬ C.may y = true) : C.pE y = 2 := if_neg h
theorem pB_no {y : Y} (h : ¬ C.may y = true) : C.pB y = ap := if_neg h
theorem of_pE {y : Y} (h : C.pE y = 0) : C.may y = true := by
 unfold pE at h
 split at h
 ·assumption
 ·omega
theorem putE_full (n : Nat) (y : Y) : dW n (C.full y) = dW n (C.body y) := by
 have h1 := C.full_length y
 have h2 := C.len y
 unfold dW
 rw [if_neg (show ¬ 44 < (C.full y).length by omega), if_neg (show ¬ 44 < (C.body y).length by omega)]
theorem putB_full (n : Nat) (y : Y) : dL n (C.full y) = dL n (C.body y) := by
 unfold dL; rw [C.putE_full]; unfold full; rw [sealL_pad n (C.len y)]
theorem body_putE {n : Nat} (y : Y) (h : n ≠ 0) : dW n (C.body y) = 0 := putE_ok h (C.len y)
theorem may_putE {y : Y} (h : C.may y = true) : dW (C.num y) (C.body y) = 0 := C.body_putE y (by have := C.may_num y h; omega)
def raw (b : Blk) : Y := C.told (cP b.toList) (cv b.toList)
def good (b : Blk) : Bool := C.may (C.raw b) && decide (C.full (C.raw b) = cv b.toList)
theorem ef {b : Blk} : C.good b = true ↔ C.may (C.raw b) = true ∧ C.full (C.raw b) = cv b.toList := by
 unfold good; simp
def gE (b : Blk) : Nat := if cu b.toList ≠ 0 then cu b.toList else if C.good b = true then 0 else 5
def gX (b : Blk) : Y := if C.gE b = 0 then C.raw b else C.zero
def gN (b : Blk) : Nat := C.num (C.gX b)
theorem gE_seal {b : Blk} (h : cu b.toList ≠ 0) : C.gE b = cu b.toList := if_pos h
theorem gE_form {b : Blk} (h : cu b.toList = 0) (h' : ¬ C.good b = true) : C.gE b = 5 := by
 unfold gE; rw [if_neg (by omega), if_neg h']
theorem gE_ok {b : Blk} (h : cu b.toList = 0) (h' : C.good b = true) : C.gE b = 0 := by
 unfold gE; rw [if_neg (by omega), if_pos h']
theorem of_gE {b : Blk} (h : C.gE b = 0) : cu b.toList = 0 ∧ C.may (C.raw b) = true ∧ C.full (C.raw b) = cv b.toList := by
 unfold gE at h
 split at h
 ·omega
 ·rename_i h0
  split at h
  ·rename_i h1; exact ⟨by omega, C.ef.1 h1⟩
  ·omega
theorem gX_of {b : Blk} (h : C.gE b = 0) : C.gX b = C.raw b := if_pos h
theorem gX_no {b : Blk} (h : C.gE b ≠ 0) : C.gX b = C.zero := if_neg h
theorem gN_of {b : Blk} (h : C.gE b = 0) : C.gN b = cP b.toList := by unfold gN; rw [C.gX_of h]; exact C.num_told _ _
theorem gN_no {b : Blk} (h : C.gE b ≠ 0) : C.gN b = 0 := by unfold gN; rw [C.gX_no h]; exact C.zero_num
theorem gX_may {b : Blk} (h : C.gE b = 0) : C.may (C.gX b) = true := by rw [C.gX_of h]; exact (C.of_gE h).2.1
theorem gN_pos {b : Blk} (h : C.gE b = 0) : 1 ≤ C.gN b := (C.may_num _ (C.gX_may h)).1
theorem gN_zero {b : Blk} : C.gN b = 0 ↔ C.gE b ≠ 0 := by
 constructor
 ·intro h e
  have := C.gN_pos e
  omega
 ·exact C.gN_no
theorem gX_fits (b : Blk) : C.fits (C.gX b) := by
 by_cases h : C.gE b = 0
 ·rw [C.gX_of h]
  exact C.fits_told _ _ (dA (C.of_gE h).1) (fM b)
 ·rw [C.gX_no h]; exact C.zero_fits
theorem put_get {y : Y} (hf : C.fits y) (h : C.pE y = 0) : C.gE (C.pB y) = 0 ∧ C.gX (C.pB y) = y := by
 have h1 := C.of_pE h
 have h2 := C.may_num y h1
 have hn : C.num y < 18446744073709551616 := by omega
 have hp := C.may_putE h1
 have e1 := put_getE hn hp
 have e2 := put_getN hn hp
 have e3 := put_getB hn hp
 rw [C.pB_ok h1]
 have e4 : C.raw (dL (C.num y) (C.body y)) = y := by unfold raw; rw [e2, e3]; exact C.back y hf h1
 have hE : C.gE (dL (C.num y) (C.body y)) = 0 := C.gE_ok e1 (C.ef.2 ⟨by rw [e4]; exact h1, by rw [e4, e3]; rfl⟩)
 exact ⟨hE, by rw [C.gX_of hE, e4]⟩
theorem put_gN {y : Y} (hf : C.fits y) (h : C.pE y = 0) : C.gN (C.pB y) = C.num y := by unfold gN; rw [(C.put_get hf h).2]
theorem g_zero : C.gE ap = 5 := by rw [C.gE_seal (by rw [zero_getE]; omega), zero_getE]
def nE (a b : Blk) : Nat := if C.gN a = 0 ∧ C.gN b = 0 then 7 else 0
def nX (a b : Blk) : Y := if C.gN a < C.gN b then C.gX b else C.gX a
end Cod
open Go.RowKit
set_option maxRecDepth 100000
set_option linter.unusedVariables false
structure Mrk where
 id : Nat
 ring : Int
 first : Nat
 pos : Nat
deriving DecidableEq
structure Mk where
 n : Nat
 m : Mrk
deriving DecidableEq
def br : Mrk := ⟨0, 0, 0, 0⟩
def Mrk.fit (x : Mrk) : Prop := x.id < 18446744073709551616 ∧ x.first < 18446744073709551616 ∧ x.pos < 18446744073709551616
def dq (x : Mrk) : Bool := decide (x.id ≠ 0 ∧ 40 ≤ x.ring ∧ x.ring ≤ 256 ∧ 1 ≤ x.first ∧ x.first ≤ 4611686018427387904 ∧ x.pos ≤ 4611686018427387904)
theorem of_mrkB {x : Mrk} (h : dq x = true) : x.id ≠ 0 ∧ 40 ≤ x.ring ∧ x.ring ≤ 256 ∧ 1 ≤ x.first ∧ x.first ≤ 4611686018427387904 ∧ x.pos ≤ 4611686018427387904 := of_decide_eq_true h
def eh (x : Mrk) : List UInt8 := aX 8 8 x.id ++ (aX 8 2 x.ring.toNat ++ (aX 8 8 x.first ++ aX 8 8 x.pos))
theorem bodyM_length (x : Mrk) : (eh x).length = 26 := by simp [eh, ay]
def ci (l : List UInt8) : Mrk := ⟨val 8 (piece l 0 8), (val 8 (piece l 8 2) : Nat), val 8 (piece l 10 8), val 8 (piece l 18 8)⟩
def cW (x : Mrk) : List UInt8 := cy (eh x)
theorem dw (x : Mrk) : (cW x).length = 44 := cT (by rw [bodyM_length]; omega)
section
variable (x : Mrk)
private theorem pcM (a b c : List UInt8) {p k : Nat} (h : cW x = a ++ (b ++ c)) (hp : a.length = p) (hk : b.length = k) : piece (cW x) p k = b := by rw [h]; exact piece_mid _ _ _ hp hk
theorem fullM_0 : piece (cW x) 0 8 = aX 8 8 x.id := by
 unfold cW cy eh
 rw [List.append_assoc]
 exact piece_head _ _ (ay _ _ _)
theorem fullM_8 : piece (cW x) 8 2 = aX 8 2 x.ring.toNat :=
 pcM x (aX 8 8 x.id) _ _ (by unfold cW cy eh; simp only [List.append_assoc]; rfl) (by simp [ay]) (by simp [ay])
theorem fullM_10 : piece (cW x) 10 8 = aX 8 8 x.first :=
 pcM x (aX 8 8 x.id ++ aX 8 2 x.ring.toNat) _ _ (by unfold cW cy eh; simp only [List.append_assoc]; rfl) (by simp [ay]) (by simp [ay])
theorem fullM_18 : piece (cW x) 18 8 = aX 8 8 x.pos :=
 pcM x (aX 8 8 x.id ++ aX 8 2 x.ring.toNat ++ aX 8 8 x.first) _ _ (by unfold cW cy eh; simp only [List.append_assoc]; rfl) (by simp [ay]) (by simp [ay])
end
theorem told_fullM {x : Mrk} (hf : x.fit) (h : dq x = true) : ci (cW x) = x := by
 obtain ⟨_, h1, h2, _, _, _⟩ := of_mrkB h
 obtain ⟨f1, f2, f3⟩ := hf
 obtain ⟨id, ring, first, pos⟩ := x
 simp only at *
 unfold ci
 rw [fullM_0, fullM_8, fullM_10, fullM_18]
 simp only
 rw [val_dig (k := 8) (n := id) (by omega), val_dig (k := 2) (n := ring.toNat) (by omega), val_dig (k := 8) (n := first) (by omega), val_dig (k := 8) (n := pos) (by omega)]
 have e1 : ((ring.toNat : Nat) : Int) = ring := by omega
 rw [e1]
theorem told_fitM {l : List UInt8} (h : l.length = 44) : (ci l).fit :=
 ⟨cg (b := l) (p := 0) (k := 8) (by omega), cg (b := l) (p := 10) (k := 8) (by omega), cg (b := l) (p := 18) (k := 8) (by omega)⟩
theorem body_toldM {l : List UInt8} (h : l.length = 44) : eh (ci l) = piece l 0 26 := by
 unfold eh ci
 simp only [Int.toNat_natCast]
 rw [fg (by omega), fg (by omega), fg (by omega), fg (by omega)]
 rw [show (18 : Nat) = 10 + 8 from rfl, piece_cat l 10 8 8, show (10 : Nat) = 8 + 2 from rfl, piece_cat l 8 2 (8 + 8), show (8 : Nat) = 0 + 8 from rfl]
 exact piece_cat l 0 8 18
theorem full_toldM {l : List UInt8} (h : l.length = 44) : cW (ci l) = l ↔ ∀ j, 26 ≤ j → j < 44 → bt l j = 0 := by
 unfold cW
 rw [body_toldM h]
 have hl : (piece l 0 26).length = 26 := bi (by omega)
 have hat : ∀ j, j < 44 → bt (cy (piece l 0 26)) j = if j < 26 then bt l j else 0 := by
  intro j hj
  unfold cy
  by_cases h26 : j < 26
  ·rw [if_pos h26]
   have : bt (piece l 0 26 ++ List.replicate (44 - (piece l 0 26).length) 0) j = bt (piece l 0 26) j := by
    unfold bt
    simp [List.getD, List.getElem?_append_left (show j < (piece l 0 26).length by omega)]
   rw [this, dy h26, Nat.zero_add]
  ·rw [if_neg h26]
   unfold bt
   simp only [List.getD, List.getElem?_append_right (show (piece l 0 26).length ≤ j by omega), hl, List.getElem?_replicate]
   split <;> rfl
 constructor
 ·intro e j h1 h2
  have := hat j h2
  rw [e, if_neg (by omega)] at this
  exact this
 ·intro hz
  refine eC (by rw [cT (by omega), h]) fun j hj => ?_
  rw [cT (by omega)] at hj
  rw [hat j hj]
  by_cases h26 : j < 26
  ·rw [if_pos h26]
  ·rw [if_neg h26, hz j (by omega) hj]
def aN : Cod Mk where
 zero := ⟨0, br⟩
 may y := evB y.n && dq y.m
 num y := y.n
 body y := eh y.m
 told n l := ⟨n, ci l⟩
 fits y := y.n < 18446744073709551616 ∧ y.m.fit
 may_num y h := by
  rw [Bool.and_eq_true] at h
  exact of_evB h.1
 len y := by rw [bodyM_length]; omega
 back y hf h := by
  rw [Bool.and_eq_true] at h
  obtain ⟨n, m⟩ := y
  have := told_fullM hf.2 h.2
  simp only at this ⊢
  unfold cW at this
  rw [this]
 num_told _ _ := rfl
 fits_told n l h hn := ⟨hn, told_fitM h⟩
 zero_no := by decide
 zero_num := rfl
 zero_fits := ⟨by decide, by decide, by decide, by decide⟩
theorem dM {n : Nat} {m : Mrk} : aN.may ⟨n, m⟩ = (evB n && dq m) := rfl
open Go.RowKit
set_option linter.unusedVariables false
set_option maxRecDepth 100000
def a8 (x : Mrk) : List Value := [.int .u64 x.id, .int .i64 x.ring, .int .u64 x.first, .int .u64 x.pos]
def mrk (x : Mrk) : Value := .agg (a8 x).toArray
theorem gj (x : Mrk) : (a8 x).length = 4 := rfl
theorem celM_one (x : Mrk) : ∀ v ∈ a8 x, v.oneCell' = true := by
 intro v hv
 simp only [a8, List.mem_cons, List.not_mem_nil, or_false] at hv
 rcases hv with rfl | rfl | rfl | rfl <;> rfl
theorem ec : (Tryz.prog.info? 32).map (·.size) = some 4 := by kernel_rfl
theorem zeroM_info : (Tryz.prog.info? 32).map (fun i => i.zero) = some (some (mrk br)) := by kernel_rfl
section
variable {ρ : Operand → Value} {o : Oper} {x y : Operand} {w : World} {b off : Nat}
theorem bk {c : Mrk} (ho : o.op = .load 32 x) (hx : ρ x = .pointer (some ⟨b, off, none⟩)) (hc : w.rangeAt b off (a8 c)) : (execOp ρ o).run Tryz.prog w = .ok (.value (mrk c)) w :=
 dJ Tryz.underlying32 rfl ec ho hx hc
theorem fk {c : Mrk} (ho : o.op = .box 32 x) (hx : ρ x = mrk c) : (execOp ρ o).run Tryz.prog w = .ok (.value (.pointer (some ⟨w.heap.size, 0, none⟩))) (w.alloc (.cells (a8 c).toArray 32)) := el ho hx
theorem bG (ho : o.op = .alloc 32) : (execOp ρ o).run Tryz.prog w = .ok (.value (.pointer (some ⟨w.heap.size, 0, none⟩))) (w.alloc (.cells (a8 br).toArray 32)) := dQ zeroM_info ho
theorem cX {c d : Mrk} (ho : o.op = .store 32 x y) (hx : ρ x = .pointer (some ⟨w.heap.size, 0, none⟩)) (hy : ρ y = mrk c) : (execOp ρ o).run Tryz.prog (w.alloc (.cells (a8 d).toArray 32)) = .ok .skip (w.alloc (.cells (a8 c).toArray 32)) :=
 eO ec rfl (celM_one c) ho hx hy
theorem b7 {c : Mrk} (ho : o.op = .store 32 x y) (hx : ρ x = .pointer (some ⟨b, off, none⟩)) (hy : ρ y = mrk c) (ht : w.there b off 4) : (execOp ρ o).run Tryz.prog w = .ok .skip (w.setCells b off (a8 c)) :=
 exec_putT ec (celM_one c) ho hx hy ht
theorem run_bldM (w : World) : (Instr.build 32 #[]).run Tryz.prog w = .ok (mrk br) w := by kernel_rfl
theorem d8 (ho : o.op = .build 32 #[]) : (execOp ρ o).run Tryz.prog w = .ok (.value (mrk br)) w := exec_bld0 ho (run_bldM w)
end
def bP (w : World) (b : Nat) (x : Mrk) : Prop := w.heap[b]? = some (.cells (a8 x).toArray 32 (0, 0))
section
variable {w w' : World} {b : Nat} {x : Mrk}
theorem bP.range (h : bP w b x) : w.rangeAt b 0 (a8 x) := dt h
theorem bP.cells (h : bP w b x) : w.cell? ⟨b, 0, none⟩ = some (.int .u64 x.id) ∧ w.cell? ⟨b, 1, none⟩ = some (.int .i64 x.ring) ∧ w.cell? ⟨b, 2, none⟩ = some (.int .u64 x.first) ∧ w.cell? ⟨b, 3, none⟩ = some (.int .u64 x.pos) :=
 ⟨h.range 0 _ rfl, h.range 1 _ rfl, h.range 2 _ rfl, h.range 3 _ rfl⟩
theorem bP.below {B : Nat} (h : bP w b x) (hB : b < B) (hb : Below B w w') : bP w' b x := eM h hB hb
theorem bP.new (w : World) (x : Mrk) : bP (w.alloc (.cells (a8 x).toArray 32)) w.heap.size x := heap_alloc_new w _
theorem bP.past (h : bP w b x) (o : Obj) : bP (w.alloc o) b x := bU h o
theorem bP.there (h : bP w b x) : w.there b 0 4 := d7 (o := 0) (n := 4) h (Nat.le_refl _)
theorem eZ (w : World) (x : Mrk) : bP (w.alloc (.cells (a8 x).toArray 32)) w.heap.size x ∧ Below w.heap.size w (w.alloc (.cells (a8 x).toArray 32)) ∧ w.heap.size < (w.alloc (.cells (a8 x).toArray 32)).heap.size :=
 ⟨bP.new w x, (Below.refl _ w).alloc (Nat.le_refl _) _, by rw [World.size_alloc]; omega⟩
end
open Go.RowKit Go.ChangeShapes Go.WideShapes Go.ChangeAt Go.Deep
set_option maxRecDepth 100000
set_option linter.unusedSimpArgs false
theorem cellsMk : Tryz.prog.cellsOf 32 = 4 := by kernel_rfl
section
variable {H : Type} {enc : TypeId × Value → H} {W : World} {base : Nat} {v : Value} {d : DataW H} {p : List MemPlace}
theorem at_mark {fuel : Nat} {cs : List Value} {x : DataW H × List MemPlace} (h : DataW.trod enc Tryz.prog W 0 (fun _ => true) true fuel 32 cs = some x) : ∃ m : Mrk, cs = a8 m ∧ m.fit := by
 obtain ⟨xs, k, _, _, hlen, hn, hel⟩ := DataW.trod_struct Tryz.underlying32 h
 rw [cellsMk] at hlen
 have hn' : xs.length = 4 := hn
 match cs, hlen, xs, hn' with
 | [a, b, c, e], _, [y0, y1, y2, y3], _ =>
  have e0 : DataW.trod enc Tryz.prog W 0 (fun _ => true) true k 30 ((List.drop 0 [a, b, c, e]).take (Tryz.prog.cellsOf 30)) = some y0 := hel 0 _ rfl
  rw [cellsU] at e0
  have e1 : DataW.trod enc Tryz.prog W 0 (fun _ => true) true k 3 ((List.drop 1 [a, b, c, e]).take (Tryz.prog.cellsOf 3)) = some y1 := hel 1 _ rfl
  rw [cellsI] at e1
  have e2 : DataW.trod enc Tryz.prog W 0 (fun _ => true) true k 30 ((List.drop 2 [a, b, c, e]).take (Tryz.prog.cellsOf 30)) = some y2 := hel 2 _ rfl
  rw [cellsU] at e2
  have e3 : DataW.trod enc Tryz.prog W 0 (fun _ => true) true k 30 ((List.drop 3 [a, b, c, e]).take (Tryz.prog.cellsOf 30)) = some y3 := hel 3 _ rfl
  rw [cellsU] at e3
  obtain ⟨id, rfl, hid⟩ := at_u64 (show DataW.trod enc Tryz.prog W 0 (fun _ => true) true k 30 [a] = some y0 from e0)
  obtain ⟨ring, rfl⟩ := at_int (show DataW.trod enc Tryz.prog W 0 (fun _ => true) true k 3 [b] = some y1 from e1)
  obtain ⟨first, rfl, hfirst⟩ := at_u64 (show DataW.trod enc Tryz.prog W 0 (fun _ => true) true k 30 [c] = some y2 from e2)
  obtain ⟨pos, rfl, hpos⟩ := at_u64 (show DataW.trod enc Tryz.prog W 0 (fun _ => true) true k 30 [e] = some y3 from e3)
  exact ⟨⟨id, ring, first, pos⟩, rfl, hid, hfirst, hpos⟩
end
open Go.RowKit
set_option maxRecDepth 100000
set_option linter.unusedVariables false
structure Nte where
 seq : Nat
 pos : Nat
 cells : Int
 sum : Nat
deriving DecidableEq
def aM : Nte := ⟨0, 0, 0, 0⟩
def Nte.fit (x : Nte) : Prop := x.seq < 18446744073709551616 ∧ x.pos < 18446744073709551616 ∧ x.sum < 4294967296
def nteB (x : Nte) : Bool := decide (1 ≤ x.seq ∧ x.seq ≤ 4611686018427387904 ∧ x.pos ≤ 4611686018427387904 ∧ 1 ≤ x.cells ∧ x.cells ≤ 32)
theorem eX {x : Nte} (h : nteB x = true) : 1 ≤ x.seq ∧ x.seq ≤ 4611686018427387904 ∧ x.pos ≤ 4611686018427387904 ∧ 1 ≤ x.cells ∧ x.cells ≤ 32 := of_decide_eq_true h
def dG (x : Nte) : List UInt8 := aX 8 8 x.pos ++ (aX 8 2 x.cells.toNat ++ aX 8 4 x.sum)
theorem gl (x : Nte) : (dG x).length = 14 := by simp [dG, ay]
def bV (n : Nat) (l : List UInt8) : Nte := ⟨n, val 8 (piece l 0 8), (val 8 (piece l 8 2) : Nat), val 8 (piece l 10 4)⟩
def cw (x : Nte) : List UInt8 := cy (dG x)
theorem dE (x : Nte) : (cw x).length = 44 := cT (by rw [gl]; omega)
section
variable (x : Nte)
private theorem pcNt (a b c : List UInt8) {p k : Nat} (h : cw x = a ++ (b ++ c)) (hp : a.length = p) (hk : b.length = k) : piece (cw x) p k = b := by rw [h]; exact piece_mid _ _ _ hp hk
theorem fullNt_0 : piece (cw x) 0 8 = aX 8 8 x.pos := by
 unfold cw cy dG
 rw [List.append_assoc]
 exact piece_head _ _ (ay _ _ _)
theorem fullNt_8 : piece (cw x) 8 2 = aX 8 2 x.cells.toNat :=
 pcNt x (aX 8 8 x.pos) _ _ (by unfold cw cy dG; simp only [List.append_assoc]; rfl) (by simp [ay]) (by simp [ay])
theorem fullNt_10 : piece (cw x) 10 4 = aX 8 4 x.sum :=
 pcNt x (aX 8 8 x.pos ++ aX 8 2 x.cells.toNat) _ _ (by unfold cw cy dG; simp only [List.append_assoc]; rfl) (by simp [ay]) (by simp [ay])
end
theorem told_fullNt {x : Nte} (hf : x.fit) (h : nteB x = true) : bV x.seq (cw x) = x := by
 obtain ⟨_, _, _, h1, h2⟩ := eX h
 obtain ⟨f1, f2, f3⟩ := hf
 obtain ⟨seq, pos, cells, sum⟩ := x
 simp only at *
 unfold bV
 rw [fullNt_0, fullNt_8, fullNt_10]
 simp only
 rw [val_dig (k := 8) (n := pos) (by omega), val_dig (k := 2) (n := cells.toNat) (by omega), val_dig (k := 4) (n := sum) (by omega)]
 have e1 : ((cells.toNat : Nat) : Int) = cells := by omega
 rw [e1]
theorem told_fitNt {n : Nat} {l : List UInt8} (hn : n < 18446744073709551616) (h : l.length = 44) : (bV n l).fit :=
 ⟨hn, cg (b := l) (p := 0) (k := 8) (by omega), cg (b := l) (p := 10) (k := 4) (by omega)⟩
theorem body_toldNt {n : Nat} {l : List UInt8} (h : l.length = 44) : dG (bV n l) = piece l 0 14 := by
 unfold dG bV
 simp only [Int.toNat_natCast]
 rw [fg (by omega), fg (by omega), fg (by omega)]
 rw [show (10 : Nat) = 8 + 2 from rfl, piece_cat l 8 2 4, show (8 : Nat) = 0 + 8 from rfl]
 exact piece_cat l 0 8 6
theorem full_toldNt {n : Nat} {l : List UInt8} (h : l.length = 44) : cw (bV n l) = l ↔ ∀ j, 14 ≤ j → j < 44 → bt l j = 0 := by
 unfold cw
 rw [body_toldNt h]
 have hl : (piece l 0 14).length = 14 := bi (by omega)
 have hat : ∀ j, j < 44 → bt (cy (piece l 0 14)) j = if j < 14 then bt l j else 0 := by
  intro j hj
  unfold cy
  by_cases h26 : j < 14
  ·rw [if_pos h26]
   have : bt (piece l 0 14 ++ List.replicate (44 - (piece l 0 14).length) 0) j = bt (piece l 0 14) j := by
    unfold bt
    simp [List.getD, List.getElem?_append_left (show j < (piece l 0 14).length by omega)]
   rw [this, dy h26, Nat.zero_add]
  ·rw [if_neg h26]
   unfold bt
   simp only [List.getD, List.getElem?_append_right (show (piece l 0 14).length ≤ j by omega), hl, List.getElem?_replicate]
   split <;> rfl
 constructor
 ·intro e j h1 h2
  have := hat j h2
  rw [e, if_neg (by omega)] at this
  exact this
 ·intro hz
  refine eC (by rw [cT (by omega), h]) fun j hj => ?_
  rw [cT (by omega)] at hj
  rw [hat j hj]
  by_cases h26 : j < 14
  ·rw [if_pos h26]
  ·rw [if_neg h26, hz j (by omega) hj]
def aL : Cod Nte where
 zero := aM
 may := nteB
 num y := y.seq
 body := dG
 told := bV
 fits := Nte.fit
 may_num y h := ⟨(eX h).1, (eX h).2.1⟩
 len y := by rw [gl]; omega
 back y hf h := told_fullNt hf h
 num_told _ _ := rfl
 fits_told n l h hn := told_fitNt hn h
 zero_no := by decide
 zero_num := rfl
 zero_fits := ⟨by decide, by decide, by decide⟩
def bc (x : Nte) : Nat := hd x.cells.toNat + x.cells.toNat
open Go.RowKit
set_option linter.unusedVariables false
set_option maxRecDepth 100000
def aQ (x : Nte) : List Value := [.int .u64 x.seq, .int .u64 x.pos, .int .i64 x.cells, .int .u32 x.sum]
def nte (x : Nte) : Value := .agg (aQ x).toArray
theorem celNt_length (x : Nte) : (aQ x).length = 4 := rfl
theorem celNt_one (x : Nte) : ∀ v ∈ aQ x, v.oneCell' = true := by
 intro v hv
 simp only [aQ, List.mem_cons, List.not_mem_nil, or_false] at hv
 rcases hv with rfl | rfl | rfl | rfl <;> rfl
theorem sizeNt : (Tryz.prog.info? 35).map (·.size) = some 4 := by kernel_rfl
theorem zeroNt_info : (Tryz.prog.info? 35).map (fun i => i.zero) = some (some (nte aM)) := by kernel_rfl
section
variable {ρ : Operand → Value} {o : Oper} {x y : Operand} {w : World} {b off : Nat}
theorem bh {c : Nte} (ho : o.op = .load 35 x) (hx : ρ x = .pointer (some ⟨b, off, none⟩)) (hc : w.rangeAt b off (aQ c)) : (execOp ρ o).run Tryz.prog w = .ok (.value (nte c)) w :=
 dJ Tryz.underlying35 rfl sizeNt ho hx hc
theorem cO {c : Nte} (ho : o.op = .box 35 x) (hx : ρ x = nte c) : (execOp ρ o).run Tryz.prog w = .ok (.value (.pointer (some ⟨w.heap.size, 0, none⟩))) (w.alloc (.cells (aQ c).toArray 35)) := el ho hx
theorem bW (ho : o.op = .alloc 35) : (execOp ρ o).run Tryz.prog w = .ok (.value (.pointer (some ⟨w.heap.size, 0, none⟩))) (w.alloc (.cells (aQ aM).toArray 35)) := dQ zeroNt_info ho
theorem dk {c d : Nte} (ho : o.op = .store 35 x y) (hx : ρ x = .pointer (some ⟨w.heap.size, 0, none⟩)) (hy : ρ y = nte c) : (execOp ρ o).run Tryz.prog (w.alloc (.cells (aQ d).toArray 35)) = .ok .skip (w.alloc (.cells (aQ c).toArray 35)) :=
 eO sizeNt rfl (celNt_one c) ho hx hy
theorem dX {c : Nte} (ho : o.op = .store 35 x y) (hx : ρ x = .pointer (some ⟨b, off, none⟩)) (hy : ρ y = nte c) (ht : w.there b off 4) : (execOp ρ o).run Tryz.prog w = .ok .skip (w.setCells b off (aQ c)) :=
 exec_putT sizeNt (celNt_one c) ho hx hy ht
theorem run_bldNt (w : World) : (Instr.build 35 #[]).run Tryz.prog w = .ok (nte aM) w := by kernel_rfl
theorem fh (ho : o.op = .build 35 #[]) : (execOp ρ o).run Tryz.prog w = .ok (.value (nte aM)) w := exec_bld0 ho (run_bldNt w)
end
def bI (w : World) (b : Nat) (x : Nte) : Prop := w.heap[b]? = some (.cells (aQ x).toArray 35 (0, 0))
section
variable {w w' : World} {b : Nat} {x : Nte}
theorem bI.range (h : bI w b x) : w.rangeAt b 0 (aQ x) := dt h
theorem bI.cells (h : bI w b x) : w.cell? ⟨b, 0, none⟩ = some (.int .u64 x.seq) ∧ w.cell? ⟨b, 1, none⟩ = some (.int .u64 x.pos) ∧ w.cell? ⟨b, 2, none⟩ = some (.int .i64 x.cells) ∧ w.cell? ⟨b, 3, none⟩ = some (.int .u32 x.sum) :=
 ⟨h.range 0 _ rfl, h.range 1 _ rfl, h.range 2 _ rfl, h.range 3 _ rfl⟩
theorem bI.below {B : Nat} (h : bI w b x) (hB : b < B) (hb : Below B w w') : bI w' b x := eM h hB hb
theorem bI.new (w : World) (x : Nte) : bI (w.alloc (.cells (aQ x).toArray 35)) w.heap.size x := heap_alloc_new w _
theorem bI.past (h : bI w b x) (o : Obj) : bI (w.alloc o) b x := bU h o
theorem bI.there (h : bI w b x) : w.there b 0 4 := d7 (o := 0) (n := 4) h (Nat.le_refl _)
theorem dm (w : World) (x : Nte) : bI (w.alloc (.cells (aQ x).toArray 35)) w.heap.size x ∧ Below w.heap.size w (w.alloc (.cells (aQ x).toArray 35)) ∧ w.heap.size < (w.alloc (.cells (aQ x).toArray 35)).heap.size :=
 ⟨bI.new w x, (Below.refl _ w).alloc (Nat.le_refl _) _, by rw [World.size_alloc]; omega⟩
end
open Go.RowKit Go.ChangeShapes Go.WideShapes Go.ChangeAt Go.Deep
set_option maxRecDepth 100000
set_option linter.unusedSimpArgs false
theorem cellsU32n : Tryz.prog.cellsOf 33 = 1 := by kernel_rfl
theorem cellsNt : Tryz.prog.cellsOf 35 = 4 := by kernel_rfl
section
variable {H : Type} {enc : TypeId × Value → H} {W : World} {base : Nat} {v : Value} {d : DataW H} {p : List MemPlace}
theorem at_u32 {m : Nat} {x : Value} {y : DataW H × List MemPlace} (h : DataW.trod enc Tryz.prog W 0 (fun _ => true) true m 33 [x] = some y) : ∃ k : Nat, x = .int .u32 (k : Int) ∧ k < 4294967296 := by
 obtain ⟨k, e, _, hw⟩ := DataW.trod_int Tryz.underlying33 h
 have hr := bounds_u32 hw
 injection e with e
 obtain ⟨n, rfl⟩ := Int.eq_ofNat_of_zero_le hr.1
 exact ⟨n, e, by omega⟩
theorem at_note {fuel : Nat} {cs : List Value} {x : DataW H × List MemPlace} (h : DataW.trod enc Tryz.prog W 0 (fun _ => true) true fuel 35 cs = some x) : ∃ m : Nte, cs = aQ m ∧ m.fit := by
 obtain ⟨xs, k, _, _, hlen, hn, hel⟩ := DataW.trod_struct Tryz.underlying35 h
 rw [cellsNt] at hlen
 have hn' : xs.length = 4 := hn
 match cs, hlen, xs, hn' with
 | [a, b, c, e], _, [y0, y1, y2, y3], _ =>
  have e0 : DataW.trod enc Tryz.prog W 0 (fun _ => true) true k 30 ((List.drop 0 [a, b, c, e]).take (Tryz.prog.cellsOf 30)) = some y0 := hel 0 _ rfl
  rw [cellsU] at e0
  have e1 : DataW.trod enc Tryz.prog W 0 (fun _ => true) true k 30 ((List.drop 1 [a, b, c, e]).take (Tryz.prog.cellsOf 30)) = some y1 := hel 1 _ rfl
  rw [cellsU] at e1
  have e2 : DataW.trod enc Tryz.prog W 0 (fun _ => true) true k 3 ((List.drop 2 [a, b, c, e]).take (Tryz.prog.cellsOf 3)) = some y2 := hel 2 _ rfl
  rw [cellsI] at e2
  have e3 : DataW.trod enc Tryz.prog W 0 (fun _ => true) true k 33 ((List.drop 3 [a, b, c, e]).take (Tryz.prog.cellsOf 33)) = some y3 := hel 3 _ rfl
  rw [cellsU32n] at e3
  obtain ⟨seq, rfl, hseq⟩ := at_u64 (show DataW.trod enc Tryz.prog W 0 (fun _ => true) true k 30 [a] = some y0 from e0)
  obtain ⟨pos, rfl, hpos⟩ := at_u64 (show DataW.trod enc Tryz.prog W 0 (fun _ => true) true k 30 [b] = some y1 from e1)
  obtain ⟨cells, rfl⟩ := at_int (show DataW.trod enc Tryz.prog W 0 (fun _ => true) true k 3 [c] = some y2 from e2)
  obtain ⟨sum, rfl, hsum⟩ := at_u32 (show DataW.trod enc Tryz.prog W 0 (fun _ => true) true k 33 [e] = some y3 from e3)
  exact ⟨⟨seq, pos, cells, sum⟩, rfl, hseq, hpos, hsum⟩
end
open Go.RowKit Go.ChangeShapes Go.WideShapes Go.ChangeAt Go.Deep
set_option linter.unusedVariables false
set_option linter.unusedSimpArgs false
set_option maxRecDepth 100000
theorem u64_of_trod {H : Type} {enc : TypeId × Value → H} {W : World} (fuel : Nat) (cs : List Value) (x : DataW H × List MemPlace) (h : DataW.trod enc Tryz.prog W 0 (fun _ => true) true fuel 30 cs = some x) : ∃ a : Nat, cs = [.int .u64 (a : Int)] ∧ a < 18446744073709551616 := by
 obtain ⟨k, e, _, hw⟩ := DataW.trod_int Tryz.underlying30 h
 have hr := bounds_u64 hw
 obtain ⟨n, rfl⟩ := Int.eq_ofNat_of_zero_le hr.1
 exact ⟨n, e, by omega⟩
theorem split_at {α : Type} (l : List α) (a k : Nat) : l.drop a = (l.drop a).take k ++ l.drop (a + k) := by
 conv => lhs; rw [← List.take_append_drop k (l.drop a)]
 rw [List.drop_drop]
structure Act14 where
 Do : Int
 D : Int
 CsA : Option Addr
 Csn : Nat
 Csc : Nat
 N : Nat
 Near : Bool
 Size : Int
 At : Int
 By : UInt8
 PsA : Option Addr
 Psn : Nat
 Psc : Nat
def Act14.C (a : Act14) : List Value := [.int .i64 a.Do] ++ ([.int .i64 a.D] ++ ([.slice a.CsA a.Csn a.Csc] ++ ([.int .u64 (a.N : Int)] ++ ([.bool a.Near] ++ ([.int .i64 a.Size] ++ ([.int .i64 a.At] ++ ([.int .u8 (a.By.toNat : Int)] ++ ([.slice a.PsA a.Psn a.Psc]))))))))
def Act14.V (a : Act14) : Value := .agg a.C.toArray
theorem Act14.C_len (a : Act14) : a.C.length = 9 := by simp [Act14.C, aA, gj, celNt_length]
theorem Act14.size : (Tryz.prog.info? 55).map (·.size) = some 9 := by kernel_rfl
section
variable {ρ : Operand → Value} {o : Oper} {x y : Operand} {w : World} {b off : Nat} {a c : Act14}
theorem exec_loadAct14 (ho : o.op = .load 55 x) (hx : ρ x = .pointer (some ⟨b, off, none⟩)) (hc : w.rangeAt b off a.C) : (execOp ρ o).run Tryz.prog w = .ok (.value a.V) w := dJ Tryz.underlying55 rfl (by rw [Act14.C_len]; exact Act14.size) ho hx hc
theorem gk (ho : o.op = .box 55 x) (hx : ρ x = a.V) : (execOp ρ o).run Tryz.prog w = .ok (.value (.pointer (some ⟨w.heap.size, 0, none⟩))) (w.alloc (.cells a.C.toArray 55)) := el ho hx
end
section
variable {w w' : World} {b : Nat} {a : Act14}
theorem faAct140 : (Instr.fieldAt 55 (.pointer (some ⟨b, 0, none⟩)) 0).run Tryz.prog w = .ok (.pointer (some ⟨b, 0, none⟩)) w := by kernel_rfl
theorem faAct143 : (Instr.fieldAt 55 (.pointer (some ⟨b, 0, none⟩)) 3).run Tryz.prog w = .ok (.pointer (some ⟨b, 3, none⟩)) w := by kernel_rfl
theorem faAct144 : (Instr.fieldAt 55 (.pointer (some ⟨b, 0, none⟩)) 4).run Tryz.prog w = .ok (.pointer (some ⟨b, 4, none⟩)) w := by kernel_rfl
def Act14.At_ (w : World) (b : Nat) (a : Act14) : Prop := w.heap[b]? = some (.cells a.C.toArray 55 (0, 0))
theorem Act14.At_.range (h : Act14.At_ w b a) : w.rangeAt b 0 a.C := dt h
theorem Act14.At_.below {B : Nat} (h : Act14.At_ w b a) (hB : b < B) (hb : Below B w w') : Act14.At_ w' b a := eM h hB hb
theorem Act14.At_.new (w : World) (a : Act14) : Act14.At_ (w.alloc (.cells a.C.toArray 55)) w.heap.size a := heap_alloc_new w _
theorem Act14.At_.f0 (h : Act14.At_ w b a) : w.cell? ⟨b, 0, none⟩ = some (.int .i64 a.Do) := by
 have := h.range 0 (.int .i64 a.Do) (by
  show a.C[0]? = _
  rw [show 0 = 0 + 0 from rfl, ← List.getElem?_drop]
  rw [show a.C.drop 0 = [.int .i64 a.Do] ++ ([.int .i64 a.D] ++ ([.slice a.CsA a.Csn a.Csc] ++ ([.int .u64 (a.N : Int)] ++ ([.bool a.Near] ++ ([.int .i64 a.Size] ++ ([.int .i64 a.At] ++ ([.int .u8 (a.By.toNat : Int)] ++ ([.slice a.PsA a.Psn a.Psc])))))))) from ?_]
  ·rfl
  ·rfl)
 rwa [Nat.zero_add] at this
theorem Act14.At_.f3 (h : Act14.At_ w b a) : w.cell? ⟨b, 3, none⟩ = some (.int .u64 (a.N : Int)) := by
 have := h.range 3 (.int .u64 (a.N : Int)) (by
  show a.C[3]? = _
  rw [show 3 = 3 + 0 from rfl, ← List.getElem?_drop]
  rw [show a.C.drop 3 = [.int .u64 (a.N : Int)] ++ ([.bool a.Near] ++ ([.int .i64 a.Size] ++ ([.int .i64 a.At] ++ ([.int .u8 (a.By.toNat : Int)] ++ ([.slice a.PsA a.Psn a.Psc]))))) from ?_]
  ·rfl
  ·rfl)
 rwa [Nat.zero_add] at this
theorem Act14.At_.f4 (h : Act14.At_ w b a) : w.cell? ⟨b, 4, none⟩ = some (.bool a.Near) := by
 have := h.range 4 (.bool a.Near) (by
  show a.C[4]? = _
  rw [show 4 = 4 + 0 from rfl, ← List.getElem?_drop]
  rw [show a.C.drop 4 = [.bool a.Near] ++ ([.int .i64 a.Size] ++ ([.int .i64 a.At] ++ ([.int .u8 (a.By.toNat : Int)] ++ ([.slice a.PsA a.Psn a.Psc])))) from ?_]
  ·rfl
  ·rfl)
 rwa [Nat.zero_add] at this
end
structure Step14 where
 Clear : Bool
 N : UInt8
 CsA : Option Addr
 Csn : Nat
 Csc : Nat
structure Spot14 where
 Kind : Int
 N : Int
 B : Blk
 Count : Nat
 Mark : Mrk
 Note : Nte
def Spot14.C (a : Spot14) : List Value := [.int .i64 a.Kind] ++ ([.int .i64 a.N] ++ (cel a.B ++ ([.int .u64 (a.Count : Int)] ++ (a8 a.Mark ++ (aQ a.Note)))))
def Spot14.V (a : Spot14) : Value := .agg a.C.toArray
theorem Spot14.C_len (a : Spot14) : a.C.length = 75 := by simp [Spot14.C, aA, gj, celNt_length]
theorem Spot14.C_one (a : Spot14) : ∀ v ∈ a.C, v.oneCell' = true := by
 intro v hv
 simp only [Spot14.C, List.mem_append, List.mem_singleton] at hv
 rcases hv with rfl | rfl | hv | rfl | hv | hv
 ·rfl
 ·rfl
 ·exact cel_one _ v hv
 ·rfl
 ·exact celM_one _ v hv
 ·exact celNt_one _ v hv
def Spot14.zero : Spot14 := ⟨0, 0, ap, 0, br, aM⟩
def Spot14E : Elt Spot14 where
 s := 23
 t := 37
 n := 75
 by_ := 152
 cel := Spot14.C
 d := Spot14.zero
 z := Spot14.zero.V
 pos := by omega
 small := by omega
 len := Spot14.C_len
 one := Spot14.C_one
 und := Tryz.underlying23
 info := by kernel_rfl
 zc := by show (Value.cells (.agg _)).size = 75; simp [Value.cells, Spot14.C_len]
def Spot14.In (W : World) (a : Spot14) : Prop := (-9223372036854775808 ≤ a.Kind ∧ a.Kind ≤ 9223372036854775807) ∧ (-9223372036854775808 ≤ a.N ∧ a.N ≤ 9223372036854775807) ∧ (a.Count < 18446744073709551616) ∧ (a.Mark.fit) ∧ (a.Note.fit)
section
variable {H : Type} {enc : TypeId × Value → H} {W : World} {base : Nat} {v : Value} {d : DataW H} {p : List MemPlace}
theorem Spot14.of_trod (fuel : Nat) (cs : List Value) (x : DataW H × List MemPlace) (h : DataW.trod enc Tryz.prog W 0 (fun _ => true) true fuel 37 cs = some x) : ∃ a : Spot14, cs = a.C ∧ a.In W := by
 obtain ⟨xs, m, _, _, hlen, hxl, hf⟩ := DataW.trod_struct Tryz.underlying37 h
 have h0 : DataW.trod enc Tryz.prog W 0 (fun _ => true) true m 3 ((cs.drop 0).take (Tryz.prog.cellsOf 3)) = xs[0]? := hf 0 _ rfl
 have h1 : DataW.trod enc Tryz.prog W 0 (fun _ => true) true m 3 ((cs.drop 1).take (Tryz.prog.cellsOf 3)) = xs[1]? := hf 1 _ rfl
 have h2 : DataW.trod enc Tryz.prog W 0 (fun _ => true) true m 29 ((cs.drop 2).take (Tryz.prog.cellsOf 29)) = xs[2]? := hf 2 _ rfl
 have h3 : DataW.trod enc Tryz.prog W 0 (fun _ => true) true m 30 ((cs.drop 66).take (Tryz.prog.cellsOf 30)) = xs[3]? := hf 3 _ rfl
 have h4 : DataW.trod enc Tryz.prog W 0 (fun _ => true) true m 32 ((cs.drop 67).take (Tryz.prog.cellsOf 32)) = xs[4]? := hf 4 _ rfl
 have h5 : DataW.trod enc Tryz.prog W 0 (fun _ => true) true m 35 ((cs.drop 71).take (Tryz.prog.cellsOf 35)) = xs[5]? := hf 5 _ rfl
 have hxl2 : xs.length = 6 := hxl
 have hln : cs.length = 75 := hlen.trans (by kernel_rfl)
 rw [show Tryz.prog.cellsOf 3 = 1 from by kernel_rfl, List.getElem?_eq_getElem (by omega)] at h0
 rw [show Tryz.prog.cellsOf 3 = 1 from by kernel_rfl, List.getElem?_eq_getElem (by omega)] at h1
 rw [show Tryz.prog.cellsOf 29 = 64 from by kernel_rfl, List.getElem?_eq_getElem (by omega)] at h2
 rw [show Tryz.prog.cellsOf 30 = 1 from by kernel_rfl, List.getElem?_eq_getElem (by omega)] at h3
 rw [show Tryz.prog.cellsOf 32 = 4 from by kernel_rfl, List.getElem?_eq_getElem (by omega)] at h4
 rw [show Tryz.prog.cellsOf 35 = 4 from by kernel_rfl, List.getElem?_eq_getElem (by omega)] at h5
 obtain ⟨a0, e0, w0⟩ := int_of_trod _ _ _ h0
 have b0 := bounds_i64 w0
 obtain ⟨a1, e1, w1⟩ := int_of_trod _ _ _ h1
 have b1 := bounds_i64 w1
 obtain ⟨a2, e2⟩ := cel_of_trod h2
 obtain ⟨a3, e3, b3⟩ := u64_of_trod _ _ _ h3
 obtain ⟨a4, e4, b4⟩ := at_mark h4
 obtain ⟨a5, e5, b5⟩ := at_note h5
 refine ⟨⟨a0, a1, a2, a3, a4, a5⟩, ?_, ⟨b0, b1, b3, b4, b5⟩⟩
 have q5 : cs.drop 71 = aQ a5 := by rw [← List.take_of_length_le (l := cs.drop 71) (i := 4) (by rw [List.length_drop]; omega)]; exact e5
 have q4 : cs.drop 67 = a8 a4 ++ (aQ a5) := by rw [split_at cs 67 4, e4, show 67 + 4 = 71 from rfl, q5]
 have q3 : cs.drop 66 = [.int .u64 (a3 : Int)] ++ (a8 a4 ++ (aQ a5)) := by rw [split_at cs 66 1, e3, show 66 + 1 = 67 from rfl, q4]
 have q2 : cs.drop 2 = cel a2 ++ ([.int .u64 (a3 : Int)] ++ (a8 a4 ++ (aQ a5))) := by rw [split_at cs 2 64, e2, show 2 + 64 = 66 from rfl, q3]
 have q1 : cs.drop 1 = [.int .i64 a1] ++ (cel a2 ++ ([.int .u64 (a3 : Int)] ++ (a8 a4 ++ (aQ a5)))) := by rw [split_at cs 1 1, e1, show 1 + 1 = 2 from rfl, q2]
 have q0 : cs.drop 0 = [.int .i64 a0] ++ ([.int .i64 a1] ++ (cel a2 ++ ([.int .u64 (a3 : Int)] ++ (a8 a4 ++ (aQ a5))))) := by rw [split_at cs 0 1, e0, show 0 + 1 = 1 from rfl, q1]
 exact q0
theorem open_Spot14s (hv : Value.okWide Tryz.prog W .any base 23 v) (h : DataW.Trod enc Tryz.prog W 0 (fun _ => true) true 23 v d p) :
  ∃ (A : Option Addr) (n c : Nat) (l : List Spot14), v = .slice A n c ∧ RdE Spot14E W W.heap.size A n l ∧ n ≤ c ∧ c ≤ maxLen ∧ ∀ k, k < n → (l.getD k Spot14.zero).In W :=
 open_elts Spot14E (Spot14.In W) (by kernel_rfl) hv h (fun fuel cs x h => Spot14.of_trod fuel cs x h)
end
theorem Spot14.size : (Tryz.prog.info? 37).map (·.size) = some 75 := by kernel_rfl
section
variable {ρ : Operand → Value} {o : Oper} {x y : Operand} {w : World} {b off : Nat} {a c : Spot14}
theorem exec_loadSpot14 (ho : o.op = .load 37 x) (hx : ρ x = .pointer (some ⟨b, off, none⟩)) (hc : w.rangeAt b off a.C) : (execOp ρ o).run Tryz.prog w = .ok (.value a.V) w := dJ Tryz.underlying37 rfl (by rw [Spot14.C_len]; exact Spot14.size) ho hx hc
theorem exec_boxSpot14 (ho : o.op = .box 37 x) (hx : ρ x = a.V) : (execOp ρ o).run Tryz.prog w = .ok (.value (.pointer (some ⟨w.heap.size, 0, none⟩))) (w.alloc (.cells a.C.toArray 37)) := el ho hx
end
section
variable {w w' : World} {b : Nat} {a : Spot14}
theorem faSpot140 : (Instr.fieldAt 37 (.pointer (some ⟨b, 0, none⟩)) 0).run Tryz.prog w = .ok (.pointer (some ⟨b, 0, none⟩)) w := by kernel_rfl
theorem faSpot142 : (Instr.fieldAt 37 (.pointer (some ⟨b, 0, none⟩)) 2).run Tryz.prog w = .ok (.pointer (some ⟨b, 2, none⟩)) w := by kernel_rfl
theorem faSpot143 : (Instr.fieldAt 37 (.pointer (some ⟨b, 0, none⟩)) 3).run Tryz.prog w = .ok (.pointer (some ⟨b, 66, none⟩)) w := by kernel_rfl
theorem faSpot144 : (Instr.fieldAt 37 (.pointer (some ⟨b, 0, none⟩)) 4).run Tryz.prog w = .ok (.pointer (some ⟨b, 67, none⟩)) w := by kernel_rfl
theorem faSpot145 : (Instr.fieldAt 37 (.pointer (some ⟨b, 0, none⟩)) 5).run Tryz.prog w = .ok (.pointer (some ⟨b, 71, none⟩)) w := by kernel_rfl
def Spot14.At_ (w : World) (b : Nat) (a : Spot14) : Prop := w.heap[b]? = some (.cells a.C.toArray 37 (0, 0))
theorem Spot14.At_.range (h : Spot14.At_ w b a) : w.rangeAt b 0 a.C := dt h
theorem Spot14.At_.below {B : Nat} (h : Spot14.At_ w b a) (hB : b < B) (hb : Below B w w') : Spot14.At_ w' b a := eM h hB hb
theorem Spot14.At_.past (h : Spot14.At_ w b a) (o : Obj) : Spot14.At_ (w.alloc o) b a := bU h o
theorem Spot14.At_.new (w : World) (a : Spot14) : Spot14.At_ (w.alloc (.cells a.C.toArray 37)) w.heap.size a := heap_alloc_new w _
theorem Spot14.At_.f0 (h : Spot14.At_ w b a) : w.cell? ⟨b, 0, none⟩ = some (.int .i64 a.Kind) := by
 have := h.range 0 (.int .i64 a.Kind) (by
  show a.C[0]? = _
  rw [show 0 = 0 + 0 from rfl, ← List.getElem?_drop]
  rw [show a.C.drop 0 = [.int .i64 a.Kind] ++ ([.int .i64 a.N] ++ (cel a.B ++ ([.int .u64 (a.Count : Int)] ++ (a8 a.Mark ++ (aQ a.Note))))) from ?_]
  ·rfl
  ·rfl)
 rwa [Nat.zero_add] at this
theorem Spot14.At_.f2 (h : Spot14.At_ w b a) : w.rangeAt b 2 (cel a.B) := fun j u hj => by
 have hl := (List.getElem?_eq_some_iff.1 hj).1
 have := h.range (2 + j) u (by
  show a.C[2 + j]? = some u
  rw [← List.getElem?_drop]
  rw [show a.C.drop 2 = cel a.B ++ ([.int .u64 (a.Count : Int)] ++ (a8 a.Mark ++ (aQ a.Note))) from ?_]
  ·first
   | exact hj
   | (rw [List.getElem?_append_left hl]; exact hj)
  ·rfl)
 rwa [Nat.zero_add] at this
theorem Spot14.At_.f3 (h : Spot14.At_ w b a) : w.cell? ⟨b, 66, none⟩ = some (.int .u64 (a.Count : Int)) := by
 have := h.range 66 (.int .u64 (a.Count : Int)) (by
  show a.C[66]? = _
  rw [show 66 = 66 + 0 from rfl, ← List.getElem?_drop]
  rw [show a.C.drop 66 = [.int .u64 (a.Count : Int)] ++ (a8 a.Mark ++ (aQ a.Note)) from ?_]
  ·rfl
  ·unfold Spot14.C; rw [show 66 = 1 + 65 from rfl, ← List.drop_drop, List.drop_left' (by rfl)]; rw [show 65 = 1 + 64 from rfl, ← List.drop_drop, List.drop_left' (by rfl)]; rw [List.drop_left' (by exact aA _)])
 rwa [Nat.zero_add] at this
theorem Spot14.At_.f4 (h : Spot14.At_ w b a) : w.rangeAt b 67 (a8 a.Mark) := fun j u hj => by
 have hl := (List.getElem?_eq_some_iff.1 hj).1
 have := h.range (67 + j) u (by
  show a.C[67 + j]? = some u
  rw [← List.getElem?_drop]
  rw [show a.C.drop 67 = a8 a.Mark ++ (aQ a.Note) from ?_]
  ·first
   | exact hj
   | (rw [List.getElem?_append_left hl]; exact hj)
  ·unfold Spot14.C; rw [show 67 = 1 + 66 from rfl, ← List.drop_drop, List.drop_left' (by rfl)]; rw [show 66 = 1 + 65 from rfl, ← List.drop_drop, List.drop_left' (by rfl)]; rw [show 65 = 64 + 1 from rfl, ← List.drop_drop, List.drop_left' (by exact aA _)]; rw [List.drop_left' (by rfl)])
 rwa [Nat.zero_add] at this
theorem Spot14.At_.f5 (h : Spot14.At_ w b a) : w.rangeAt b 71 (aQ a.Note) := fun j u hj => by
 have hl := (List.getElem?_eq_some_iff.1 hj).1
 have := h.range (71 + j) u (by
  show a.C[71 + j]? = some u
  rw [← List.getElem?_drop]
  rw [show a.C.drop 71 = aQ a.Note from ?_]
  ·first
   | exact hj
   | (rw [List.getElem?_append_left hl]; exact hj)
  ·unfold Spot14.C; rw [show 71 = 1 + 70 from rfl, ← List.drop_drop, List.drop_left' (by rfl)]; rw [show 70 = 1 + 69 from rfl, ← List.drop_drop, List.drop_left' (by rfl)]; rw [show 69 = 64 + 5 from rfl, ← List.drop_drop, List.drop_left' (by exact aA _)]; rw [show 5 = 1 + 4 from rfl, ← List.drop_drop, List.drop_left' (by rfl)]; rw [List.drop_left' (by exact gj _)])
 rwa [Nat.zero_add] at this
end
open Go.RowKit
set_option maxRecDepth 100000
set_option linter.unusedVariables false
def unw (ops : Array Oper) : List Oper → Act → Bool
 | [], _ => true
 | r :: rs, a => !(Region.wanted r (yielded ops a.tmps)) && unw ops rs (a.put r.dst undef)
def aJ : List Oper → Act → Act
 | [], a => a
 | r :: rs, a => aJ rs (a.put r.dst undef)
section
variable {P : Program} {ops : Array Oper} {rest l : List Oper} {o : Oper} {a : Act} {w w' : World} {Q : Exit → Act → World → Prop} {v : Value}
theorem wpList_unw : ∀ (rs : List Oper) (a : Act), unw ops rs a = true → wpList P ops Q rest (aJ rs a) w → wpList P ops Q (rs ++ rest) a w
 | [], _, _, h => h
 | r :: rs, a, hu, h => by
  simp only [unw, Bool.and_eq_true, Bool.not_eq_true'] at hu
  refine wpList_step fun K hK => ?_
  rw [if_neg (by rw [hu.1]; exact Bool.false_ne_true)]
  exact hK _ _ (wpList_unw rs _ hu.2 h)
theorem aC (n : Nat) (hw : Region.wanted o (yielded ops a.tmps) = true) (h : (execOp a.eval o).run P w = .ok (.value v) w') (hu : unw ops (l.take n) (a.put o.dst v) = true) (hr : wpList P ops Q (l.drop n) (aJ (l.take n) (a.put o.dst v)) w') : wpList P ops Q (o :: l) a w :=
 al hw h (by have := wpList_unw (P := P) (Q := Q) (l.take n) _ hu hr; rwa [List.take_append_drop] at this)
end
end Go.Proofs.YtbbcdhkinbmdnaaGreatDoor
