import Derived.Test.YtcpbekopbeaflaaGreatDoorLrac
import Derived.Deep.DeepCutAuto
namespace Go.Proofs.YtcpbekopbeaflaaGreatDoor
set_option maxHeartbeats 8000000
open Go.Proofs.Tryz
open Go.RowKit
set_option maxRecDepth 100000
set_option linter.unusedVariables false
structure Mrk where
 id : Nat
 ring : Int
 first : Nat
 pos : Nat
deriving DecidableEq
structure Mk where
 n : Nat
 m : Mrk
deriving DecidableEq
def bV : Mrk := ⟨0, 0, 0, 0⟩
def Mrk.fit (x : Mrk) : Prop := x.id < 18446744073709551616 /\ x.first < 18446744073709551616 /\ x.pos < 18446744073709551616
def d9 (x : Mrk) : Bool := decide (x.id ≠ 0 /\ 40 <= x.ring /\ x.ring <= 256 /\ 1 <= x.first /\ x.first <= 4611686018427387904 /\ x.pos <= 4611686018427387904)
theorem kr {x : Mrk} (h : d9 x = true) : x.id ≠ 0 /\ 40 <= x.ring /\ x.ring <= 256 /\ 1 <= x.first /\ x.first <= 4611686018427387904 /\ x.pos <= 4611686018427387904 := of_decide_eq_true h
def fb (x : Mrk) : List UInt8 := bw 8 8 x.id ++ (bw 8 2 x.ring.toNat ++ (bw 8 8 x.first ++ bw 8 8 x.pos))
theorem j1 (x : Mrk) : (fb x).length = 26 := by simp [fb, aL]
def cN (l : List UInt8) : Mrk := ⟨val 8 (piece l 0 8), (val 8 (piece l 8 2) : Nat), val 8 (piece l 10 8), val 8 (piece l 18 8)⟩
def dB (x : Mrk) : List UInt8 := di (fb x)
theorem eh (x : Mrk) : (dB x).length = 44 := dK (by rw [j1]; omega)
section
variable (x : Mrk)
private theorem pcM (a b c : List UInt8) {p k : Nat} (h : dB x = a ++ (b ++ c)) (hp : a.length = p) (hk : b.length = k) : piece (dB x) p k = b := by rw [h]; exact ra _ _ _ hp hk
theorem ago : piece (dB x) 0 8 = bw 8 8 x.id := by
 unfold dB di fb;rw [List.append_assoc];exact pI _ _ (aL _ _ _)
theorem aeX : piece (dB x) 8 2 = bw 8 2 x.ring.toNat :=
 pcM x (bw 8 8 x.id) _ _ (by unfold dB di fb; simp only [List.append_assoc]; rfl) (by simp [aL]) (by simp [aL])
theorem adp : piece (dB x) 10 8 = bw 8 8 x.first :=
 pcM x (bw 8 8 x.id ++ bw 8 2 x.ring.toNat) _ _ (by unfold dB di fb; simp only [List.append_assoc]; rfl) (by simp [aL]) (by simp [aL])
theorem acM : piece (dB x) 18 8 = bw 8 8 x.pos :=
 pcM x (bw 8 8 x.id ++ bw 8 2 x.ring.toNat ++ bw 8 8 x.first) _ _ (by unfold dB di fb; simp only [List.append_assoc]; rfl) (by simp [aL]) (by simp [aL])
end
theorem wl {x : Mrk} (hf : x.fit) (h : d9 x = true) : cN (dB x) = x := by
 obtain ⟨_, h1, h2, _, _, _⟩ := kr h;obtain ⟨f1, f2, f3⟩ := hf;obtain ⟨id, ring, first, pos⟩ := x;simp only at *;unfold cN;rw [ago, aeX, adp, acM];simp only;rw [kh (k := 8) (n := id) (by omega), kh (k := 2) (n := ring.toNat) (by omega), kh (k := 8) (n := first) (by omega), kh (k := 8) (n := pos) (by omega)];have e1 : ((ring.toNat : Nat) : Int) = ring := by omega
 rw [e1]
theorem jF {l : List UInt8} (h : l.length = 44) : (cN l).fit :=
 ⟨cJ (b := l) (p := 0) (k := 8) (by omega), cJ (b := l) (p := 10) (k := 8) (by omega), cJ (b := l) (p := 18) (k := 8) (by omega)⟩
theorem wJ {l : List UInt8} (h : l.length = 44) : fb (cN l) = piece l 0 26 := by
 unfold fb cN;simp only [Int.toNat_natCast];rw [gu (by omega), gu (by omega), gu (by omega), gu (by omega)];rw [show (18 : Nat) = 10 + 8 from rfl, jN l 10 8 8, show (10 : Nat) = 8 + 2 from rfl, jN l 8 2 (8 + 8), show (8 : Nat) = 0 + 8 from rfl];exact jN l 0 8 18
theorem py {l : List UInt8} (h : l.length = 44) : dB (cN l) = l ↔ ∀ j, 26 <= j -> j < 44 -> bt l j = 0 := by
 unfold dB;rw [wJ h];have hl : (piece l 0 26).length = 26 := bU (by omega);have hat : ∀ j, j < 44 -> bt (di (piece l 0 26)) j = if j < 26 then bt l j else 0 := by
  intro j hj;unfold di;by_cases h26 : j < 26
  ·rw [if_pos h26];have : bt (piece l 0 26 ++ List.replicate (44 - (piece l 0 26).length) 0) j = bt (piece l 0 26) j := by
    unfold bt;simp [List.getD, List.getElem?_append_left (show j < (piece l 0 26).length by omega)]
   rw [this, gi h26, Nat.zero_add]
  ·rw [if_neg h26];unfold bt;simp only [List.getD, List.getElem?_append_right (show (piece l 0 26).length <= j by omega), hl, List.getElem?_replicate]
   split <;> rfl
 constructor
 ·intro e j h1 h2;have := hat j h2;rw [e, if_neg (by omega)] at this;exact this
 ·intro hz;refine iR (by rw [dK (by omega), h]) fun j hj => ?_
  rw [dK (by omega)] at hj;rw [hat j hj];by_cases h26 : j < 26
  ·rw [if_pos h26]
  ·rw [if_neg h26, hz j (by omega) hj]
def bf : Cod Mk where
 zero := ⟨0, bV⟩
 may y := evB y.n && d9 y.m
 num y := y.n
 body y := fb y.m
 told n l := ⟨n, cN l⟩
 fits y := y.n < 18446744073709551616 /\ y.m.fit
 may_num y h := by
  rw [Bool.and_eq_true] at h;exact xi h.1
 len y := by rw [j1]; omega
 back y hf h := by
  rw [Bool.and_eq_true] at h;obtain ⟨n, m⟩ := y;have := wl hf.2 h.2;simp only at this ⊢;unfold dB at this;rw [this]
 num_told _ _ := rfl
 fits_told n l h hn := ⟨hn, jF h⟩
 zero_no := by decide
 zero_num := rfl
 zero_fits := ⟨by decide, by decide, by decide, by decide⟩
theorem eL {n : Nat} {m : Mrk} : bf.may ⟨n, m⟩ = (evB n && d9 m) := rfl
def bJ (x : Mrk) : List Value := [.int .u64 x.id, .int .i64 x.ring, .int .u64 x.first, .int .u64 x.pos]
def mrk (x : Mrk) : Value := .agg (bJ x).toArray
theorem n7 (x : Mrk) : (bJ x).length = 4 := rfl
theorem uu (x : Mrk) : ∀ v ∈ bJ x, v.oneCell' = true := by
 intro v hv;simp only [bJ, List.mem_cons, List.not_mem_nil, or_false] at hv;rcases hv with rfl | rfl | rfl | rfl <;> rfl
theorem eV : (prog.info? 95).map (·.size) = some 4 := by kernel_rfl
theorem wT : (prog.info? 95).map (fun i => i.zero) = some (some (mrk bV)) := by kernel_rfl
section
variable {ρ : Operand -> Value} {o : Oper} {x y : Operand} {w : World} {b off : Nat}
theorem bN {c : Mrk} (ho : o.op = .load 95 x) (hx : ρ x = .pointer (some ⟨b, off, none⟩)) (hc : w.rangeAt b off (bJ c)) : (execOp ρ o).run prog w = .ok (.value (mrk c)) w :=
 eI underlying95 rfl eV ho hx hc
theorem gA {c : Mrk} (ho : o.op = .box 95 x) (hx : ρ x = mrk c) : (execOp ρ o).run prog w = .ok (.value (.pointer (some ⟨w.heap.size, 0, none⟩))) (w.alloc (.cells (bJ c).toArray 95)) := fN ho hx
theorem cf (ho : o.op = .alloc 95) : (execOp ρ o).run prog w = .ok (.value (.pointer (some ⟨w.heap.size, 0, none⟩))) (w.alloc (.cells (bJ bV).toArray 95)) := eB wT ho
theorem dE {c d : Mrk} (ho : o.op = .store 95 x y) (hx : ρ x = .pointer (some ⟨w.heap.size, 0, none⟩)) (hy : ρ y = mrk c) : (execOp ρ o).run prog (w.alloc (.cells (bJ d).toArray 95)) = .ok .skip (w.alloc (.cells (bJ c).toArray 95)) :=
 fO eV rfl (uu c) ho hx hy
theorem cF {c : Mrk} (ho : o.op = .store 95 x y) (hx : ρ x = .pointer (some ⟨b, off, none⟩)) (hy : ρ y = mrk c) (ht : w.there b off 4) : (execOp ρ o).run prog w = .ok .skip (w.setCells b off (bJ c)) :=
 lu eV (uu c) ho hx hy ht
theorem ad6 (w : World) : (Instr.build 95 #[]).run prog w = .ok (mrk bV) w := by kernel_rfl
theorem eR (ho : o.op = .build 95 #[]) : (execOp ρ o).run prog w = .ok (.value (mrk bV)) w := nz ho (ad6 w)
end
def cq (w : World) (b : Nat) (x : Mrk) : Prop := w.heap[b]? = some (.cells (bJ x).toArray 95 (0, 0))
section
variable {w w' : World} {b : Nat} {x : Mrk}
theorem cq.range (h : cq w b x) : w.rangeAt b 0 (bJ x) := dW h
theorem cq.cells (h : cq w b x) : w.cell? ⟨b, 0, none⟩ = some (.int .u64 x.id) /\ w.cell? ⟨b, 1, none⟩ = some (.int .i64 x.ring) /\ w.cell? ⟨b, 2, none⟩ = some (.int .u64 x.first) /\ w.cell? ⟨b, 3, none⟩ = some (.int .u64 x.pos) :=
 ⟨h.range 0 _ rfl, h.range 1 _ rfl, h.range 2 _ rfl, h.range 3 _ rfl⟩
theorem cq.below {B : Nat} (h : cq w b x) (hB : b < B) (hb : Below B w w') : cq w' b x := gv h hB hb
theorem cq.new (w : World) (x : Mrk) : cq (w.alloc (.cells (bJ x).toArray 95)) w.heap.size x := heap_alloc_new w _
theorem cq.past (h : cq w b x) (o : Obj) : cq (w.alloc o) b x := cE h o
theorem cq.there (h : cq w b x) : w.there b 0 4 := fe (o := 0) (n := 4) h aj
theorem gk (w : World) (x : Mrk) : cq (w.alloc (.cells (bJ x).toArray 95)) w.heap.size x /\ Below w.heap.size w (w.alloc (.cells (bJ x).toArray 95)) /\ w.heap.size < (w.alloc (.cells (bJ x).toArray 95)).heap.size :=
 ⟨cq.new w x, (Below.refl _ w).alloc aj _, by rw [World.size_alloc]; omega⟩
end
structure Nte where
 seq : Nat
 pos : Nat
 cells : Int
 sum : Nat
deriving DecidableEq
def bc : Nte := ⟨0, 0, 0, 0⟩
def Nte.fit (x : Nte) : Prop := x.seq < 18446744073709551616 /\ x.pos < 18446744073709551616 /\ x.sum < 4294967296
def fU (x : Nte) : Bool := decide (1 <= x.seq /\ x.seq <= 4611686018427387904 /\ x.pos <= 4611686018427387904 /\ 1 <= x.cells /\ x.cells <= 32)
theorem gj {x : Nte} (h : fU x = true) : 1 <= x.seq /\ x.seq <= 4611686018427387904 /\ x.pos <= 4611686018427387904 /\ 1 <= x.cells /\ x.cells <= 32 := of_decide_eq_true h
def eq (x : Nte) : List UInt8 := bw 8 8 x.pos ++ (bw 8 2 x.cells.toNat ++ bw 8 4 x.sum)
theorem jp (x : Nte) : (eq x).length = 14 := by simp [eq, aL]
def cD (n : Nat) (l : List UInt8) : Nte := ⟨n, val 8 (piece l 0 8), (val 8 (piece l 8 2) : Nat), val 8 (piece l 10 4)⟩
def cW (x : Nte) : List UInt8 := di (eq x)
theorem ep (x : Nte) : (cW x).length = 44 := dK (by rw [jp]; omega)
section
variable (x : Nte)
private theorem aj3 (a b c : List UInt8) {p k : Nat} (h : cW x = a ++ (b ++ c)) (hp : a.length = p) (hk : b.length = k) : piece (cW x) p k = b := by rw [h]; exact ra _ _ _ hp hk
theorem abl : piece (cW x) 0 8 = bw 8 8 x.pos := by
 unfold cW di eq;rw [List.append_assoc];exact pI _ _ (aL _ _ _)
theorem abG : piece (cW x) 8 2 = bw 8 2 x.cells.toNat :=
 aj3 x (bw 8 8 x.pos) _ _ (by unfold cW di eq; simp only [List.append_assoc]; rfl) (by simp [aL]) (by simp [aL])
theorem zN : piece (cW x) 10 4 = bw 8 4 x.sum :=
 aj3 x (bw 8 8 x.pos ++ bw 8 2 x.cells.toNat) _ _ (by unfold cW di eq; simp only [List.append_assoc]; rfl) (by simp [aL]) (by simp [aL])
end
theorem tM {x : Nte} (hf : x.fit) (h : fU x = true) : cD x.seq (cW x) = x := by
 obtain ⟨_, _, _, h1, h2⟩ := gj h;obtain ⟨f1, f2, f3⟩ := hf;obtain ⟨seq, pos, cells, sum⟩ := x;simp only at *;unfold cD;rw [abl, abG, zN];simp only;rw [kh (k := 8) (n := pos) (by omega), kh (k := 2) (n := cells.toNat) (by omega), kh (k := 4) (n := sum) (by omega)];have e1 : ((cells.toNat : Nat) : Int) = cells := by omega
 rw [e1]
theorem kk {n : Nat} {l : List UInt8} (hn : n < 18446744073709551616) (h : l.length = 44) : (cD n l).fit :=
 ⟨hn, cJ (b := l) (p := 0) (k := 8) (by omega), cJ (b := l) (p := 10) (k := 4) (by omega)⟩
theorem vx {n : Nat} {l : List UInt8} (h : l.length = 44) : eq (cD n l) = piece l 0 14 := by
 unfold eq cD;simp only [Int.toNat_natCast];rw [gu (by omega), gu (by omega), gu (by omega)];rw [show (10 : Nat) = 8 + 2 from rfl, jN l 8 2 4, show (8 : Nat) = 0 + 8 from rfl];exact jN l 0 8 6
theorem n6 {n : Nat} {l : List UInt8} (h : l.length = 44) : cW (cD n l) = l ↔ ∀ j, 14 <= j -> j < 44 -> bt l j = 0 := by
 unfold cW;rw [vx h];have hl : (piece l 0 14).length = 14 := bU (by omega);have hat : ∀ j, j < 44 -> bt (di (piece l 0 14)) j = if j < 14 then bt l j else 0 := by
  intro j hj;unfold di;by_cases h26 : j < 14
  ·rw [if_pos h26];have : bt (piece l 0 14 ++ List.replicate (44 - (piece l 0 14).length) 0) j = bt (piece l 0 14) j := by
    unfold bt;simp [List.getD, List.getElem?_append_left (show j < (piece l 0 14).length by omega)]
   rw [this, gi h26, Nat.zero_add]
  ·rw [if_neg h26];unfold bt;simp only [List.getD, List.getElem?_append_right (show (piece l 0 14).length <= j by omega), hl, List.getElem?_replicate]
   split <;> rfl
 constructor
 ·intro e j h1 h2;have := hat j h2;rw [e, if_neg (by omega)] at this;exact this
 ·intro hz;refine iR (by rw [dK (by omega), h]) fun j hj => ?_
  rw [dK (by omega)] at hj;rw [hat j hj];by_cases h26 : j < 14
  ·rw [if_pos h26]
  ·rw [if_neg h26, hz j (by omega) hj]
def a9 : Cod Nte where
 zero := bc
 may := fU
 num y := y.seq
 body := eq
 told := cD
 fits := Nte.fit
 may_num y h := ⟨(gj h).1, (gj h).2.1⟩
 len y := by rw [jp]; omega
 back y hf h := tM hf h
 num_told _ _ := rfl
 fits_told n l h hn := kk hn h
 zero_no := by decide
 zero_num := rfl
 zero_fits := ⟨by decide, by decide, by decide⟩
def bF (x : Nte) : Nat := hd x.cells.toNat + x.cells.toNat
def bj (x : Nte) : List Value := [.int .u64 x.seq, .int .u64 x.pos, .int .i64 x.cells, .int .u32 x.sum]
def nte (x : Nte) : Value := .agg (bj x).toArray
theorem mP (x : Nte) : (bj x).length = 4 := rfl
theorem lh (x : Nte) : ∀ v ∈ bj x, v.oneCell' = true := by
 intro v hv;simp only [bj, List.mem_cons, List.not_mem_nil, or_false] at hv;rcases hv with rfl | rfl | rfl | rfl <;> rfl
theorem ii : (prog.info? 107).map (·.size) = some 4 := by kernel_rfl
theorem tq : (prog.info? 107).map (fun i => i.zero) = some (some (nte bc)) := by kernel_rfl
section
variable {ρ : Operand -> Value} {o : Oper} {x y : Operand} {w : World} {b off : Nat}
theorem bI {c : Nte} (ho : o.op = .load 107 x) (hx : ρ x = .pointer (some ⟨b, off, none⟩)) (hc : w.rangeAt b off (bj c)) : (execOp ρ o).run prog w = .ok (.value (nte c)) w :=
 eI underlying107 rfl ii ho hx hc
theorem dv {c : Nte} (ho : o.op = .box 107 x) (hx : ρ x = nte c) : (execOp ρ o).run prog w = .ok (.value (.pointer (some ⟨w.heap.size, 0, none⟩))) (w.alloc (.cells (bj c).toArray 107)) := fN ho hx
theorem cv (ho : o.op = .alloc 107) : (execOp ρ o).run prog w = .ok (.value (.pointer (some ⟨w.heap.size, 0, none⟩))) (w.alloc (.cells (bj bc).toArray 107)) := eB tq ho
theorem dL {c d : Nte} (ho : o.op = .store 107 x y) (hx : ρ x = .pointer (some ⟨w.heap.size, 0, none⟩)) (hy : ρ y = nte c) : (execOp ρ o).run prog (w.alloc (.cells (bj d).toArray 107)) = .ok .skip (w.alloc (.cells (bj c).toArray 107)) :=
 fO ii rfl (lh c) ho hx hy
theorem eK {c : Nte} (ho : o.op = .store 107 x y) (hx : ρ x = .pointer (some ⟨b, off, none⟩)) (hy : ρ y = nte c) (ht : w.there b off 4) : (execOp ρ o).run prog w = .ok .skip (w.setCells b off (bj c)) :=
 lu ii (lh c) ho hx hy ht
theorem zB (w : World) : (Instr.build 107 #[]).run prog w = .ok (nte bc) w := by kernel_rfl
theorem gH (ho : o.op = .build 107 #[]) : (execOp ρ o).run prog w = .ok (.value (nte bc)) w := nz ho (zB w)
end
def bO (w : World) (b : Nat) (x : Nte) : Prop := w.heap[b]? = some (.cells (bj x).toArray 107 (0, 0))
section
variable {w w' : World} {b : Nat} {x : Nte}
theorem bO.range (h : bO w b x) : w.rangeAt b 0 (bj x) := dW h
theorem bO.cells (h : bO w b x) : w.cell? ⟨b, 0, none⟩ = some (.int .u64 x.seq) /\ w.cell? ⟨b, 1, none⟩ = some (.int .u64 x.pos) /\ w.cell? ⟨b, 2, none⟩ = some (.int .i64 x.cells) /\ w.cell? ⟨b, 3, none⟩ = some (.int .u32 x.sum) :=
 ⟨h.range 0 _ rfl, h.range 1 _ rfl, h.range 2 _ rfl, h.range 3 _ rfl⟩
theorem bO.below {B : Nat} (h : bO w b x) (hB : b < B) (hb : Below B w w') : bO w' b x := gv h hB hb
theorem bO.new (w : World) (x : Nte) : bO (w.alloc (.cells (bj x).toArray 107)) w.heap.size x := heap_alloc_new w _
theorem bO.past (h : bO w b x) (o : Obj) : bO (w.alloc o) b x := cE h o
theorem bO.there (h : bO w b x) : w.there b 0 4 := fe (o := 0) (n := 4) h aj
theorem dY (w : World) (x : Nte) : bO (w.alloc (.cells (bj x).toArray 107)) w.heap.size x /\ Below w.heap.size w (w.alloc (.cells (bj x).toArray 107)) /\ w.heap.size < (w.alloc (.cells (bj x).toArray 107)).heap.size :=
 ⟨bO.new w x, (Below.refl _ w).alloc aj _, by rw [World.size_alloc]; omega⟩
end
open Go.RowKit Go.ChangeShapes Go.WideShapes Go.ChangeAt Go.Deep
set_option linter.unusedSimpArgs false
theorem vy {H : Type} {enc : TypeId × Value -> H} {W : World} (fuel : Nat) (cs : List Value) (x : DataW H × List MemPlace) (h : DataW.trod enc prog W 0 (fun _ => true) true fuel 35 cs = some x) : ∃ a : Nat, cs = [.int .u64 (a : Int)] /\ a < 18446744073709551616 := by
 obtain ⟨k, e, _, hw⟩ := DataW.trod_int underlying35 h;have hr := bounds_u64 hw;obtain ⟨n, rfl⟩ := Int.eq_ofNat_of_zero_le hr.1;exact ⟨n, e, by omega⟩
theorem xx {H : Type} {enc : TypeId × Value -> H} {W : World} (fuel : Nat) (cs : List Value) (x : DataW H × List MemPlace) (h : DataW.trod enc prog W 0 (fun _ => true) true fuel 5 cs = some x) : ∃ a : UInt8, cs = [.int .u8 (a.toNat : Int)] := by
 obtain ⟨k, e, _, hw⟩ := DataW.trod_int underlying5 h;have hr : 0 <= k /\ k <= 255 := bounds_u8 hw;refine ⟨UInt8.ofNat k.toNat, ?_⟩;rw [e, UInt8.toNat_ofNat']
 congr 2
 omega
theorem sZ {H : Type} {enc : TypeId × Value -> H} {W : World} (fuel : Nat) (cs : List Value) (x : DataW H × List MemPlace) (h : DataW.trod enc prog W 0 (fun _ => true) true fuel 4 cs = some x) : ∃ a : Bool, cs = [.bool a] := by
 obtain ⟨k, e, _⟩ := DataW.trod_bool underlying4 h;exact ⟨k, e⟩
theorem sk {H : Type} {enc : TypeId × Value -> H} {W : World} (fuel : Nat) (cs : List Value) (x : DataW H × List MemPlace) (h : DataW.trod enc prog W 0 (fun _ => true) true fuel 72 cs = some x) : ∃ a : Cl, cs = bQ.cel a /\ True := by
 obtain ⟨c, e⟩ := afM h;exact ⟨c, e, trivial⟩
theorem qM {H : Type} {enc : TypeId × Value -> H} {W : World} {fuel : Nat} {cs : List Value} {x : DataW H × List MemPlace} (h : DataW.trod enc prog W 0 (fun _ => true) true fuel 34 cs = some x) :
  ∃ (A : Option Addr) (n c : Nat) (l : List Cl), cs = [.slice A n c] /\ RdE bQ W W.heap.size A n l /\ n <= c /\ c <= maxLen := by
 obtain ⟨A, n, c, l, e, h1, h2, h3, _⟩ := jY bQ (fun _ => True) (by kernel_rfl) h (fun fuel cs x h => sk fuel cs x h);exact ⟨A, n, c, l, e, h1, h2, h3⟩
theorem s5 {H : Type} {enc : TypeId × Value -> H} {W : World} {fuel : Nat} {cs : List Value} {x : DataW H × List MemPlace} (h : DataW.trod enc prog W 0 (fun _ => true) true fuel 36 cs = some x) :
  ∃ (A : Option Addr) (n c : Nat) (l : List Int), cs = [.slice A n c] /\ RdE dw W W.heap.size A n l /\ n <= c /\ c <= maxLen := by
 obtain ⟨A, n, c, l, e, h1, h2, h3, _⟩ := jY dw (fun a => (Lit.int .i64 a).wf = true) (by kernel_rfl) h (fun fuel cs x h => hJ fuel cs x h);exact ⟨A, n, c, l, e, h1, h2, h3⟩
def ajc (W : World) (A : Option Addr) (n c : Nat) : Prop := ∃ l : List Cl, RdE bQ W W.heap.size A n l /\ n <= c /\ c <= maxLen
def IntsIn (W : World) (A : Option Addr) (n c : Nat) : Prop := ∃ l : List Int, RdE dw W W.heap.size A n l /\ n <= c /\ c <= maxLen
theorem gP {α : Type} (l : List α) (a k : Nat) : l.drop a = (l.drop a).take k ++ l.drop (a + k) := by
 conv => lhs; rw [<- List.take_append_drop k (l.drop a)]
 rw [List.drop_drop]
structure aT where
 Do : Int
 D : Int
 CsA : Option Addr
 Csn : Nat
 Csc : Nat
 N : Nat
 Near : Bool
 Size : Int
 At : Int
 By : UInt8
 PsA : Option Addr
 Psn : Nat
 Psc : Nat
def aT.C (a : aT) : List Value := [.int .i64 a.Do] ++ ([.int .i64 a.D] ++ ([.slice a.CsA a.Csn a.Csc] ++ ([.int .u64 (a.N : Int)] ++ ([.bool a.Near] ++ ([.int .i64 a.Size] ++ ([.int .i64 a.At] ++ ([.int .u8 (a.By.toNat : Int)] ++ ([.slice a.PsA a.Psn a.Psc]))))))))
def aT.V (a : aT) : Value := .agg a.C.toArray
theorem aT.abS (a : aT) : a.C.length = 9 := by simp [aT.C, aG, n7, mP]
theorem aT.aj8 (a : aT) : ∀ v ∈ a.C, v.oneCell' = true := by
 intro v hv;simp only [aT.C, List.mem_append, List.mem_singleton] at hv;rcases hv with rfl | rfl | rfl | rfl | rfl | rfl | rfl | rfl | rfl
 ·rfl
 ·rfl
 ·rfl
 ·rfl
 ·rfl
 ·rfl
 ·rfl
 ·rfl
 ·rfl
def aT.zero : aT := ⟨0, 0, none, 0, 0, 0, false, 0, 0, 0, none, 0, 0⟩
def sc : Elt aT where
 s := 23
 t := 38
 n := 9
 by_ := 104
 cel := aT.C
 d := aT.zero
 z := aT.zero.V
 pos := by omega
 small := by omega
 len := aT.abS
 one := aT.aj8
 und := underlying23
 info := by kernel_rfl
 zc := by show (Value.cells (.agg _)).size = 9; simp [Value.cells, aT.abS]
def aT.In (W : World) (a : aT) : Prop := (-9223372036854775808 <= a.Do /\ a.Do <= 9223372036854775807) /\ (-9223372036854775808 <= a.D /\ a.D <= 9223372036854775807) /\ (ajc W a.CsA a.Csn a.Csc) /\ (a.N < 18446744073709551616) /\ (-9223372036854775808 <= a.Size /\ a.Size <= 9223372036854775807) /\ (-9223372036854775808 <= a.At /\ a.At <= 9223372036854775807) /\ (IntsIn W a.PsA a.Psn a.Psc)
section
variable {H : Type} {enc : TypeId × Value -> H} {W : World} {base : Nat} {v : Value} {d : DataW H} {p : List MemPlace}
theorem aT.age (fuel : Nat) (cs : List Value) (x : DataW H × List MemPlace) (h : DataW.trod enc prog W 0 (fun _ => true) true fuel 38 cs = some x) : ∃ a : aT, cs = a.C /\ a.In W := by
 obtain ⟨xs, m, _, _, hlen, hxl, hf⟩ := DataW.trod_struct underlying38 h;have h0 : DataW.trod enc prog W 0 (fun _ => true) true m 3 ((cs.drop 0).take (prog.cellsOf 3)) = xs[0]? := hf 0 _ rfl;have h1 : DataW.trod enc prog W 0 (fun _ => true) true m 3 ((cs.drop 1).take (prog.cellsOf 3)) = xs[1]? := hf 1 _ rfl;have h2 : DataW.trod enc prog W 0 (fun _ => true) true m 34 ((cs.drop 2).take (prog.cellsOf 34)) = xs[2]? := hf 2 _ rfl;have h3 : DataW.trod enc prog W 0 (fun _ => true) true m 35 ((cs.drop 3).take (prog.cellsOf 35)) = xs[3]? := hf 3 _ rfl;have h4 : DataW.trod enc prog W 0 (fun _ => true) true m 4 ((cs.drop 4).take (prog.cellsOf 4)) = xs[4]? := hf 4 _ rfl;have h5 : DataW.trod enc prog W 0 (fun _ => true) true m 3 ((cs.drop 5).take (prog.cellsOf 3)) = xs[5]? := hf 5 _ rfl;have h6 : DataW.trod enc prog W 0 (fun _ => true) true m 3 ((cs.drop 6).take (prog.cellsOf 3)) = xs[6]? := hf 6 _ rfl;have h7 : DataW.trod enc prog W 0 (fun _ => true) true m 5 ((cs.drop 7).take (prog.cellsOf 5)) = xs[7]? := hf 7 _ rfl;have h8 : DataW.trod enc prog W 0 (fun _ => true) true m 36 ((cs.drop 8).take (prog.cellsOf 36)) = xs[8]? := hf 8 _ rfl;have hxl2 : xs.length = 9 := hxl;have hln : cs.length = 9 := hlen.trans (by kernel_rfl);rw [show prog.cellsOf 3 = 1 from by kernel_rfl, List.getElem?_eq_getElem (by omega)] at h0;rw [show prog.cellsOf 3 = 1 from by kernel_rfl, List.getElem?_eq_getElem (by omega)] at h1;rw [show prog.cellsOf 34 = 1 from by kernel_rfl, List.getElem?_eq_getElem (by omega)] at h2;rw [show prog.cellsOf 35 = 1 from by kernel_rfl, List.getElem?_eq_getElem (by omega)] at h3;rw [show prog.cellsOf 4 = 1 from by kernel_rfl, List.getElem?_eq_getElem (by omega)] at h4;rw [show prog.cellsOf 3 = 1 from by kernel_rfl, List.getElem?_eq_getElem (by omega)] at h5;rw [show prog.cellsOf 3 = 1 from by kernel_rfl, List.getElem?_eq_getElem (by omega)] at h6;rw [show prog.cellsOf 5 = 1 from by kernel_rfl, List.getElem?_eq_getElem (by omega)] at h7;rw [show prog.cellsOf 36 = 1 from by kernel_rfl, List.getElem?_eq_getElem (by omega)] at h8;obtain ⟨a0, e0, w0⟩ := hJ _ _ _ h0;have b0 := bounds_i64 w0;obtain ⟨a1, e1, w1⟩ := hJ _ _ _ h1;have b1 := bounds_i64 w1;obtain ⟨A2, n2, c2, l2, e2, r2, s2, t2⟩ := qM h2;obtain ⟨a3, e3, b3⟩ := vy _ _ _ h3;obtain ⟨a4, e4⟩ := sZ _ _ _ h4;obtain ⟨a5, e5, w5⟩ := hJ _ _ _ h5;have b5 := bounds_i64 w5;obtain ⟨a6, e6, w6⟩ := hJ _ _ _ h6;have b6 := bounds_i64 w6;obtain ⟨a7, e7⟩ := xx _ _ _ h7;obtain ⟨A8, n8, c8, l8, e8, r8, s8, t8⟩ := s5 h8;refine ⟨⟨a0, a1, A2, n2, c2, a3, a4, a5, a6, a7, A8, n8, c8⟩, ?_, ⟨b0, b1, ⟨l2, r2, s2, t2⟩, b3, b5, b6, ⟨l8, r8, s8, t8⟩⟩⟩;have q8 : cs.drop 8 = [.slice A8 n8 c8] := by rw [<- List.take_of_length_le (l := cs.drop 8) (i := 1) (by rw [List.length_drop]; omega)]; exact e8
 have q7 : cs.drop 7 = [.int .u8 (a7.toNat : Int)] ++ ([.slice A8 n8 c8]) := by rw [gP cs 7 1, e7, show 7 + 1 = 8 from rfl, q8]
 have q6 : cs.drop 6 = [.int .i64 a6] ++ ([.int .u8 (a7.toNat : Int)] ++ ([.slice A8 n8 c8])) := by rw [gP cs 6 1, e6, show 6 + 1 = 7 from rfl, q7]
 have q5 : cs.drop 5 = [.int .i64 a5] ++ ([.int .i64 a6] ++ ([.int .u8 (a7.toNat : Int)] ++ ([.slice A8 n8 c8]))) := by rw [gP cs 5 1, e5, show 5 + 1 = 6 from rfl, q6]
 have q4 : cs.drop 4 = [.bool a4] ++ ([.int .i64 a5] ++ ([.int .i64 a6] ++ ([.int .u8 (a7.toNat : Int)] ++ ([.slice A8 n8 c8])))) := by rw [gP cs 4 1, e4, show 4 + 1 = 5 from rfl, q5]
 have q3 : cs.drop 3 = [.int .u64 (a3 : Int)] ++ ([.bool a4] ++ ([.int .i64 a5] ++ ([.int .i64 a6] ++ ([.int .u8 (a7.toNat : Int)] ++ ([.slice A8 n8 c8]))))) := by rw [gP cs 3 1, e3, show 3 + 1 = 4 from rfl, q4]
 have q2 : cs.drop 2 = [.slice A2 n2 c2] ++ ([.int .u64 (a3 : Int)] ++ ([.bool a4] ++ ([.int .i64 a5] ++ ([.int .i64 a6] ++ ([.int .u8 (a7.toNat : Int)] ++ ([.slice A8 n8 c8])))))) := by rw [gP cs 2 1, e2, show 2 + 1 = 3 from rfl, q3]
 have q1 : cs.drop 1 = [.int .i64 a1] ++ ([.slice A2 n2 c2] ++ ([.int .u64 (a3 : Int)] ++ ([.bool a4] ++ ([.int .i64 a5] ++ ([.int .i64 a6] ++ ([.int .u8 (a7.toNat : Int)] ++ ([.slice A8 n8 c8]))))))) := by rw [gP cs 1 1, e1, show 1 + 1 = 2 from rfl, q2]
 have q0 : cs.drop 0 = [.int .i64 a0] ++ ([.int .i64 a1] ++ ([.slice A2 n2 c2] ++ ([.int .u64 (a3 : Int)] ++ ([.bool a4] ++ ([.int .i64 a5] ++ ([.int .i64 a6] ++ ([.int .u8 (a7.toNat : Int)] ++ ([.slice A8 n8 c8])))))))) := by rw [gP cs 0 1, e0, show 0 + 1 = 1 from rfl, q1]
 exact q0
theorem agN (hv : Value.okWide prog W .any base 23 v) (h : DataW.Trod enc prog W 0 (fun _ => true) true 23 v d p) :
  ∃ (A : Option Addr) (n c : Nat) (l : List aT), v = .slice A n c /\ RdE sc W W.heap.size A n l /\ n <= c /\ c <= maxLen /\ ∀ k, k < n -> (l.getD k aT.zero).In W :=
 aac sc (aT.In W) (by kernel_rfl) hv h (fun fuel cs x h => aT.age fuel cs x h)
end
theorem aT.size : (prog.info? 38).map (·.size) = some 9 := by kernel_rfl
section
variable {ρ : Operand -> Value} {o : Oper} {x y : Operand} {w : World} {b off : Nat} {a c : aT}
theorem d7 (ho : o.op = .load 38 x) (hx : ρ x = .pointer (some ⟨b, off, none⟩)) (hc : w.rangeAt b off a.C) : (execOp ρ o).run prog w = .ok (.value a.V) w := eI underlying38 rfl (by rw [aT.abS]; exact aT.size) ho hx hc
theorem cy (ho : o.op = .box 38 x) (hx : ρ x = a.V) : (execOp ρ o).run prog w = .ok (.value (.pointer (some ⟨w.heap.size, 0, none⟩))) (w.alloc (.cells a.C.toArray 38)) := fN ho hx
end
section
variable {w w' : World} {b : Nat} {a : aT}
theorem eu : (Instr.fieldAt 38 (.pointer (some ⟨b, 0, none⟩)) 0).run prog w = .ok (.pointer (some ⟨b, 0, none⟩)) w := by kernel_rfl
theorem my : (Instr.fieldAt 38 (.pointer (some ⟨b, 0, none⟩)) 1).run prog w = .ok (.pointer (some ⟨b, 1, none⟩)) w := by kernel_rfl
theorem mm : (Instr.fieldAt 38 (.pointer (some ⟨b, 0, none⟩)) 2).run prog w = .ok (.pointer (some ⟨b, 2, none⟩)) w := by kernel_rfl
theorem mV : (Instr.fieldAt 38 (.pointer (some ⟨b, 0, none⟩)) 3).run prog w = .ok (.pointer (some ⟨b, 3, none⟩)) w := by kernel_rfl
theorem uq : (Instr.fieldAt 38 (.pointer (some ⟨b, 0, none⟩)) 4).run prog w = .ok (.pointer (some ⟨b, 4, none⟩)) w := by kernel_rfl
theorem mZ : (Instr.fieldAt 38 (.pointer (some ⟨b, 0, none⟩)) 5).run prog w = .ok (.pointer (some ⟨b, 5, none⟩)) w := by kernel_rfl
theorem m5 : (Instr.fieldAt 38 (.pointer (some ⟨b, 0, none⟩)) 6).run prog w = .ok (.pointer (some ⟨b, 6, none⟩)) w := by kernel_rfl
theorem vu : (Instr.fieldAt 38 (.pointer (some ⟨b, 0, none⟩)) 7).run prog w = .ok (.pointer (some ⟨b, 7, none⟩)) w := by kernel_rfl
theorem vq : (Instr.fieldAt 38 (.pointer (some ⟨b, 0, none⟩)) 8).run prog w = .ok (.pointer (some ⟨b, 8, none⟩)) w := by kernel_rfl
def aT.At_ (w : World) (b : Nat) (a : aT) : Prop := w.heap[b]? = some (.cells a.C.toArray 38 (0, 0))
theorem aT.At_.range (h : aT.At_ w b a) : w.rangeAt b 0 a.C := dW h
theorem aT.At_.below {B : Nat} (h : aT.At_ w b a) (hB : b < B) (hb : Below B w w') : aT.At_ w' b a := gv h hB hb
theorem aT.At_.new (w : World) (a : aT) : aT.At_ (w.alloc (.cells a.C.toArray 38)) w.heap.size a := heap_alloc_new w _
theorem aT.At_.f0 (h : aT.At_ w b a) : w.cell? ⟨b, 0, none⟩ = some (.int .i64 a.Do) := by
 have := h.range 0 (.int .i64 a.Do) (by
  show a.C[0]? = _
  rw [show 0 = 0 + 0 from rfl, <- List.getElem?_drop];rw [show a.C.drop 0 = [.int .i64 a.Do] ++ ([.int .i64 a.D] ++ ([.slice a.CsA a.Csn a.Csc] ++ ([.int .u64 (a.N : Int)] ++ ([.bool a.Near] ++ ([.int .i64 a.Size] ++ ([.int .i64 a.At] ++ ([.int .u8 (a.By.toNat : Int)] ++ ([.slice a.PsA a.Psn a.Psc])))))))) from ?_]
  ·rfl
  ·rfl)
 rwa [Nat.zero_add] at this
theorem aT.At_.f1 (h : aT.At_ w b a) : w.cell? ⟨b, 1, none⟩ = some (.int .i64 a.D) := by
 have := h.range 1 (.int .i64 a.D) (by
  show a.C[1]? = _
  rw [show 1 = 1 + 0 from rfl, <- List.getElem?_drop];rw [show a.C.drop 1 = [.int .i64 a.D] ++ ([.slice a.CsA a.Csn a.Csc] ++ ([.int .u64 (a.N : Int)] ++ ([.bool a.Near] ++ ([.int .i64 a.Size] ++ ([.int .i64 a.At] ++ ([.int .u8 (a.By.toNat : Int)] ++ ([.slice a.PsA a.Psn a.Psc]))))))) from ?_]
  ·rfl
  ·rfl)
 rwa [Nat.zero_add] at this
theorem aT.At_.f2 (h : aT.At_ w b a) : w.cell? ⟨b, 2, none⟩ = some (.slice a.CsA a.Csn a.Csc) := by
 have := h.range 2 (.slice a.CsA a.Csn a.Csc) (by
  show a.C[2]? = _
  rw [show 2 = 2 + 0 from rfl, <- List.getElem?_drop];rw [show a.C.drop 2 = [.slice a.CsA a.Csn a.Csc] ++ ([.int .u64 (a.N : Int)] ++ ([.bool a.Near] ++ ([.int .i64 a.Size] ++ ([.int .i64 a.At] ++ ([.int .u8 (a.By.toNat : Int)] ++ ([.slice a.PsA a.Psn a.Psc])))))) from ?_]
  ·rfl
  ·rfl)
 rwa [Nat.zero_add] at this
theorem aT.At_.f3 (h : aT.At_ w b a) : w.cell? ⟨b, 3, none⟩ = some (.int .u64 (a.N : Int)) := by
 have := h.range 3 (.int .u64 (a.N : Int)) (by
  show a.C[3]? = _
  rw [show 3 = 3 + 0 from rfl, <- List.getElem?_drop];rw [show a.C.drop 3 = [.int .u64 (a.N : Int)] ++ ([.bool a.Near] ++ ([.int .i64 a.Size] ++ ([.int .i64 a.At] ++ ([.int .u8 (a.By.toNat : Int)] ++ ([.slice a.PsA a.Psn a.Psc]))))) from ?_]
  ·rfl
  ·rfl)
 rwa [Nat.zero_add] at this
theorem aT.At_.f4 (h : aT.At_ w b a) : w.cell? ⟨b, 4, none⟩ = some (.bool a.Near) := by
 have := h.range 4 (.bool a.Near) (by
  show a.C[4]? = _
  rw [show 4 = 4 + 0 from rfl, <- List.getElem?_drop];rw [show a.C.drop 4 = [.bool a.Near] ++ ([.int .i64 a.Size] ++ ([.int .i64 a.At] ++ ([.int .u8 (a.By.toNat : Int)] ++ ([.slice a.PsA a.Psn a.Psc])))) from ?_]
  ·rfl
  ·rfl)
 rwa [Nat.zero_add] at this
theorem aT.At_.f5 (h : aT.At_ w b a) : w.cell? ⟨b, 5, none⟩ = some (.int .i64 a.Size) := by
 have := h.range 5 (.int .i64 a.Size) (by
  show a.C[5]? = _
  rw [show 5 = 5 + 0 from rfl, <- List.getElem?_drop];rw [show a.C.drop 5 = [.int .i64 a.Size] ++ ([.int .i64 a.At] ++ ([.int .u8 (a.By.toNat : Int)] ++ ([.slice a.PsA a.Psn a.Psc]))) from ?_]
  ·rfl
  ·rfl)
 rwa [Nat.zero_add] at this
theorem aT.At_.f6 (h : aT.At_ w b a) : w.cell? ⟨b, 6, none⟩ = some (.int .i64 a.At) := by
 have := h.range 6 (.int .i64 a.At) (by
  show a.C[6]? = _
  rw [show 6 = 6 + 0 from rfl, <- List.getElem?_drop];rw [show a.C.drop 6 = [.int .i64 a.At] ++ ([.int .u8 (a.By.toNat : Int)] ++ ([.slice a.PsA a.Psn a.Psc])) from ?_]
  ·rfl
  ·rfl)
 rwa [Nat.zero_add] at this
theorem aT.At_.f7 (h : aT.At_ w b a) : w.cell? ⟨b, 7, none⟩ = some (.int .u8 (a.By.toNat : Int)) := by
 have := h.range 7 (.int .u8 (a.By.toNat : Int)) (by
  show a.C[7]? = _
  rw [show 7 = 7 + 0 from rfl, <- List.getElem?_drop];rw [show a.C.drop 7 = [.int .u8 (a.By.toNat : Int)] ++ ([.slice a.PsA a.Psn a.Psc]) from ?_]
  ·rfl
  ·rfl)
 rwa [Nat.zero_add] at this
theorem aT.At_.f8 (h : aT.At_ w b a) : w.cell? ⟨b, 8, none⟩ = some (.slice a.PsA a.Psn a.Psc) := by
 have := h.range 8 (.slice a.PsA a.Psn a.Psc) (by
  show a.C[8]? = _
  rw [show 8 = 8 + 0 from rfl, <- List.getElem?_drop];rw [show a.C.drop 8 = [.slice a.PsA a.Psn a.Psc] from ?_]
  ·rfl
  ·rfl)
 rwa [Nat.zero_add] at this
end
structure akG where
 Clear : Bool
 N : UInt8
 CsA : Option Addr
 Csn : Nat
 Csc : Nat
structure akt where
 Kind : Int
 N : Int
 B : Blk
 Count : Nat
 Mark : Mrk
 Note : Nte
def unw (ops : Array Oper) : List Oper -> Act -> Bool
 |[], _ => true
 |r :: rs, a => !(Region.wanted r (yielded ops a.tmps)) && unw ops rs (a.put r.dst undef)
def aP : List Oper -> Act -> Act
 |[], a => a
 |r :: rs, a => aP rs (a.put r.dst undef)
section
variable {P : Program} {ops : Array Oper} {rest l : List Oper} {o : Oper} {a : Act} {w w' : World} {Q : Exit -> Act -> World -> Prop} {v : Value}
theorem qx : ∀ (rs : List Oper) (a : Act), unw ops rs a = true -> wpList P ops Q rest (aP rs a) w -> wpList P ops Q (rs ++ rest) a w
 |[], _, _, h => h
 |r :: rs, a, hu, h => by
  simp only [unw, Bool.and_eq_true, Bool.not_eq_true'] at hu;refine wpList_step fun K hK => ?_
  rw [if_neg (by rw [hu.1]; exact Bool.false_ne_true)];exact hK _ _ (qx rs _ hu.2 h)
theorem aI (n : Nat) (hw : Region.wanted o (yielded ops a.tmps) = true) (h : (execOp a.eval o).run P w = .ok (.value v) w') (hu : unw ops (l.take n) (a.put o.dst v) = true) (hr : wpList P ops Q (l.drop n) (aP (l.take n) (a.put o.dst v)) w') : wpList P ops Q (o :: l) a w :=
 ax hw h (by have := qx (P := P) (Q := Q) (l.take n) _ hu hr; rwa [List.take_append_drop] at this)
end
section
variable {w : World} {b : Nat}
theorem aga : (Instr.fieldAt 95 (.pointer (some ⟨b, 0, none⟩)) 0).run prog w = .ok (.pointer (some ⟨b, 0, none⟩)) w := by kernel_rfl
theorem tD : (Instr.fieldAt 95 (.pointer (some ⟨b, 0, none⟩)) 1).run prog w = .ok (.pointer (some ⟨b, 1, none⟩)) w := by kernel_rfl
theorem ae6 : (Instr.fieldAt 95 (.pointer (some ⟨b, 0, none⟩)) 2).run prog w = .ok (.pointer (some ⟨b, 2, none⟩)) w := by kernel_rfl
theorem ag4 : (Instr.fieldAt 95 (.pointer (some ⟨b, 0, none⟩)) 3).run prog w = .ok (.pointer (some ⟨b, 3, none⟩)) w := by kernel_rfl
end
def rb (r : Int) : Bool := decide (40 <= r /\ r <= 256)
theorem abB (n : Nat) (w : World) : Calls prog 166 #[.int .u64 n] w fun e w' => e = .returned (.bool (evB n)) /\ w = w' := by
 by_cases h : 1 <= n
 ·go_enter func166, ntmps166;go_wp2;go_ret;refine ⟨bL ?_, rfl⟩;unfold evB;rw [decide_eq_decide];omega
 ·have h0 : n = 0 := by omega
  subst h0;go_enter func166, ntmps166;go_wp2;go_ret;exact ⟨rfl, rfl⟩
theorem ac6 (n : Nat) (w : World) {b : Bool} (h : evB n = b) : Calls prog 166 #[.int .u64 n] w fun e w' => e = .returned (.bool b) /\ w = w' := by
 subst h;exact abB n w
theorem mY (n : Nat) (w : World) {b : Bool} (h : evB n = b) : Calls prog 166 #[.int .u64 n] w fun e w' => e = .returned (.bool b) /\ Below w.heap.size w w' :=
 (ac6 n w h).mono fun e w' ⟨he, hw⟩ => ⟨he, hw ▸ ak⟩
theorem aik (n : Nat) (w : World) : Calls prog 116 #[.int .u64 n] w fun e w' => e = .returned (.bool (evB n)) /\ w = w' := by
 by_cases h : 1 <= n
 ·go_enter func116, ntmps116;go_wp2;go_ret;refine ⟨bL ?_, rfl⟩;unfold evB;rw [decide_eq_decide];omega
 ·have h0 : n = 0 := by omega
  subst h0;go_enter func116, ntmps116;go_wp2;go_ret;exact ⟨rfl, rfl⟩
theorem vf (n : Nat) (w : World) {b : Bool} (h : evB n = b) : Calls prog 116 #[.int .u64 n] w fun e w' => e = .returned (.bool b) /\ w = w' := by
 subst h;exact aik n w
theorem ajH (r : Int) (w : World) : Calls prog 115 #[.int .i64 r] w fun e w' => e = .returned (.bool (rb r)) /\ w = w' := by
 by_cases h : 40 <= r
 ·go_enter func115, ntmps115;go_wp2;go_ret;refine ⟨bL ?_, rfl⟩;unfold rb;rw [decide_eq_decide];omega
 ·go_enter func115, ntmps115;go_wp2;go_ret;refine ⟨bL ?_, rfl⟩;unfold rb;exact (am (by omega)).symm
theorem ya (r : Int) (w : World) {b : Bool} (h : rb r = b) : Calls prog 115 #[.int .i64 r] w fun e w' => e = .returned (.bool b) /\ w = w' := by
 subst h;exact ajH r w
theorem ag8 (n : Nat) (w : World) (hn : n < 18446744073709551616) : Calls prog 122 #[.int .u64 n] w fun e w' => e = .returned (.int .i64 ((n % 2 : Nat) : Int)) /\ w = w' := by
 go_enter func122, ntmps122;go_wp2;go_ret;exact ⟨br (by omega), rfl⟩
theorem ad7 (n : Nat) (w : World) (hn : n < 18446744073709551616) : Calls prog 128 #[.int .u64 n] w fun e w' => e = .returned (.int .i64 ((n % 2 : Nat) : Int)) /\ w = w' := by
 go_enter func128, ntmps128;go_wp2;go_ret;exact ⟨br (by omega), rfl⟩
theorem agQ (m : Mrk) (w : World) : Calls prog 63 #[mrk m] w fun e w' => e = .returned (.bool (d9 m)) /\ Below w.heap.size w w' := by
 obtain ⟨h1, h2, _⟩ := gk w m;have HM := af h1;have HB := af h2;clear h1 h2;go_enter func63, ntmps63;go_upto_region 1 with (first | (refine au rfl (gA rfl rfl) ?_) | fail);generalize w.alloc (.cells (bJ m).toArray 95) = w1 at *;refine ag ?_;refine ak1 (av rfl alb aga) ?_;refine ak1 (aA rfl alb (b7 HM.out.cells.1)) ?_;by_cases k0 : m.id = 0
 ·have H0 : Hid (((m.id : Int) != 0) = false) := af (by simp; omega);have HV : Hid (d9 m = false) := af (am (by omega));clear k0;refine ak1 (bG false rfl alb evk H0) ?_;refine aI 3 rfl (aB rfl alb) (by kernel_rfl) ?_;simp only [aP, ae, aa];refine runs 1 ?_;refine aI 3 rfl (aB rfl alb) (by kernel_rfl) ?_;simp only [aP, ae, aa];refine runs 1 ?_;refine aI 3 rfl (aB rfl alb) (by kernel_rfl) ?_;simp only [aP, ae, aa];refine aQ 2 ?_;go_wp2_with fail;go_ret;exact ⟨bL (by rw [HV.out]), HB⟩
 ·have H0 : Hid (((m.id : Int) != 0) = true) := af (by simp; omega);refine ak1 (bG true rfl alb evk H0) ?_;refine runs 1 ?_;refine ak8 (av rfl alb tD) ?_;refine ak8 (aA rfl alb (bm HM.out.cells.2.1)) ?_;refine aD akW (aC call115 rfl (evc alb evn)) ?_;by_cases k1 : 40 <= m.ring /\ m.ring <= 256
  ·have H1 : Hid (rb m.ring = true) := af (ao k1);refine (ya m.ring _ H1).mono ?_;rintro e w' ⟨rfl, rfl⟩;refine bp ?_;refine runs 2 ?_;refine ak8 (av rfl alb ae6) ?_;refine ak8 (aA rfl alb (b7 HM.out.cells.2.2.1)) ?_;refine aD akW (aC call116 rfl (evc alb evn)) ?_;by_cases k2 : 1 <= m.first /\ m.first <= 4611686018427387904
   ·have H2 : Hid (evB m.first = true) := af (ao k2);refine (vf m.first _ H2).mono ?_;rintro e w' ⟨rfl, rfl⟩;refine bp ?_;refine runs 2 ?_;refine ak8 (av rfl alb ag4) ?_;refine ak8 (aA rfl alb (b7 HM.out.cells.2.2.2)) ?_;by_cases k3 : m.pos <= 4611686018427387904
    ·have H3 : Hid (decide ((m.pos : Int) <= 4611686018427387904) = true) := af (ao (by omega));have HV : Hid (d9 m = true) := af (ao (by omega));clear k0 k1 k2 k3;refine ak8 (dR true rfl alb evk H3) ?_;refine aQ 2 ?_;go_wp2_with fail;go_ret;exact ⟨bL (by rw [HV.out]), HB⟩
    ·have H3 : Hid (decide ((m.pos : Int) <= 4611686018427387904) = false) := af (am (by omega));have HV : Hid (d9 m = false) := af (am (by omega));clear k0 k1 k2 k3;refine ak8 (dR false rfl alb evk H3) ?_;refine aQ 2 ?_;go_wp2_with fail;go_ret;exact ⟨bL (by rw [HV.out]), HB⟩
   ·have H2 : Hid (evB m.first = false) := af (am k2);have HV : Hid (d9 m = false) := af (am (by omega));clear k0 k1 k2;refine (vf m.first _ H2).mono ?_;rintro e w' ⟨rfl, rfl⟩;refine bp ?_;refine runs 1 ?_;refine aI 3 rfl (aB rfl alb) (by kernel_rfl) ?_;simp only [aP, ae, aa];refine aQ 2 ?_;go_wp2_with fail;go_ret;exact ⟨bL (by rw [HV.out]), HB⟩
  ·have H1 : Hid (rb m.ring = false) := af (am k1);have HV : Hid (d9 m = false) := af (am (by omega));clear k0 k1;refine (ya m.ring _ H1).mono ?_;rintro e w' ⟨rfl, rfl⟩;refine bp ?_;refine runs 1 ?_;refine aI 3 rfl (aB rfl alb) (by kernel_rfl) ?_;simp only [aP, ae, aa];refine runs 1 ?_;refine aI 3 rfl (aB rfl alb) (by kernel_rfl) ?_;simp only [aP, ae, aa];refine aQ 2 ?_;go_wp2_with fail;go_ret;exact ⟨bL (by rw [HV.out]), HB⟩
theorem aj2 (m : Mrk) (w : World) : Calls prog 161 #[mrk m] w fun e w' => e = .returned (.bool (d9 m)) /\ Below w.heap.size w w' := by
 obtain ⟨h1, h2, _⟩ := gk w m;have HM := af h1;have HB := af h2;clear h1 h2;go_enter func161, ntmps161;go_upto_region 1 with (first | (refine au rfl (gA rfl rfl) ?_) | fail);generalize w.alloc (.cells (bJ m).toArray 95) = w1 at *;refine ag ?_;refine ak1 (av rfl alb aga) ?_;refine ak1 (aA rfl alb (b7 HM.out.cells.1)) ?_;by_cases k0 : ¬ m.id = 0
 ·have H0 : Hid (((m.id : Int) != 0) = true) := af (by simp; omega);refine ak1 (bG true rfl alb evk H0) ?_;refine runs 1 ?_;refine ak8 (av rfl alb tD) ?_;refine ak8 (aA rfl alb (bm HM.out.cells.2.1)) ?_;by_cases k1 : 40 <= m.ring
  ·have H1 : Hid (decide ((40 : Int) <= m.ring) = true) := af (ao (by omega));refine ak8 (cz true rfl alb evk H1) ?_;refine runs 2 ?_;refine ak8 (av rfl alb tD) ?_;refine ak8 (aA rfl alb (bm HM.out.cells.2.1)) ?_;by_cases k2 : m.ring <= 256
   ·have H2 : Hid (decide (m.ring <= (256 : Int)) = true) := af (ao (by omega));refine ak8 (dR true rfl alb evk H2) ?_;refine runs 2 ?_;refine ak8 (av rfl alb ae6) ?_;refine ak8 (aA rfl alb (b7 HM.out.cells.2.2.1)) ?_;by_cases k3 : 1 <= m.first
    ·have H3 : Hid (decide ((1 : Int) <= (m.first : Int)) = true) := af (ao (by omega));refine ak8 (cz true rfl alb evk H3) ?_;refine runs 2 ?_;refine ak8 (av rfl alb ae6) ?_;refine ak8 (aA rfl alb (b7 HM.out.cells.2.2.1)) ?_;by_cases k4 : m.first <= 4611686018427387904
     ·have H4 : Hid (decide ((m.first : Int) <= 4611686018427387904) = true) := af (ao (by omega));refine ak8 (dR true rfl alb evk H4) ?_;refine runs 2 ?_;refine ak8 (av rfl alb ag4) ?_;refine ak8 (aA rfl alb (b7 HM.out.cells.2.2.2)) ?_;by_cases k5 : m.pos <= 4611686018427387904
      ·have H5 : Hid (decide ((m.pos : Int) <= 4611686018427387904) = true) := af (ao (by omega));have HV : Hid (d9 m = true) := af (ao (by omega));clear k0 k1 k2 k3 k4 k5;refine ak8 (dR true rfl alb evk H5) ?_;refine aQ 2 ?_;go_wp2_with fail;go_ret;exact ⟨bL (by rw [HV.out]), HB⟩
      ·have H5 : Hid (decide ((m.pos : Int) <= 4611686018427387904) = false) := af (am (by omega));have HV : Hid (d9 m = false) := af (am (by omega));clear k0 k1 k2 k3 k4 k5;refine ak8 (dR false rfl alb evk H5) ?_;refine aQ 2 ?_;go_wp2_with fail;go_ret;exact ⟨bL (by rw [HV.out]), HB⟩
     ·have H4 : Hid (decide ((m.first : Int) <= 4611686018427387904) = false) := af (am (by omega));have HV : Hid (d9 m = false) := af (am (by omega));clear k0 k1 k2 k3 k4;refine ak8 (dR false rfl alb evk H4) ?_;refine runs 1 ?_;refine aI 3 rfl (aB rfl alb) (by kernel_rfl) ?_;simp only [aP, ae, aa];refine aQ 2 ?_;go_wp2_with fail;go_ret;exact ⟨bL (by rw [HV.out]), HB⟩
    ·have H3 : Hid (decide ((1 : Int) <= (m.first : Int)) = false) := af (am (by omega));have HV : Hid (d9 m = false) := af (am (by omega));clear k0 k1 k2 k3;refine ak8 (cz false rfl alb evk H3) ?_;refine runs 1 ?_;refine aI 3 rfl (aB rfl alb) (by kernel_rfl) ?_;simp only [aP, ae, aa];refine runs 1 ?_;refine aI 3 rfl (aB rfl alb) (by kernel_rfl) ?_;simp only [aP, ae, aa];refine aQ 2 ?_;go_wp2_with fail;go_ret;exact ⟨bL (by rw [HV.out]), HB⟩
   ·have H2 : Hid (decide (m.ring <= (256 : Int)) = false) := af (am (by omega));have HV : Hid (d9 m = false) := af (am (by omega));clear k0 k1 k2;refine ak8 (dR false rfl alb evk H2) ?_;refine runs 1 ?_;refine aI 3 rfl (aB rfl alb) (by kernel_rfl) ?_;simp only [aP, ae, aa];refine runs 1 ?_;refine aI 3 rfl (aB rfl alb) (by kernel_rfl) ?_;simp only [aP, ae, aa];refine runs 1 ?_;refine aI 3 rfl (aB rfl alb) (by kernel_rfl) ?_;simp only [aP, ae, aa];refine aQ 2 ?_;go_wp2_with fail;go_ret;exact ⟨bL (by rw [HV.out]), HB⟩
  ·have H1 : Hid (decide ((40 : Int) <= m.ring) = false) := af (am (by omega));have HV : Hid (d9 m = false) := af (am (by omega));clear k0 k1;refine ak8 (cz false rfl alb evk H1) ?_;refine runs 1 ?_;refine aI 3 rfl (aB rfl alb) (by kernel_rfl) ?_;simp only [aP, ae, aa];refine runs 1 ?_;refine aI 3 rfl (aB rfl alb) (by kernel_rfl) ?_;simp only [aP, ae, aa];refine runs 1 ?_;refine aI 3 rfl (aB rfl alb) (by kernel_rfl) ?_;simp only [aP, ae, aa];refine runs 1 ?_;refine aI 3 rfl (aB rfl alb) (by kernel_rfl) ?_;simp only [aP, ae, aa];refine aQ 2 ?_;go_wp2_with fail;go_ret;exact ⟨bL (by rw [HV.out]), HB⟩
 ·have H0 : Hid (((m.id : Int) != 0) = false) := af (by simp; omega);have HV : Hid (d9 m = false) := af (am (by omega));clear k0;refine ak1 (bG false rfl alb evk H0) ?_;refine aI 3 rfl (aB rfl alb) (by kernel_rfl) ?_;simp only [aP, ae, aa];refine runs 1 ?_;refine aI 3 rfl (aB rfl alb) (by kernel_rfl) ?_;simp only [aP, ae, aa];refine runs 1 ?_;refine aI 3 rfl (aB rfl alb) (by kernel_rfl) ?_;simp only [aP, ae, aa];refine runs 1 ?_;refine aI 3 rfl (aB rfl alb) (by kernel_rfl) ?_;simp only [aP, ae, aa];refine runs 1 ?_;refine aI 3 rfl (aB rfl alb) (by kernel_rfl) ?_;simp only [aP, ae, aa];refine aQ 2 ?_;go_wp2_with fail;go_ret;exact ⟨bL (by rw [HV.out]), HB⟩
theorem ly (m : Mrk) (w : World) {b : Bool} (h : d9 m = b) : Calls prog 63 #[mrk m] w fun e w' => e = .returned (.bool b) /\ Below w.heap.size w w' := by
 subst h;exact agQ m w
theorem o5 (m : Mrk) (w : World) {b : Bool} (h : d9 m = b) : Calls prog 161 #[mrk m] w fun e w' => e = .returned (.bool b) /\ Below w.heap.size w w' := by
 subst h;exact aj2 m w
section
variable {ρ : Operand -> Value} {o : Oper} {x y z : Operand} {w : World} {b off n c t u : Nat}
theorem ajh : prog.underlying 143 = some (.slice 5) := underlying143
theorem rJ (h : t <= c) : (Instr.sliceAt 143 (.slice (some ⟨b, off, none⟩) n c) none (some (.int .i64 (t : Int))) none).run prog w = .ok (.slice (some ⟨b, off, none⟩) t c) w := by
 simp [Instr.sliceAt, Instr.slice, Instr.sliceBounds, Instr.sliceBound, asIntOf, run_underlying ajh, Tryz.sizeOf5, Addr.add_mid];intro hh; omega
theorem vl (h1 : u <= t) (h : t <= c) (h2 : u < c) : (Instr.sliceAt 143 (.slice (some ⟨b, off, none⟩) n c) (some (.int .i64 (u : Int))) (some (.int .i64 (t : Int))) none).run prog w = .ok (.slice (some ⟨b, off + u, none⟩) (t - u) (c - u)) w := by
 have e1 : (0 <= (t : Int) /\ (t : Int) <= (c : Int)) := by omega
 have e2 : (0 <= (u : Int) /\ (u : Int) <= (t : Int)) := by omega
 have e3 : c ≠ u := by omega
 simp [Instr.sliceAt, Instr.slice, Instr.sliceBounds, Instr.sliceBound, asIntOf, run_underlying ajh, Tryz.sizeOf5, Addr.add_mid, e1, e2, e3, h, h1]
theorem rk (t : Nat) (ho : o.op = .slice 143 x none (some y) none) (hx : ρ x = .slice (some ⟨b, off, none⟩) n c) (hy : ρ y = .int .i64 (t : Int)) (h : t <= c) : (execOp ρ o).run prog w = .ok (.value (.slice (some ⟨b, off, none⟩) t c)) w := by
 unfold execOp;simp only [ho, hx, hy, Option.map_some, Option.map_none, Sem.run_bind, rJ h, Result.andThen_ok, Sem.run_pure]
theorem nG (u t : Nat) (ho : o.op = .slice 143 x (some z) (some y) none) (hx : ρ x = .slice (some ⟨b, off, none⟩) n c) (hz : ρ z = .int .i64 (u : Int)) (hy : ρ y = .int .i64 (t : Int)) (h1 : u <= t) (h : t <= c) (h2 : u < c) : (execOp ρ o).run prog w = .ok (.value (.slice (some ⟨b, off + u, none⟩) (t - u) (c - u))) w := by
 unfold execOp;simp only [ho, hx, hy, hz, Option.map_some, Option.map_none, Sem.run_bind, vl h1 h h2, Result.andThen_ok, Sem.run_pure]
theorem abt : (Instr.sliceAt 64 (.pointer (some ⟨b, off, none⟩)) none none none).run prog w = .ok (.slice (some ⟨b, off, none⟩) 64 64) w := by
 simp [Instr.sliceAt, Instr.sliceBounds, Instr.sureAddr, run_underlying nD, Tryz.sizeOf5, Addr.add_mid]
theorem k8 (ho : o.op = .slice 64 x none none none) (hx : ρ x = .pointer (some ⟨b, off, none⟩)) : (execOp ρ o).run prog w = .ok (.value (.slice (some ⟨b, off, none⟩) 64 64)) w := by
 unfold execOp;simp only [ho, hx, Option.map_none, Sem.run_bind, abt, Result.andThen_ok, Sem.run_pure]
end
section
variable {w : World} {b off n c j : Nat} {k : Int}
theorem ixU (hj : j < n) : (Instr.indexAt 143 (.slice (some ⟨b, off, none⟩) n c) (.int .i64 (j : Int))).run prog w = .ok (.pointer (some ⟨b, off + j, none⟩)) w := by
 simp [Instr.indexAt, asIntOf, run_underlying underlying143, Tryz.sizeOf5, Addr.add_mid, hj]
theorem akT (hj : j < 64) : (Instr.indexAt 64 (.pointer (some ⟨b, 0, none⟩)) (.int .i64 (j : Int))).run prog w = .ok (.pointer (some ⟨b, j, none⟩)) w := by
 have e : (0 <= (j : Int) /\ (j : Int) < 64) := by omega
 simp [Instr.indexAt, Instr.sureAddr, asIntOf, run_underlying nD, Tryz.sizeOf5, Addr.add_mid, e, hj]
theorem akR {a : Addr} {v : Value} (h : w.cell? a = some v) (hf : w.frozen? a = false) : (Instr.storeAt 5 (.pointer (some a)) (.int .u8 k)).run prog w = .ok () (w.setCell a (.int .u8 k)) := by simp [go_sem, h, hf]
end
theorem Rd.sub {w : World} {N g q n p k : Nat} {l : List UInt8} (h : Rd w N (some ⟨g, q, none⟩) n l) (hk : p + k <= n) : Rd w N (some ⟨g, q + p, none⟩) k (piece l p k) :=
 ⟨bU (by have := h.1; omega), fun j hj => by
  obtain ⟨b, off, e, hb, hc⟩ := h.2 (p + j) (by omega);injection e with e;injection e with e1 e2;subst e1 e2;refine ⟨g, q + p, rfl, hb, ?_⟩;rw [gi hj, <- hc, Nat.add_assoc]⟩
theorem jn {w : World} {N n : Nat} {ad : Addr} {l : List UInt8} (h : Rd w N (some ad) n l) : ∀ (j : Nat) (u : Value), (l.map fun u => Value.int .u8 (u.toNat : Int))[j]? = some u -> w.cell? (ad.add j) = some u := by
 intro j u hu;have hj : j < l.length := by
  rcases Nat.lt_or_ge j l.length with hlt | hge
  ·exact hlt
  ·rw [List.getElem?_eq_none (by simpa using hge)] at hu;cases hu
 obtain ⟨b, off, e, _, hc⟩ := h.2 j (by have := h.1; omega);injection e with e;subst e;have hadd : (⟨b, off, none⟩ : Addr).add j = ⟨b, off + j, none⟩ := by unfold Addr.add; split <;> simp_all
 rw [hadd, hc, fW hj];rw [List.getElem?_map, List.getElem?_eq_getElem hj] at hu
 simpa using hu
theorem yI (w : World) (ty B N m c : Nat) (v : Value) (l l' : List UInt8) (A : Option Addr) (hm : Made w B v l) (hr : Rd w N A m l') (hB : B <= w.heap.size) (hsum : l.length + m <= 140737488355328) :
  ∃ v' w', (Builtin.append_ #[143, 143] ty #[v, .slice A m c]).run prog w = .ok v' w' /\ Made w' B v' (l ++ l') /\ w.grownBy w' v.ownBlock := by
 obtain ⟨i0, hi, hz0, hz1, hz2⟩ := info_parts sy;rcases A with _ | ad
 ·have h0 : m = 0 := by
   rcases Nat.eq_zero_or_pos m with h | h
   ·exact h
   ·obtain ⟨b, off, e, _⟩ := hr.2 0 h;cases e
  subst h0;have hn : l' = [] := List.eq_nil_of_length_eq_zero hr.1;subst hn;refine ⟨v, w, ?_, by rw [List.append_nil]; exact hm, World.grownBy.refl w _⟩;rcases hm.2 with ⟨rfl, _⟩ | ⟨g, cap, cur, rfl, _, _, hnc, _⟩
  ·simp [Builtin.append_, run_underlying underlying143, sizeOf, typeInfo, hi, Builtin.lenOf, Builtin.firstCells]
  ·simp [Builtin.append_, run_underlying underlying143, sizeOf, typeInfo, hi, Builtin.lenOf, Builtin.firstCells, hnc, storeCells]
 ·obtain ⟨v', w', h1, h2, h3, _⟩ := run_append_own (P := prog) w B 143 ty 5 i0 (.int .u8 0) 1 1 underlying143 hi hz0 hz1 hz2 rfl (by decide) v l.length _ hm ad m c (l'.map fun u => .int .u8 (u.toNat : Int))
   (by have := hr.1; simpa using this) (jn hr) (by intro u hu; simp at hu; obtain ⟨x, _, rfl⟩ := hu; rfl) (by unfold maxLen; omega) (by omega) hB
  refine ⟨v', w', h1, ?_, h3⟩;rw [<- List.map_append] at h2;exact Made.abj h2
theorem fK {w : World} {ops : Array Oper} {rest : List Oper} {o : Oper} {a : Act} {Q : Exit -> Act -> World -> Prop} (hgd : o.guard = none) (s x : Operand)
  (ho : o.op = .call { callee := .builtin .append, args := #[s, x], argTypes := #[143, 143] })
  (B N m c : Nat) (v : Value) (l l' : List UInt8) (A : Option Addr) (hs : a.eval s = v) (hx : a.eval x = .slice A m c) (hm : Made w B v l) (hr : Rd w N A m l') (hB : B <= w.heap.size) (hsum : l.length + m <= 140737488355328)
  (h : ∀ v' w', Made w' B v' (l ++ l') -> w.grownBy w' v.ownBlock -> wpList prog ops Q rest (a.put o.dst v') w') : wpList prog ops Q (o :: rest) a w := by
 refine wpList_plain hgd fun K hK => ?_
 obtain ⟨v', w', hrun, h1, h2⟩ := yI w o.type B N m c v l l' A hm hr hB hsum;unfold Oper.wp;simp [execOp, ho, resolve, invoke, builtin, hs, hx, hrun, Result.andThen];exact hK _ _ (h v' w' h1 h2)
theorem iM (A : Option Addr) (n c N B : Nat) (b : List UInt8) (w : World) (HB : Hid (B = w.heap.size)) (hb : Rd w N A n b) (hN : N <= B) (hn : n <= 140737488351232) :
  Calls prog 154 #[.slice A n c] w fun e w' => ∃ v, e = .returned v /\ Made w' B v b /\ Below B w w' := by
 have hBle := Nat.le_of_eq HB;go_enter func154, ntmps154;go_wp2_with (at_builtin; refine fK rfl _ _ rfl B N n c _ [] b A rfl rfl (World.ownsRow_nil _ _ _ _) hb hBle ?c1 ?_)
 case c1 => simp; omega
 intro v1 w1 hm1 hg1;go_wp2;go_ret;exact ⟨_, rfl, hm1, ak.grown hg1 hBle (by simp [Value.ownBlock])⟩
theorem Made.smn {w : World} {B : Nat} {v : Value} {l : List UInt8} (h : Made w B v l) (h0 : 0 < l.length) : ∃ g c, v = .slice (some ⟨g, 0, none⟩) l.length c /\ B <= g /\ l.length <= c /\ c <= maxLen := by
 rcases h.2 with ⟨_, h1⟩ | ⟨g, cap, cur, rfl, hB, _, h1, h2, _⟩
 ·omega
 ·exact ⟨g, cap, rfl, hB, h1, h2⟩
section
variable {ρ : Operand -> Value} {o : Oper} {x y z : Operand} {w : World} {b off n c t u : Nat}
theorem aic (h : 64 <= c) : (Instr.sliceAt 143 (.slice (some ⟨b, off, none⟩) n c) none (some (.int .i64 52)) none).run prog w = .ok (.slice (some ⟨b, off, none⟩) 52 c) w := rJ (t := 52) (by omega)
theorem ahM (h : 64 <= c) : (Instr.sliceAt 143 (.slice (some ⟨b, 0, none⟩) n c) (some (.int .i64 8)) (some (.int .i64 52)) none).run prog w = .ok (.slice (some ⟨b, 8, none⟩) 44 (c - 8)) w := by
 have := vl (b := b) (off := 0) (n := n) (w := w) (u := 8) (t := 52) (c := c) (by omega) (by omega) (by omega)
 simpa using this
theorem pj (ho : o.op = .slice 143 x none (some (.const (.int .i64 52))) none) (hx : ρ x = .slice (some ⟨b, off, none⟩) n c) (hy : ρ (.const (.int .i64 52)) = .int .i64 52) (h : 64 <= c) : (execOp ρ o).run prog w = .ok (.value (.slice (some ⟨b, off, none⟩) 52 c)) w := by
 unfold execOp;simp only [ho, hx, hy, Option.map_some, Option.map_none, Sem.run_bind, aic h, Result.andThen_ok, Sem.run_pure]
theorem zq (ho : o.op = .slice 143 x (some (.const (.int .i64 8))) (some (.const (.int .i64 52))) none) (hx : ρ x = .slice (some ⟨b, 0, none⟩) n c) (hy : ρ (.const (.int .i64 52)) = .int .i64 52) (hz : ρ (.const (.int .i64 8)) = .int .i64 8) (h : 64 <= c) : (execOp ρ o).run prog w = .ok (.value (.slice (some ⟨b, 8, none⟩) 44 (c - 8))) w := by
 unfold execOp;simp only [ho, hx, hy, hz, Option.map_some, Option.map_none, Sem.run_bind, ahM h, Result.andThen_ok, Sem.run_pure]
theorem wj : (Instr.sliceAt 64 (.pointer (some ⟨b, 0, none⟩)) none none none).run prog w = .ok (.slice (some ⟨b, 0, none⟩) 64 64) w := by
 simp [Instr.sliceAt, Instr.sliceBounds, Instr.sureAddr, run_underlying nD, Tryz.sizeOf5, Addr.add_mid]
theorem jd (ho : o.op = .slice 64 x none none none) (hx : ρ x = .pointer (some ⟨b, 0, none⟩)) : (execOp ρ o).run prog w = .ok (.value (.slice (some ⟨b, 0, none⟩) 64 64)) w := by
 unfold execOp;simp only [ho, hx, Option.map_none, Sem.run_bind, wj, Result.andThen_ok, Sem.run_pure]
end
theorem Rd.piece {w : World} {N g n p k : Nat} {l : List UInt8} (h : Rd w N (some ⟨g, 0, none⟩) n l) (hk : p + k <= n) : Rd w N (some ⟨g, p, none⟩) k (piece l p k) :=
 ⟨bU (by have := h.1; omega), fun j hj => by
  obtain ⟨b, off, e, hb, hc⟩ := h.2 (p + j) (by omega);injection e with e;injection e with e1 e2;subst e1 e2;refine ⟨g, p, rfl, hb, ?_⟩;rw [gi hj, <- hc, Nat.zero_add]⟩
theorem y8 (b : Blk) (B : Nat) (w : World) (HB : Hid (B = w.heap.size)) (h0 : eU b.toList = 0) :
  Calls prog 111 #[blk b] w fun e w' => ∃ v, e = .returned (.tuple #[.int .u64 (dA b.toList : Nat), v, .int .i64 (cZ b.toList : Nat)]) /\ Made w' B v (da b.toList) /\ Below B w w' := by
 have hA := ci.blk w b 64;have hbA := (Below.refl w.heap.size w).alloc aj (.cells (cel b).toArray 64);have hRA := hA.rd (p := 0) (k := 64) (by simp);rw [dO (bR b)] at hRA;have HRA := af hRA;have HBA := af hbA;have HL := af (bR b);have hE := lp (.inl h0);have HE := af hE;have HN := af (kg (l := b.toList) (by omega));have HBB := af (lr (l := b.toList) (by omega));have HX : Hid (val 8 (piece b.toList 0 8) = 0) := af h0;obtain ⟨y, hy⟩ : ∃ y, agO b.toList = y := ⟨_, rfl⟩;have HY : Hid (val 8 (piece b.toList 56 8) = y) := af hy;clear hE h0 hy;clear hA hbA hRA;go_enter func111, ntmps111;go_wp2_with (first | (refine ax rfl (bW rfl rfl) ?_) | (refine ax rfl (jd rfl rfl) ?_) | fail);refine (iM _ 64 64 _ _ b.toList _ (af rfl) HRA aj (by omega)).mono ?_;rintro e w1 ⟨v1, rfl, hm1, hb1⟩;obtain ⟨q, c, rfl, hq, hc1, hc2⟩ := hm1.smn (by rw [HL.out]; omega);rw [HL.out] at hm1 hc1 ⊢;have hrd := hm1.rd;have HBL := af (HBA.out.trans (hb1.mono (by simp only [World.size_alloc]; omega)));have HR := af hrd;have HC2 := af hc2;clear hb1 hrd hm1 HBA HRA hq hc2;generalize hrr : w.heap.size = r at *;have HSZ : Hid (r <= w1.heap.size) := af (ap (Nat.le_of_eq hrr.symm) HBL.out.size);clear hrr;go_wp2_with fail;refine (ei _ 64 c _ b.toList 0 8 _ HR (by unfold maxLen; omega) (by omega) (by omega) (by omega)).mono ?_;rintro e w2 ⟨rfl, rfl⟩;rw [HX.out];go_wp2_with fail;refine (ei _ 64 c _ b.toList 56 8 _ HR (by unfold maxLen; omega) (by omega) (by omega) (by omega)).mono ?_;rintro e w2 ⟨rfl, rfl⟩;rw [HY.out];go_wp2_with fail;refine bodyPost_ret (v := .tuple #[.int .u64 0, .slice none 0 0, .int .i64 5]) (by simp [results, Tryz.results111, go_sem]) rfl ⟨_, by rw [HE.out, HN.out]; rfl, by rw [HBB.out]; exact World.ownsRow_nil _ _ _ _, by rw [HB.out]; exact HBL⟩
theorem tE (b : Blk) (B : Nat) (w : World) (HB : Hid (B = w.heap.size)) (h0 : eU b.toList ≠ 0) (h1 : eU b.toList ≠ agO b.toList) :
  Calls prog 111 #[blk b] w fun e w' => ∃ v, e = .returned (.tuple #[.int .u64 (dA b.toList : Nat), v, .int .i64 (cZ b.toList : Nat)]) /\ Made w' B v (da b.toList) /\ Below B w w' := by
 have hA := ci.blk w b 64;have hbA := (Below.refl w.heap.size w).alloc aj (.cells (cel b).toArray 64);have hRA := hA.rd (p := 0) (k := 64) (by simp);rw [dO (bR b)] at hRA;have HRA := af hRA;have HBA := af hbA;have HL := af (bR b);have hE := lp (.inr h1);have HE := af hE;have HN := af (kg (l := b.toList) (by omega));have HBB := af (lr (l := b.toList) (by omega));obtain ⟨x, hx⟩ : ∃ x, eU b.toList = x := ⟨_, rfl⟩;have HX : Hid (val 8 (piece b.toList 0 8) = x) := af hx;obtain ⟨y, hy⟩ : ∃ y, agO b.toList = y := ⟨_, rfl⟩;have HY : Hid (val 8 (piece b.toList 56 8) = y) := af hy;rw [hx] at h0 h1;rw [hy] at h1;have hz : ((x : Int) == 0) = false := by simp; omega
 have hn : ((x : Int) != (y : Int)) = true := by simp; omega
 clear hE h0 h1 hx hy;clear hA hbA hRA;go_enter func111, ntmps111;go_wp2_with (first | (refine ax rfl (bW rfl rfl) ?_) | (refine ax rfl (jd rfl rfl) ?_) | fail);refine (iM _ 64 64 _ _ b.toList _ (af rfl) HRA aj (by omega)).mono ?_;rintro e w1 ⟨v1, rfl, hm1, hb1⟩;obtain ⟨q, c, rfl, hq, hc1, hc2⟩ := hm1.smn (by rw [HL.out]; omega);rw [HL.out] at hm1 hc1 ⊢;have hrd := hm1.rd;have HBL := af (HBA.out.trans (hb1.mono (by simp only [World.size_alloc]; omega)));have HR := af hrd;have HC2 := af hc2;clear hb1 hrd hm1 HBA HRA hq hc2;generalize hrr : w.heap.size = r at *;have HSZ : Hid (r <= w1.heap.size) := af (ap (Nat.le_of_eq hrr.symm) HBL.out.size);clear hrr;go_wp2_with fail;refine (ei _ 64 c _ b.toList 0 8 _ HR (by unfold maxLen; omega) (by omega) (by omega) (by omega)).mono ?_;rintro e w2 ⟨rfl, rfl⟩;rw [HX.out];go_wp2_with fail;refine (ei _ 64 c _ b.toList 56 8 _ HR (by unfold maxLen; omega) (by omega) (by omega) (by omega)).mono ?_;rintro e w2 ⟨rfl, rfl⟩;rw [HY.out];go_wp2_with fail;refine bodyPost_ret (v := .tuple #[.int .u64 0, .slice none 0 0, .int .i64 5]) (by simp [results, Tryz.results111, go_sem]) rfl ⟨_, by rw [HE.out, HN.out]; rfl, by rw [HBB.out]; exact World.ownsRow_nil _ _ _ _, by rw [HB.out]; exact HBL⟩
theorem aba (b : Blk) (B : Nat) (w : World) (HB : Hid (B = w.heap.size)) (h0 : eU b.toList ≠ 0) (h1 : eU b.toList = agO b.toList) (h2 : l6 b.toList ≠ lP b.toList) :
  Calls prog 111 #[blk b] w fun e w' => ∃ v, e = .returned (.tuple #[.int .u64 (dA b.toList : Nat), v, .int .i64 (cZ b.toList : Nat)]) /\ Made w' B v (da b.toList) /\ Below B w w' := by
 have hA := ci.blk w b 64;have hbA := (Below.refl w.heap.size w).alloc aj (.cells (cel b).toArray 64);have hRA := hA.rd (p := 0) (k := 64) (by simp);rw [dO (bR b)] at hRA;have HRA := af hRA;have HBA := af hbA;have HL := af (bR b);have hE := tp h0 h1 h2;have HE := af hE;have HN := af (kg (l := b.toList) (by omega));have HBB := af (lr (l := b.toList) (by omega));obtain ⟨x, hx⟩ : ∃ x, eU b.toList = x := ⟨_, rfl⟩;have HX : Hid (val 8 (piece b.toList 0 8) = x) := af hx;have HY : Hid (val 8 (piece b.toList 56 8) = x) := af (by rw [<- hx]; exact h1.symm);rw [hx] at h0;obtain ⟨s, hs⟩ : ∃ s, l6 b.toList = s := ⟨_, rfl⟩;obtain ⟨k, hk⟩ : ∃ k, lP b.toList = k := ⟨_, rfl⟩;have HSU : Hid (val 8 (piece b.toList 52 4) = s) := af hs;have HCR : Hid (more 0 (piece b.toList 0 52) = k) := af hk;have hsl := oO (bR b);have hkl := oN b.toList;rw [hs] at hsl h2;rw [hk] at hkl h2;have hz : ((x : Int) == 0) = false := by simp; omega
 have hn : ((x : Int) != (x : Int)) = false := by simp
 have hc : ((k : Int) != (s : Int)) = true := by simp; omega
 clear hE h0 h1 hx h2 hs hk;clear hA hbA hRA;go_enter func111, ntmps111;go_wp2_with (first | (refine ax rfl (bW rfl rfl) ?_) | (refine ax rfl (jd rfl rfl) ?_) | fail);refine (iM _ 64 64 _ _ b.toList _ (af rfl) HRA aj (by omega)).mono ?_;rintro e w1 ⟨v1, rfl, hm1, hb1⟩;obtain ⟨q, c, rfl, hq, hc1, hc2⟩ := hm1.smn (by rw [HL.out]; omega);rw [HL.out] at hm1 hc1 ⊢;have hrd := hm1.rd;have HBL := af (HBA.out.trans (hb1.mono (by simp only [World.size_alloc]; omega)));have HR := af hrd;have HC2 := af hc2;clear hb1 hrd hm1 HBA HRA hq hc2;generalize hrr : w.heap.size = r at *;have HSZ : Hid (r <= w1.heap.size) := af (ap (Nat.le_of_eq hrr.symm) HBL.out.size);clear hrr;go_wp2_with fail;refine (ei _ 64 c _ b.toList 0 8 _ HR (by unfold maxLen; omega) (by omega) (by omega) (by omega)).mono ?_;rintro e w2 ⟨rfl, rfl⟩;rw [HX.out];go_wp2_with fail;refine (ei _ 64 c _ b.toList 56 8 _ HR (by unfold maxLen; omega) (by omega) (by omega) (by omega)).mono ?_;rintro e w2 ⟨rfl, rfl⟩;rw [HY.out];go_wp2_with fail;refine (ei _ 64 c _ b.toList 52 4 _ HR (by unfold maxLen; omega) (by omega) (by omega) (by omega)).mono ?_;rintro e w2 ⟨rfl, rfl⟩;rw [HSU.out];go_wp2_with (first | (refine ax rfl (pj rfl rfl rfl hc1) ?_) | fail);refine (nN _ 52 c _ (piece b.toList 0 52) _ (HR.out.piece (p := 0) (k := 52) (by omega)) (by unfold maxLen; omega)).mono ?_;rintro e w2 ⟨rfl, rfl⟩;rw [HCR.out];go_wp2_with fail;refine bodyPost_ret (v := .tuple #[.int .u64 0, .slice none 0 0, .int .i64 6]) (by simp [results, Tryz.results111, go_sem]) rfl ⟨_, by rw [HE.out, HN.out]; rfl, by rw [HBB.out]; exact World.ownsRow_nil _ _ _ _, by rw [HB.out]; exact HBL⟩
theorem aaJ (b : Blk) (B : Nat) (w : World) (HB : Hid (B = w.heap.size)) (h0 : eU b.toList ≠ 0) (h1 : eU b.toList = agO b.toList) (h2 : l6 b.toList = lP b.toList) :
  Calls prog 111 #[blk b] w fun e w' => ∃ v, e = .returned (.tuple #[.int .u64 (dA b.toList : Nat), v, .int .i64 (cZ b.toList : Nat)]) /\ Made w' B v (da b.toList) /\ Below B w w' := by
 have hA := ci.blk w b 64;have hbA := (Below.refl w.heap.size w).alloc aj (.cells (cel b).toArray 64);have hRA := hA.rd (p := 0) (k := 64) (by simp);rw [dO (bR b)] at hRA;have HRA := af hRA;have HBA := af hbA;have HL := af (bR b);have hE := yL h0 h1 h2;have HE := af hE;have HN := af (sj hE);have HBB := af (sS hE);obtain ⟨x, hx⟩ : ∃ x, eU b.toList = x := ⟨_, rfl⟩;have HX : Hid (val 8 (piece b.toList 0 8) = x) := af hx;have HY : Hid (val 8 (piece b.toList 56 8) = x) := af (by rw [<- hx]; exact h1.symm);rw [hx] at h0;obtain ⟨s, hs⟩ : ∃ s, l6 b.toList = s := ⟨_, rfl⟩;obtain ⟨k, hk⟩ : ∃ k, lP b.toList = k := ⟨_, rfl⟩;have HSU : Hid (val 8 (piece b.toList 52 4) = s) := af hs;have HCR : Hid (more 0 (piece b.toList 0 52) = k) := af hk;have hsl := oO (bR b);have hkl := oN b.toList;rw [hs] at hsl h2;rw [hk] at hkl h2;have hz : ((x : Int) == 0) = false := by simp; omega
 have hn : ((x : Int) != (x : Int)) = false := by simp
 have hc : ((k : Int) != (s : Int)) = false := by simp; omega
 have HXX := af hx;clear hE h0 h1 hx h2 hs hk;clear hA hbA hRA;go_enter func111, ntmps111;go_wp2_with (first | (refine ax rfl (bW rfl rfl) ?_) | (refine ax rfl (jd rfl rfl) ?_) | fail);refine (iM _ 64 64 _ _ b.toList _ (af rfl) HRA aj (by omega)).mono ?_;rintro e w1 ⟨v1, rfl, hm1, hb1⟩;obtain ⟨q, c, rfl, hq, hc1, hc2⟩ := hm1.smn (by rw [HL.out]; omega);rw [HL.out] at hm1 hc1 ⊢;have hrd := hm1.rd;have HBL := af (HBA.out.trans (hb1.mono (by simp only [World.size_alloc]; omega)));have HR := af hrd;have HC2 := af hc2;clear hb1 hrd hm1 HBA HRA hq hc2;generalize hrr : w.heap.size = r at *;have HSZ : Hid (r <= w1.heap.size) := af (ap (Nat.le_of_eq hrr.symm) HBL.out.size);clear hrr;go_wp2_with fail;refine (ei _ 64 c _ b.toList 0 8 _ HR (by unfold maxLen; omega) (by omega) (by omega) (by omega)).mono ?_;rintro e w2 ⟨rfl, rfl⟩;rw [HX.out];go_wp2_with fail;refine (ei _ 64 c _ b.toList 56 8 _ HR (by unfold maxLen; omega) (by omega) (by omega) (by omega)).mono ?_;rintro e w2 ⟨rfl, rfl⟩;rw [HY.out];go_wp2_with fail;refine (ei _ 64 c _ b.toList 52 4 _ HR (by unfold maxLen; omega) (by omega) (by omega) (by omega)).mono ?_;rintro e w2 ⟨rfl, rfl⟩;rw [HSU.out];go_wp2_with (first | (refine ax rfl (pj rfl rfl rfl hc1) ?_) | fail);refine (nN _ 52 c _ (piece b.toList 0 52) _ (HR.out.piece (p := 0) (k := 52) (by omega)) (by unfold maxLen; omega)).mono ?_;rintro e w2 ⟨rfl, rfl⟩;rw [HCR.out];go_wp2_with (first | (refine ax rfl (zq rfl rfl rfl rfl hc1) ?_) | fail);refine (iM _ 44 (c - 8) _ _ (piece b.toList 8 44) _ (af rfl) (HR.out.piece (p := 8) (k := 44) (by omega)) aj (by omega)).mono ?_;rintro e w2 ⟨v2, rfl, hm2, hb2⟩;have HM2 := af hm2;have HB2 := af (HBL.out.trans (hb2.mono HSZ));clear hm2 hb2;go_wp2_with fail;refine bodyPost_ret (v := .tuple #[.int .u64 (x : Int), v2, .int .i64 0]) (by simp [results, Tryz.results111, go_sem]) rfl ⟨_, by rw [HE.out, HN.out, HXX.out]; rfl, by rw [HBB.out, HB.out]; exact HM2.out.base HSZ, by rw [HB.out]; exact HB2⟩
theorem ug (b : Blk) (B : Nat) (w : World) (HB : Hid (B = w.heap.size)) : Calls prog 111 #[blk b] w fun e w' => ∃ v, e = .returned (.tuple #[.int .u64 (dA b.toList : Nat), v, .int .i64 (cZ b.toList : Nat)]) /\ Made w' B v (da b.toList) /\ Below B w w' := by
 by_cases h0 : eU b.toList = 0
 ·exact y8 b B w HB h0
 ·by_cases h1 : eU b.toList = agO b.toList
  ·by_cases h2 : l6 b.toList = lP b.toList
   ·exact aaJ b B w HB h0 h1 h2
   ·exact aba b B w HB h0 h1 h2
  ·exact tE b B w HB h0 h1
end Go.Proofs.YtcpbekopbeaflaaGreatDoor
