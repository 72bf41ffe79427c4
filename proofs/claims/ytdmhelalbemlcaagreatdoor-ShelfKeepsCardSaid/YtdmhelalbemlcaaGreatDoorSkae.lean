import Derived.Test.YtdmhelalbemlcaaGreatDoorSkad
import Derived.Deep.DeepCutAuto
namespace Go.Proofs.YtdmhelalbemlcaaGreatDoor
set_option maxHeartbeats 8000000
open Go.Proofs.Tryz
open Go.RowKit
set_option linter.unusedVariables false
set_option maxRecDepth 100000
def el (x : Ros) : List Value := [.int .i64 x.m, .int .i64 x.s, .int .i64 x.r]
def a7 (x : Ros) : List Value := .int .i64 x.m :: .int .i64 x.s :: .int .i64 x.r :: (vals x.st.toList ++ [.int .i64 x.cur, .bool x.gone])
def ros (x : Ros) : Value := .agg (a7 x).toArray
def geo (x : Ros) : Value := .agg (el x).toArray
theorem bK (x : Ros) : (a7 x).length = 21 := by simp [a7, bI]
theorem mX (x : Ros) : ∀ v ∈ a7 x, v.oneCell' = true := by
 intro v hv;simp only [a7, List.mem_cons, List.mem_append, List.not_mem_nil, or_false] at hv;rcases hv with rfl | rfl | rfl | hv | rfl | rfl
 ·rfl
 ·rfl
 ·rfl
 ·exact jA _ v hv
 ·rfl
 ·rfl
theorem t8 : (prog.info? 86).map (·.size) = some 21 := by kernel_rfl
theorem akm : (prog.info? 24).map (·.size) = some 3 := by kernel_rfl
theorem aii : (prog.info? 84).map (·.size) = some 16 := by kernel_rfl
theorem xy : (prog.info? 86).map (fun i => i.zero) = some (some (ros bY)) := by kernel_rfl
theorem uC : (prog.info? 84).map (fun i => i.zero) = some (some (arr (List.replicate 16 0))) := by kernel_rfl
section
variable {ρ : Operand -> Value} {o : Oper} {x y : Operand} {w : World} {b off : Nat}
theorem bH {c : Ros} (ho : o.op = .load 86 x) (hx : ρ x = .pointer (some ⟨b, off, none⟩)) (hc : w.rangeAt b off (a7 c)) : (execOp ρ o).run prog w = .ok (.value (ros c)) w :=
 bN underlying86 rfl (by rw [bK]; exact t8) ho hx hc
theorem eP {c : Ros} (ho : o.op = .load 24 x) (hx : ρ x = .pointer (some ⟨b, off, none⟩)) (hc : w.rangeAt b off (el c)) : (execOp ρ o).run prog w = .ok (.value (geo c)) w :=
 bN underlying24 rfl akm ho hx hc
theorem eJ {l : List UInt8} (hl : l.length = 16) (ho : o.op = .load 84 x) (hx : ρ x = .pointer (some ⟨b, off, none⟩)) (hc : w.rangeAt b off (vals l)) : (execOp ρ o).run prog w = .ok (.value (arr l)) w :=
 bN underlying84 rfl (by rw [bI, hl]; exact aii) ho hx hc
theorem br {c : Ros} (ho : o.op = .box 86 x) (hx : ρ x = ros c) : (execOp ρ o).run prog w = .ok (.value (.pointer (some ⟨w.heap.size, 0, none⟩))) (w.alloc (.cells (a7 c).toArray 86)) := ct ho hx
theorem df (ho : o.op = .alloc 86) : (execOp ρ o).run prog w = .ok (.value (.pointer (some ⟨w.heap.size, 0, none⟩))) (w.alloc (.cells (a7 bY).toArray 86)) := dR xy ho
theorem tz (ho : o.op = .alloc 84) : (execOp ρ o).run prog w = .ok (.value (.pointer (some ⟨w.heap.size, 0, none⟩))) (w.alloc (.cells (vals (List.replicate 16 0)).toArray 84)) := dR uC ho
theorem mf {c d : Ros} (ho : o.op = .store 86 x y) (hx : ρ x = .pointer (some ⟨w.heap.size, 0, none⟩)) (hy : ρ y = ros c) : (execOp ρ o).run prog (w.alloc (.cells (a7 d).toArray 86)) = .ok .skip (w.alloc (.cells (a7 c).toArray 86)) :=
 gF (by rw [bK]; exact t8) (by rw [bK, bK]) (mX c) ho hx hy
end
theorem kg (x : Ros) : a7 x = el x ++ (vals x.st.toList ++ [.int .i64 x.cur, .bool x.gone]) := rfl
theorem ag0 (w : World) (x : Ros) : (part 24 (a7 x).toArray 0).run prog w = .ok (geo x) w := by
 simp [part, geo, a7, el]
section
variable {ρ : Operand -> Value} {o : Oper} {x y : Operand} {w : World} {t : TypeId}
theorem agT : prog.eqGuardType prog.depth 84 = false := by kernel_rfl
theorem rZ {a b : List UInt8} (c : Bool) (ha : a.length = 16) (hb : b.length = 16) (ho : o.op = .binOp .eql 84 x y t) (hx : ρ x = arr a) (hy : ρ y = arr b) (h : decide (a = b) = c) : (execOp ρ o).run prog w = .ok (.value (.bool c)) w := by
 subst h; exact aeh agT (rK underlying84 w a b ha hb 9998) ho hx hy
theorem eX {l : List UInt8} {j : Nat} (hl : l.length = 16) (hj : j < 16) (ho : o.op = .index 84 x y) (hx : ρ x = arr l) (hy : ρ y = .int .i64 (j : Int)) : (execOp ρ o).run prog w = .ok (.value (.int .u8 (bt l j))) w := by
 have hp : (part 5 (vals l).toArray (j * 1)).run prog w = .ok (.int .u8 (bt l j)) w := by
  have := ja (l := l) (j := j) (by omega);simp [part, this]
 have h : (Instr.index 84 (arr l) (.int .i64 (j : Int))).run prog w = .ok (.int .u8 (bt l j)) w := by
  have e : (0 <= (j : Int) /\ (j : Int) < 16) := by omega
  unfold arr;simp [Instr.index, asIntOf, run_underlying underlying84, Tryz.sizeOf5, hj]
  simpa using hp
 unfold execOp;simp only [ho, hx, hy, Sem.run_bind, h, Result.andThen_ok, Sem.run_pure]
end
def bW (w : World) (b : Nat) (x : Ros) : Prop := w.heap[b]? = some (.cells (a7 x).toArray 86 (0, 0))
section
variable {w w' : World} {b : Nat} {x : Ros}
theorem bW.range (h : bW w b x) : w.rangeAt b 0 (a7 x) := aP h
theorem bW.geo (h : bW w b x) : w.rangeAt b 0 (el x) := fx (cs := a7 x) (ds := []) (k := 0) h.range rfl rfl
theorem bW.sts (h : bW w b x) : w.rangeAt b 3 (vals x.st.toList) := by
 have := fx (k := 3) h.range (kg x) rfl;rwa [Nat.zero_add] at this
theorem bW.cells (h : bW w b x) : w.cell? ⟨b, 0, none⟩ = some (.int .i64 x.m) /\ w.cell? ⟨b, 1, none⟩ = some (.int .i64 x.s) /\ w.cell? ⟨b, 2, none⟩ = some (.int .i64 x.r) /\ w.cell? ⟨b, 19, none⟩ = some (.int .i64 x.cur) /\ w.cell? ⟨b, 20, none⟩ = some (.bool x.gone) := by
 have hr := fx (k := 19) (ds := el x ++ vals x.st.toList) (es := [.int .i64 x.cur, .bool x.gone]) (fs := []) h.range (by simp [kg]) (by simp [el, bI]);exact ⟨h.range 0 _ rfl, h.range 1 _ rfl, h.range 2 _ rfl, hr 0 _ rfl, hr 1 _ rfl⟩
theorem bW.sta (h : bW w b x) {j : Nat} (hj : j < 16) : w.cell? ⟨b, 3 + j, none⟩ = some (.int .u8 (sta x j)) := h.sts j _ (ja (by simpa using hj))
theorem bW.below {B : Nat} (h : bW w b x) (hB : b < B) (hb : Below B w w') : bW w' b x := nM h hB hb
theorem bW.new (w : World) (x : Ros) : bW (w.alloc (.cells (a7 x).toArray 86)) w.heap.size x := heap_alloc_new w _
theorem bW.past (h : bW w b x) (o : Obj) : bW (w.alloc o) b x := bJ h o
theorem bW.rd (h : bW w b x) {m : Nat} (hm : m <= 16) : Rd w w.heap.size (some ⟨b, 3, none⟩) m (x.st.toList.take m) :=
 ⟨by simp; omega, fun k hk => ⟨b, 3, rfl, aS h, by
  rw [h.sta (j := k) (by omega)];unfold Proofs.YtdmhelalbemlcaaGreatDoor.sta bt;simp [List.getD, List.getElem?_take_of_lt hk]⟩⟩
end
theorem dx (w : World) (x : Ros) : bW (w.alloc (.cells (a7 x).toArray 86)) w.heap.size x /\ Below w.heap.size w (w.alloc (.cells (a7 x).toArray 86)) /\ w.heap.size < (w.alloc (.cells (a7 x).toArray 86)).heap.size :=
 ⟨bW.new w x, (Below.refl w.heap.size w).alloc aj _, by simp only [World.size_alloc]; omega⟩
section
variable {w : World} {b off : Nat}
theorem qf : (Instr.fieldAt 86 (.pointer (some ⟨b, 0, none⟩)) 0).run prog w = .ok (.pointer (some ⟨b, 0, none⟩)) w := by kernel_rfl
theorem ot : (Instr.fieldAt 86 (.pointer (some ⟨b, 0, none⟩)) 1).run prog w = .ok (.pointer (some ⟨b, 3, none⟩)) w := by kernel_rfl
theorem pl : (Instr.fieldAt 24 (.pointer (some ⟨b, 0, none⟩)) 0).run prog w = .ok (.pointer (some ⟨b, 0, none⟩)) w := by kernel_rfl
theorem qT {g off j : Nat} (hj : j < 16) : (Instr.indexAt 84 (.pointer (some ⟨g, off, none⟩)) (.int .i64 (j : Int))).run prog w = .ok (.pointer (some ⟨g, off + j, none⟩)) w := by
 have e : (0 <= (j : Int) /\ (j : Int) < 16) := by omega
 simp [Instr.indexAt, Instr.sureAddr, asIntOf, run_underlying underlying84, Tryz.sizeOf5, Addr.add_mid, e, hj]
theorem abA {b : Nat} : (Instr.fieldAt 86 (.pointer (some ⟨b, 0, none⟩)) 2).run prog w = .ok (.pointer (some ⟨b, 19, none⟩)) w := by kernel_rfl
theorem adf {b : Nat} : (Instr.fieldAt 24 (.pointer (some ⟨b, 0, none⟩)) 1).run prog w = .ok (.pointer (some ⟨b, 1, none⟩)) w := by kernel_rfl
end
theorem vd (l x : List UInt8) (off : Nat) : splice (vals l) off (vals x) = vals (splice l off x) := by
 unfold splice vals;simp [List.map_take, List.map_drop]
def cY (w : World) (g : Nat) (t : TypeId) (l : List UInt8) : Prop := w.heap[g]? = some (.cells (vals l).toArray t (0, 0))
section
variable {w w' : World} {g : Nat} {t : TypeId} {l : List UInt8}
theorem cY.lt (h : cY w g t l) : g < w.heap.size := (Array.getElem?_eq_some_iff.1 h).1
theorem cY.below {B : Nat} (h : cY w g t l) (hB : g < B) (hb : Below B w w') : cY w' g t l := (hb.block g hB).trans h
theorem cY.grown {k : Nat} (h : cY w g t l) (hk : g ≠ k) (hb : w.grownBy w' (some k)) : cY w' g t l := (hb.block g h.lt (fun e => hk (by injection e))).trans h
theorem cY.draw (h : cY w g t l) : cY w.drew g t l := h
theorem cY.past (h : cY w g t l) (o : Obj) : cY (w.alloc o) g t l := bJ h o
theorem cY.cell (h : cY w g t l) {j : Nat} (hj : j < l.length) : w.cell? ⟨g, j, none⟩ = some (.int .u8 (bt l j)) := by
 rw [cell_of_row w g j _ t (0, 0) h, List.getElem?_toArray, ja hj]
theorem cY.rd (h : cY w g t l) {p k : Nat} (hp : p + k <= l.length) : Rd w w.heap.size (some ⟨g, p, none⟩) k (piece l p k) :=
 ⟨eA hp, fun j hj => ⟨g, p, rfl, h.lt, by rw [h.cell (by omega), vn hj]⟩⟩
theorem cY.range (h : cY w g t l) (hl : l.length = 64) : w.rangeAt g 0 (cel (ofL l)) := fun j v hj => by
 have hlt : j < 64 := by have := (List.getElem?_eq_some_iff.1 hj).1; rwa [aK] at this
 rw [Nat.zero_add, h.cell (by omega), <- hj, iG _ hlt, afg _ hlt]
theorem cY.new (w : World) (l : List UInt8) (t : TypeId) : cY (w.alloc (.cells (vals l).toArray t)) w.heap.size t l := heap_alloc_new w _
theorem cY.blk (w : World) (b : Blk) (t : TypeId) : cY (w.alloc (.cells (cel b).toArray t)) w.heap.size t b.toList := heap_alloc_new w _
theorem cY.row (h : cY w g t l) : w.rowIs g t l.length (fun j => .int .u8 (bt l j)) :=
 ⟨_, h, by simp [bI], fun j hj => by rw [List.getElem?_toArray, ja hj]⟩
end
theorem fw {w : World} {ops : Array Oper} {rest : List Oper} {o : Oper} {a : Act} {Q : Exit -> Act -> World -> Prop} (hgd : o.guard = none) (d s : Operand)
  (ho : o.op = .call { callee := .builtin .copy, args := #[d, s], argTypes := #[154, 154] }) (g off n c m c' N : Nat) (A : Option Addr) (t : TypeId) (l x : List UInt8)
  (hd : a.eval d = .slice (some ⟨g, off, none⟩) n c) (hs : a.eval s = .slice A m c') (hS : cY w g t l) (hr : Rd w N A m x) (hmn : m <= n) (hfit : off + m <= l.length)
  (h : ∀ w', cY w' g t (splice l off x) -> w.grownBy w' (some g) -> wpList prog ops Q rest (a.put o.dst (goInt m)) w') : wpList prog ops Q (o :: rest) a w := by
 have hx := hr.1;rcases A with _ | ad
 ·have h0 : m = 0 := by
   rcases Nat.eq_zero_or_pos m with h | h
   ·exact h
   ·obtain ⟨b, off, e, _⟩ := hr.2 0 h;cases e
  subst h0;obtain rfl : x = [] := List.eq_nil_of_length_eq_zero hx;refine wpList_copy_nothing hgd d s _ _ ho 5 underlying154 (by kernel_rfl) _ _ _ _ _ _ hd hs (Nat.zero_min _) ?_;exact h w (by simpa [splice] using hS) (World.grownBy.refl w _)
 ·have hcl : (vals x).length = m := by rw [bI, hx]
  refine wpList_copy_own hgd d s _ _ ho 5 underlying154 (by kernel_rfl) g off n c ad m c' hd hs _ t hS (vals x) (by rw [hcl]; exact (Nat.min_eq_left hmn).symm) (fun j v hj => ?_) (by simp [hcl, bI]; omega) (jA x) ?_
  ·have hlt : j < m := by have := (List.getElem?_eq_some_iff.1 hj).1; omega
   obtain ⟨b, o2, e, _, hc⟩ := hr.2 j hlt;injection e with e;subst e;rw [Addr.add_mid, hc, <- hj, ja (by omega)]
  ·have hrow := setRow_heap w g (vals l).toArray ((vals l).toArray.toList.take off ++ (vals x ++ (vals l).toArray.toList.drop (off + (vals x).length))).toArray t (0, 0) hS;have e : (vals l).toArray.toList.take off ++ (vals x ++ (vals l).toArray.toList.drop (off + (vals x).length)) = vals (splice l off x) := by
    rw [<- vd]
    rfl
   rw [hcl];rw [hcl] at hrow e;refine h _ ?_ ⟨rfl, rfl, rfl, by simp [World.setRow], fun k hk hne => setRow_other w g k _ (fun e => hne (by rw [e]))⟩;unfold cY;rw [e] at hrow ⊢;exact hrow
theorem max_u32 : IntKind.u32.max = 4294967295 := by decide
theorem tZ (r : Nat) (h : r < 4294967296) : bits .xor .u32 IntKind.u32.max (r : Int) = ((neg r : Nat) : Int) := by
 rw [max_u32];exact u32_xor_nat 4294967295 r (by omega) h
theorem adZ (r : Nat) (l : List UInt8) {k : Nat} (h : k < l.length) : tak (run r (l.take k)) l[k].toNat = run r (l.take (k + 1)) := by
 rw [List.take_succ_eq_append_getElem h, xQ]
 rfl
theorem acZ (s : Nat) (A : Option Addr) (n c N : Nat) (b : List UInt8) (w : World) (T : Tab w) (hs : s < 4294967296) (hb : Rd w N A n b) (hn : n <= maxLen) :
  Calls prog 255 #[.int .u32 s, .slice A n c] w fun e w' => e = .returned (.int .u32 (more s b)) /\ w = w' := by
 have hnb := tZ s hs;have hnl := xP hs;have hlen := hb.1;unfold maxLen at hn;have HL := ae hlen;clear hlen;go_enter func255, ntmps255;go_wp2;clear hnb;have HM : Hid (more s b = neg (run (neg s) b)) := ae rfl;generalize neg s = r0 at *
 go_loop [5, 12] (fun x i => ∃ j : Nat, j <= n /\ i = .int .i64 j /\ x = .int .u32 (run r0 (b.take j))) (fun _ i => n - (intOf i).toNat)
 case atStart => exact ⟨0, by omega, rfl, rfl⟩
 case round =>
  obtain ⟨j, hj, rfl, rfl⟩ := hrel;by_cases hlt : j < n
  ·obtain ⟨bA, oA, rfl, hA, cA⟩ := hb.2 j hlt;have hjl : j < b.length := by have := HL.out; omega
   rw [fk hjl] at cA;have HS := ae (adZ r0 b hjl);have hu := UInt8.toNat_lt b[j];generalize b[j].toNat = u at *;have hrl := xa hnl (b.take j);go_wp2_with fail;refine (aeN (run r0 (b.take j)) u _ T hrl hu).mono ?_;rintro e w' ⟨rfl, rfl⟩;go_wp2
   go_round
   case rel => exact ⟨j + 1, by omega, by go_num, by rw [HS.out]⟩
   case measure => simp [intOf]; omega
  ·have h : j = n := by omega
   subst h;have ht : b.take j = b := List.take_of_length_le (Nat.le_of_eq HL);rw [ht];have hrl := xa hnl b;have hnb := tZ (run r0 b) hrl;clear ht;go_wp2;go_ret;exact ⟨cp (by first | rw [HM.out] | rw [HM.out, hnb]), rfl⟩
theorem acz (A : Option Addr) (n c N : Nat) (b : List UInt8) (w : World) (T : Tab w) (hb : Rd w N A n b) (hn : n <= maxLen) :
  Calls prog 243 #[.slice A n c] w fun e w' => e = .returned (.int .u32 (more 0 b)) /\ w = w' := by
 go_enter func243, ntmps243;go_wp2_with fail;refine (acZ 0 A n c N b _ T (by omega) hb hn).mono ?_;rintro e w' ⟨rfl, rfl⟩;go_wp2;go_ret;exact ⟨rfl, rfl⟩
section
variable {ρ : Operand -> Value} {o : Oper} {x y z u : Operand} {w : World} {t : TypeId} {p q a b c : Value}
theorem iu (ho : o.op = .slice t x (some y) (some z) (some u)) (hx : ρ x = p) (hy : ρ y = a) (hz : ρ z = b) (hu : ρ u = c) (h : (Instr.sliceAt t p (some a) (some b) (some c)).run prog w = .ok q w) : (execOp ρ o).run prog w = .ok (.value q) w := by
 unfold execOp;simp only [ho, hx, hy, hz, hu, Option.map_some, Sem.run_bind, h, Result.andThen_ok, Sem.run_pure]
end
section
variable (g : Nat) (w : World)
theorem mE {i j k : Nat} (h1 : i <= j) (h2 : j <= k) (h3 : k <= 64) (h4 : i < k) : (Instr.sliceAt 45 (.pointer (some ⟨g, 0, none⟩)) (some (.int .i64 (i : Int))) (some (.int .i64 (j : Int))) (some (.int .i64 (k : Int)))).run prog w = .ok (.slice (some ⟨g, i, none⟩) (j - i) (k - i)) w := by
 have e1 : (0 <= (k : Int) /\ (k : Int) <= 64) := by omega
 have e2 : (0 <= (j : Int) /\ (j : Int) <= (k : Int)) := by omega
 have e3 : (0 <= (i : Int) /\ (i : Int) <= (j : Int)) := by omega
 have e4 : k ≠ i := by omega
 simp [Instr.sliceAt, Instr.sliceBounds, Instr.sliceBound, Instr.sureAddr, asIntOf, run_underlying uJ, Tryz.sizeOf5, Addr.add_mid, e1, e2, e3, e4, h1, h2, h3]
theorem aj8 : (Instr.sliceAt 45 (.pointer (some ⟨g, 0, none⟩)) (some (.int .i64 0)) (some (.int .i64 8)) (some (.int .i64 8))).run prog w = .ok (.slice (some ⟨g, 0, none⟩) 8 8) w := mE g w (i := 0) (j := 8) (k := 8) (by omega) (by omega) (by omega) (by omega)
theorem aj3 : (Instr.sliceAt 45 (.pointer (some ⟨g, 0, none⟩)) (some (.int .i64 8)) (some (.int .i64 52)) (some (.int .i64 52))).run prog w = .ok (.slice (some ⟨g, 8, none⟩) 44 44) w := mE g w (i := 8) (j := 52) (k := 52) (by omega) (by omega) (by omega) (by omega)
theorem akB : (Instr.sliceAt 45 (.pointer (some ⟨g, 0, none⟩)) (some (.int .i64 52)) (some (.int .i64 56)) (some (.int .i64 56))).run prog w = .ok (.slice (some ⟨g, 52, none⟩) 4 4) w := mE g w (i := 52) (j := 56) (k := 56) (by omega) (by omega) (by omega) (by omega)
theorem aka : (Instr.sliceAt 45 (.pointer (some ⟨g, 0, none⟩)) (some (.int .i64 56)) (some (.int .i64 64)) (some (.int .i64 64))).run prog w = .ok (.slice (some ⟨g, 56, none⟩) 8 8) w := mE g w (i := 56) (j := 64) (k := 64) (by omega) (by omega) (by omega) (by omega)
theorem akY : (Instr.sliceAt 45 (.pointer (some ⟨g, 0, none⟩)) (some (.int .i64 0)) (some (.int .i64 52)) (some (.int .i64 52))).run prog w = .ok (.slice (some ⟨g, 0, none⟩) 52 52) w := mE g w (i := 0) (j := 52) (k := 52) (by omega) (by omega) (by omega) (by omega)
end
section
variable {ρ : Operand -> Value} {o : Oper} {x y : Operand} {w : World} {t : TypeId} {old cs : Array Value}
theorem ya (hz : (prog.info? t).map (·.size) = some cs.size) (he : old.size = cs.size) (h1 : cs.toList.all Value.oneCell' = true) (ho : o.op = .store t x y) (hx : ρ x = .pointer (some ⟨w.heap.size, 0, none⟩)) (hy : ρ y = .agg cs) :
  (execOp ρ o).run prog (w.alloc (.cells old t)).drew = .ok .skip (w.alloc (.cells cs t)).drew := mb (w := w.drew) hz he h1 ho hx hy
end
theorem aaL {ρ : Operand -> Value} {o : Oper} {w : World} {t : TypeId} {v : Value} {x0 x1 x2 x3 x4 : Operand} {y0 y1 y2 y3 y4 : Value} (ho : o.op = .build t #[(0, x0), (1, x1), (2, x2), (3, x3), (4, x4)]) (h0 : ρ x0 = y0) (h1 : ρ x1 = y1) (h2 : ρ x2 = y2) (h3 : ρ x3 = y3) (h4 : ρ x4 = y4)
  (h : (Instr.build t #[(0, y0), (1, y1), (2, y2), (3, y3), (4, y4)]).run prog w = .ok v w) : (execOp ρ o).run prog w = .ok (.value v) w := by
 subst h0 h1 h2 h3 h4;unfold execOp;simp only [ho, List.map_toArray, List.map_cons, List.map_nil, Sem.run_bind, h, Result.andThen_ok, Sem.run_pure]
theorem afy {fn : Func} {p : Tmp} {t : TypeId} {cs : Array Value} {d : TypeDesc} (h0 : fn.results = #[.cell p t]) (tmps : Array Value) (w : World) (b : Nat) (hp : tmps.getD p undef = .pointer (some ⟨b, 0, none⟩)) (h : w.heap[b]? = some (.cells cs t (0, 0))) (hu : prog.underlying t = some d) (hd : d.isRow = true) (hz : (prog.info? t).map (·.size) = some cs.size) :
  (results fn tmps).run prog w = .ok (.agg cs) w := by
 have hr : w.rangeAt b 0 cs.toList := fun j v hj => by
  rw [cell_of_row w b (0 + j) cs t (0, 0) h, Nat.zero_add]
  simpa using hj
 have hl : (loadVar t ⟨b, 0, none⟩).run prog w = .ok (.agg cs) w := by
  have := run_loadVar_mid (P := prog) w b 0 t cs.toList d hr hu hd (by simpa using hz)
  simpa using this
 have hp' : tmps[p]?.getD undef = .pointer (some ⟨b, 0, none⟩) := by simpa using hp
 simp [results, h0, hp', asAddr, hl]
theorem p9 {w w' : World} {row : Option Nat} (hb : Below w.heap.size w w') : w.grownBy w' row := ⟨hb.os, hb.tape, hb.output, hb.size, fun k hk _ => hb.block k hk⟩
def gA (g : Nat) : Array Value := #[.slice (some ⟨g, 0, none⟩) 8 8, .slice (some ⟨g, 8, none⟩) 44 44, .slice (some ⟨g, 52, none⟩) 4 4, .slice (some ⟨g, 56, none⟩) 8 8, .slice (some ⟨g, 0, none⟩) 52 52]
theorem ajt (g : Nat) (w : World) : (Instr.build 268 #[(0, .slice (some ⟨g, 0, none⟩) 8 8), (1, .slice (some ⟨g, 8, none⟩) 44 44), (2, .slice (some ⟨g, 52, none⟩) 4 4), (3, .slice (some ⟨g, 56, none⟩) 8 8), (4, .slice (some ⟨g, 0, none⟩) 52 52)]).run prog w = .ok (.agg (gA g)) w := by kernel_rfl
theorem mv (g : Nat) (w : World) : Calls prog 241 #[.pointer (some ⟨g, 0, none⟩)] w fun e w' => e = .returned (.agg #[.slice (some ⟨g, 0, none⟩) 8 8, .slice (some ⟨g, 8, none⟩) 44 44, .slice (some ⟨g, 52, none⟩) 4 4, .slice (some ⟨g, 56, none⟩) 8 8, .slice (some ⟨g, 0, none⟩) 52 52]) /\ Below w.heap.size w w' := by
 go_enter func241, ntmps241;go_wp2_with fail;refine wp_region_still_tail 15 (by kernel_rfl) (by kernel_rfl) ?_;simp only [ac];refine aM rfl (aL rfl alW) ?_;simp only [aa];refine aM rfl (bj rfl alW) ?_;simp only [aa];refine aM rfl (iu rfl alW evk evk evk (aj8 g _)) ?_;simp only [aa];refine aM rfl (aL rfl alW) ?_;simp only [aa];refine aM rfl (bj rfl alW) ?_;simp only [aa];refine aM rfl (iu rfl alW evk evk evk (aj3 g _)) ?_;simp only [aa];refine aM rfl (aL rfl alW) ?_;simp only [aa];refine aM rfl (bj rfl alW) ?_;simp only [aa];refine aM rfl (iu rfl alW evk evk evk (akB g _)) ?_;simp only [aa];refine aM rfl (aL rfl alW) ?_;simp only [aa];refine aM rfl (bj rfl alW) ?_;simp only [aa];refine aM rfl (iu rfl alW evk evk evk (aka g _)) ?_;simp only [aa];refine aM rfl (aL rfl alW) ?_;simp only [aa];refine aM rfl (bj rfl alW) ?_;simp only [aa];refine aM rfl (iu rfl alW evk evk evk (akY g _)) ?_;simp only [aa];refine wpStill_nil ?_;change wpList _ _ _ _ _ (World.drew _);refine alN rfl (aaL (v := .agg (gA g)) rfl alW alW alW alW alW (ajt g _)) ?_;refine bw rfl (ya (w := w) (cs := gA g) ?s1 ?s2 ?s3 rfl (ev rfl) (ev rfl)) ?_
 case s1 => kernel_rfl
 case s2 => rfl
 case s3 => rfl
 refine ah ?_;go_wp2_with fail;refine bodyPost_ret (afy (cs := gA g) (t := 268) rfl _ _ w.heap.size rfl ?h1 underlying268 rfl ?h2) rfl ⟨rfl, ?h3⟩
 case h1 => exact heap_alloc_new w.drew _
 case h2 => kernel_rfl
 case h3 => exact bd ((Below.refl _ w).alloc aj _)
theorem nf {b : List UInt8} {n : Nat} (h : b.length = n) : piece b 0 n = b := by
 subst h;simp [piece]
theorem gR (A : Option Addr) (n c N : Nat) (b : List UInt8) (w : World) (hb : Rd w N A n b) (h1 : 1 <= n) (h2 : n <= 8) :
  Calls prog 261 #[.slice A n c] w fun e w' => e = .returned (.int .u64 (val 8 b)) /\ w = w' := by
 have hp := nf hb.1;have HP := ae hp;clear hp;go_enter func261, ntmps261;go_wp2_with fail;refine (ac8 A n c N b 0 n _ hb (by unfold maxLen; omega) h1 h2 (by omega)).mono ?_;rintro e w' ⟨rfl, rfl⟩;rw [HP.out];go_wp2;go_ret;exact ⟨rfl, rfl⟩
theorem tc (g off k n : Nat) (t : TypeId) (l : List UInt8) (w : World) (hs : cY w g t l) (h1 : 1 <= k) (h2 : k <= 8) (ho : off + k <= l.length) (hn : n < 256 ^ k) :
  Calls prog 242 #[.slice (some ⟨g, off, none⟩) k k, .int .u64 n] w fun e w' => e = .returned (.tuple #[]) /\ cY w' g t (splice l off (cE 8 k n)) /\ w.grownBy w' (some g) := by
 have HS := ae hs;have HL := ae (aW 8 k n);clear hs;go_enter func242, ntmps242;go_wp2_with fail;refine (acx n k w h1 h2 hn).mono ?_;rintro e w1 ⟨v, rfl, hv, hb⟩;obtain ⟨A, c, rfl, hrd, _, _⟩ := hv.made.open_ HL;have HR := ae hrd;have HS1 := ae (HS.out.below HS.out.lt hb);have HB := ae hb;clear hv hrd hb;go_wp2_with (with_reducible refine fw rfl _ _ rfl g off k k k c _ A t l (cE 8 k n) rfl rfl HS1.out HR.out (Nat.le_refl _) ho ?_);intro w2 hr2 hg2;have HR2 := ae hr2;have HG2 := ae hg2;clear hr2 hg2;go_wp2
 go_end0
 exact ⟨rfl, HR2, (p9 HB).trans HG2⟩
theorem ahX {b : List UInt8} {j : Nat} : bt (ie b) j = if j < b.length then bt b j else 0 := by
 unfold ie
 split
 ·rename_i h; exact fq h
 ·rename_i h; rw [fy (by omega), ma]
theorem zR {n : Nat} {b : List UInt8} {j : Nat} : bt (ii n b) j = if j < 8 then bt (cE 8 8 n) j else if j < 8 + b.length then bt b (j - 8) else 0 := by
 unfold ii
 split
 ·rename_i h; exact fq (by rw [aW]; exact h)
 ·rename_i h
  rw [fy (by rw [aW]; omega), aW, ahX];by_cases h2 : j < 8 + b.length
  ·rw [if_pos (by omega), if_pos h2]
  ·rw [if_neg (by omega), if_neg h2]
theorem agI {n : Nat} {b : List UInt8} {j : Nat} (hb : b.length <= 44) : bt (jB n b) j = if j < 52 then bt (ii n b) j else if j < 56 then bt (cE 8 4 (more 0 (ii n b))) (j - 52) else bt (cE 8 8 n) (j - 56) := by
 have h52 := kf n hb;unfold jB
 split
 ·rename_i h; exact fq (by omega)
 ·rename_i h
  rw [fy (by omega), h52]
  split
  ·rename_i h2; exact fq (by rw [aW]; omega)
  ·rename_i h2; rw [fy (by rw [aW]; omega), aW, show j - 52 - 4 = j - 56 from by omega]
def mY (n : Nat) (b : List UInt8) : List UInt8 := splice (splice (splice aF.toList 0 (cE 8 8 n)) 56 (cE 8 8 n)) 8 b
theorem oz (n : Nat) : (splice aF.toList 0 (cE 8 8 n)).length = 64 := by rw [length_splice _ _ _ (by simp [aW])]; simp
theorem oO (n : Nat) : (splice (splice aF.toList 0 (cE 8 8 n)) 56 (cE 8 8 n)).length = 64 := by rw [length_splice _ _ _ (by rw [oz, aW]; omega), oz]
section
variable {n : Nat} {b : List UInt8} (hb : b.length <= 44)
include hb
theorem ir : (mY n b).length = 64 := by unfold mY; rw [length_splice _ _ _ (by rw [oO]; omega), oO]
theorem vY {j : Nat} : bt (mY n b) j = if 8 <= j /\ j < 8 + b.length then bt b (j - 8) else if 56 <= j /\ j < 64 then bt (cE 8 8 n) (j - 56) else if j < 8 then bt (cE 8 8 n) j else 0 := by
 unfold mY;have hz : bt aF.toList j = 0 := by
  have : aF.toList = List.replicate 64 0 := by decide
  rw [this, ma]
 rw [jw (by rw [oO]; omega), jw (by rw [oz, aW]; omega), jw (by simp [aW]), aW, hz]
 congr 2
 by_cases h : j < 8
 ·rw [if_pos (by omega), if_pos h, Nat.sub_zero]
 ·rw [if_neg (by omega), if_neg h]
theorem yK : piece (mY n b) 0 52 = ii n b := by
 refine kV (by rw [eA (by rw [ir hb]; omega), kf n hb]) fun j hj => ?_
 rw [eA (by rw [ir hb]; omega)] at hj;rw [vn hj, Nat.zero_add, vY hb, zR];by_cases h8 : j < 8
 ·rw [if_neg (by omega), if_neg (by omega), if_pos h8, if_pos h8]
 ·by_cases h2 : j < 8 + b.length
  ·rw [if_pos (by omega), if_neg h8, if_pos h2]
  ·rw [if_neg (by omega), if_neg (by omega), if_neg h8, if_neg h8, if_neg h2]
theorem wU : splice (mY n b) 52 (cE 8 4 (more 0 (ii n b))) = jB n b := by
 have h64 := ir (n := n) hb;refine kV (by rw [length_splice _ _ _ (by rw [h64, aW]; omega), h64, m9 n hb]) fun j hj => ?_
 rw [length_splice _ _ _ (by rw [h64, aW]; omega), h64] at hj;rw [jw (by rw [h64, aW]; omega), agI hb, aW, vY hb, zR];by_cases h52 : j < 52
 ·rw [if_neg (by omega), if_pos h52];by_cases h8 : j < 8
  ·rw [if_neg (by omega), if_neg (by omega), if_pos h8, if_pos h8]
  ·by_cases h2 : j < 8 + b.length
   ·rw [if_pos (by omega), if_neg h8, if_pos h2]
   ·rw [if_neg (by omega), if_neg (by omega), if_neg h8, if_neg h8, if_neg h2]
 ·by_cases h56 : j < 56
  ·rw [if_pos (by omega), if_neg h52, if_pos h56]
  ·rw [if_neg (by omega), if_neg h52, if_neg h56, if_neg (by omega), if_pos (by omega)]
end
theorem cells5 {w : World} {b : Nat} {t : TypeId} {x y z u v : Value} (h : w.heap[b]? = some (.cells #[x, y, z, u, v] t (0, 0))) : w.cell? ⟨b, 0, none⟩ = some x /\ w.cell? ⟨b, 1, none⟩ = some y /\ w.cell? ⟨b, 2, none⟩ = some z /\ w.cell? ⟨b, 3, none⟩ = some u /\ w.cell? ⟨b, 4, none⟩ = some v := by
 refine ⟨?_, ?_, ?_, ?_, ?_⟩
 ·rw [cell_of_row w b 0 _ t (0, 0) h]; rfl
 ·rw [cell_of_row w b 1 _ t (0, 0) h]; rfl
 ·rw [cell_of_row w b 2 _ t (0, 0) h]; rfl
 ·rw [cell_of_row w b 3 _ t (0, 0) h]; rfl
 ·rw [cell_of_row w b 4 _ t (0, 0) h]; rfl
def PartsAt (w : World) (p g : Nat) : Prop := w.heap[p]? = some (.cells (gA g) 268 (0, 0))
theorem PartsAt.cells {w : World} {p g : Nat} (h : PartsAt w p g) : w.cell? ⟨p, 0, none⟩ = some (.slice (some ⟨g, 0, none⟩) 8 8) /\ w.cell? ⟨p, 1, none⟩ = some (.slice (some ⟨g, 8, none⟩) 44 44) /\ w.cell? ⟨p, 2, none⟩ = some (.slice (some ⟨g, 52, none⟩) 4 4) /\ w.cell? ⟨p, 3, none⟩ = some (.slice (some ⟨g, 56, none⟩) 8 8) /\ w.cell? ⟨p, 4, none⟩ = some (.slice (some ⟨g, 0, none⟩) 52 52) := cells5 h
theorem PartsAt.grown {w w' : World} {p g k : Nat} (h : PartsAt w p g) (hk : p ≠ k) (hb : w.grownBy w' (some k)) : PartsAt w' p g := (hb.block p (aS h) (fun e => hk (by injection e))).trans h
theorem PartsAt.below {w w' : World} {p g B : Nat} (h : PartsAt w p g) (hB : p < B) (hb : Below B w w') : PartsAt w' p g := nM h hB hb
structure qd (B : Nat) (w w' : World) (r g p : Nat) (l : List UInt8) : Prop where
 res : cY w' r 45 aF.toList
 row : cY w' g 45 l
 par : PartsAt w' p g
 bel : Below B w w'
 r0 : B <= r
 g0 : B <= g
 rg : r ≠ g
 pg : p ≠ g
theorem qd.turn {B : Nat} {w w1 w2 : World} {r g p : Nat} {l l' : List UInt8} (h : qd B w w1 r g p l) (hr : cY w2 g 45 l') (hg : w1.grownBy w2 (some g)) (hB : B <= w.heap.size) : qd B w w2 r g p l' :=
 ⟨h.res.grown h.rg hg, hr, h.par.grown h.pg hg, h.bel.grown hg (ar hB h.bel.size) (fun k hk => by injection hk with e; have := h.g0; omega), h.r0, h.g0, h.rg, h.pg⟩
theorem qd.draw {B : Nat} {w w1 : World} {r g p : Nat} {l : List UInt8} (h : qd B w w1 r g p l) : qd B w w1.drew r g p l := ⟨h.res, h.row, h.par, bd h.bel, h.r0, h.g0, h.rg, h.pg⟩
section
variable {ρ : Operand -> Value} {o : Oper} {x y z : Operand} {w : World} {t : TypeId} {n : Nat} {a : Value} {ad : Addr} {A : Option Addr} {m c : Nat}
theorem nN (ho : o.op = .convert 211 46 x) (hx : ρ x = .int .u32 (n : Int)) (hn : n < 4294967296) : (execOp ρ o).run prog w = .ok (.value (.int .u64 (n : Int))) w := by
 have h : IntKind.u64.wrap (n : Int) = (n : Int) := IntWalk.u64_in _ ⟨by omega, by omega⟩;have hc : (convert 211 46 (.int .u32 (n : Int))).run prog w = .ok (.int .u64 (n : Int)) w := by simp [convert, go_sem, h]
 unfold execOp;simp only [ho, hx, Sem.run_bind, hc, Result.andThen_ok, Sem.run_pure]
theorem ldS (h : w.cell? ad = some (.slice A m c)) : (Instr.loadAt 154 (.pointer (some ad))).run prog w = .ok (.slice A m c) w := by simp [go_sem, h]
theorem air {b : Nat} : (Instr.fieldAt 268 (.pointer (some ⟨b, 0, none⟩)) 2).run prog w = .ok (.pointer (some ⟨b, 2, none⟩)) w := by kernel_rfl
theorem aiT {b : Nat} : (Instr.fieldAt 268 (.pointer (some ⟨b, 0, none⟩)) 4).run prog w = .ok (.pointer (some ⟨b, 4, none⟩)) w := by kernel_rfl
end
theorem agL (m c : Nat) (A : Option Addr) (b : List UInt8) (w : World) (hb : b.length = m) :
  Calls prog 223 #[.int .u64 0, .slice A m c] w fun e w' => e = .returned (.tuple #[blk (kx 0 b), .int .i64 (iR 0 b : Nat)]) /\ Below w.heap.size w w' := by
 have hA := (Below.refl w.heap.size w).alloc aj (.cells (cel aF).toArray 45);have HT := ae (eu w aF 45);have HA := ae hA;clear hA;rw [show kx 0 b = aF from rfl, show iR 0 b = 2 from rfl];go_enter func223, ntmps223;go_wp2_with (first | (refine az rfl (aX rfl) ?_) | (refine az rfl (cQ (c := aF) (parts := []) rfl rfl) ?_) | (refine bw rfl (aU rfl rfl rfl HT.out) ?_));refine bodyPost_ret (cj rfl _ _ _ rfl (World.rangeAt_setCells_same _ _ _ _ (by rw [aK]; exact HT))) rfl ⟨rfl, below_setCells HA aj _⟩
theorem aeL (n m c : Nat) (A : Option Addr) (b : List UInt8) (w : World) (hb : b.length = m) (h0 : 0 < n) (hm : 44 < m) (hm2 : m <= maxLen) :
  Calls prog 223 #[.int .u64 n, .slice A m c] w fun e w' => e = .returned (.tuple #[blk (kx n b), .int .i64 (iR n b : Nat)]) /\ Below w.heap.size w w' := by
 have hA := (Below.refl w.heap.size w).alloc aj (.cells (cel aF).toArray 45);have HT := ae (eu w aF 45);have HA := ae hA;have hE : iR n b = 3 := by unfold iR; rw [if_neg (by omega), if_pos (by omega)]
 have hB : kx n b = aF := by unfold kx; rw [hE]; rfl
 rw [hE, hB];unfold maxLen at hm2;clear hA hE hB hb;have hz : ((n : Int) == 0) = false := by simp; omega
 go_enter func223, ntmps223;go_wp2_with (first | (refine az rfl (aX rfl) ?_) | (refine az rfl (cQ (c := aF) (parts := []) rfl rfl) ?_) | (refine bw rfl (aU rfl rfl rfl HT.out) ?_));refine bodyPost_ret (cj rfl _ _ _ rfl (World.rangeAt_setCells_same _ _ _ _ (by rw [aK]; exact HT))) rfl ⟨rfl, below_setCells HA aj _⟩
theorem ql {a x : List UInt8} (h : a.length + x.length <= 44) : splice (ie a) a.length x = ie (a ++ x) := by
 unfold splice ie;rw [List.take_append_of_le_length aj, List.take_length, List.drop_append];rw [List.drop_of_length_le (by omega), List.nil_append, List.drop_replicate, List.append_assoc, List.length_append]
 congr 3
 omega
def z44 : List UInt8 := List.replicate 44 0
theorem xY : z44.length = 44 := rfl
def bS (x : Sup) : List Value := .int .u64 x.id :: .int .i64 x.self :: a7 x.ros
def sup (x : Sup) : Value := .agg (bS x).toArray
theorem bD (x : Sup) : (bS x).length = 23 := by simp [bS, bK]
theorem uK (x : Sup) : ∀ v ∈ bS x, v.oneCell' = true := by
 intro v hv;simp only [bS, List.mem_cons] at hv;rcases hv with rfl | rfl | hv
 ·rfl
 ·rfl
 ·exact mX _ v hv
theorem kR : (prog.info? 234).map (·.size) = some 23 := by kernel_rfl
theorem nL : (prog.info? 248).map (·.size) = some 44 := by kernel_rfl
theorem xO : (prog.info? 234).map (fun i => i.zero) = some (some (sup cM)) := by kernel_rfl
theorem wj : (prog.info? 248).map (fun i => i.zero) = some (some (arr z44)) := by kernel_rfl
section
variable {ρ : Operand -> Value} {o : Oper} {x y : Operand} {w : World} {b off : Nat}
theorem dI {c : Sup} (ho : o.op = .load 234 x) (hx : ρ x = .pointer (some ⟨b, off, none⟩)) (hc : w.rangeAt b off (bS c)) : (execOp ρ o).run prog w = .ok (.value (sup c)) w :=
 bN underlying234 rfl (by rw [bD]; exact kR) ho hx hc
theorem i5 {l : List UInt8} (hl : l.length = 44) (ho : o.op = .load 248 x) (hx : ρ x = .pointer (some ⟨b, off, none⟩)) (hc : w.rangeAt b off (vals l)) : (execOp ρ o).run prog w = .ok (.value (arr l)) w :=
 bN underlying248 rfl (by rw [bI, hl]; exact nL) ho hx hc
theorem jD {c : Sup} (ho : o.op = .box 234 x) (hx : ρ x = sup c) : (execOp ρ o).run prog w = .ok (.value (.pointer (some ⟨w.heap.size, 0, none⟩))) (w.alloc (.cells (bS c).toArray 234)) := ct ho hx
theorem cv (ho : o.op = .alloc 234) : (execOp ρ o).run prog w = .ok (.value (.pointer (some ⟨w.heap.size, 0, none⟩))) (w.alloc (.cells (bS cM).toArray 234)) := dR xO ho
theorem mn (ho : o.op = .alloc 248) : (execOp ρ o).run prog w = .ok (.value (.pointer (some ⟨w.heap.size, 0, none⟩))) (w.alloc (.cells (vals z44).toArray 248)) := dR wj ho
theorem eL {c d : Sup} (ho : o.op = .store 234 x y) (hx : ρ x = .pointer (some ⟨w.heap.size, 0, none⟩)) (hy : ρ y = sup c) : (execOp ρ o).run prog (w.alloc (.cells (bS d).toArray 234)) = .ok .skip (w.alloc (.cells (bS c).toArray 234)) :=
 gF (by rw [bD]; exact kR) (by rw [bD, bD]) (uK c) ho hx hy
theorem eV {c : Sup} (ho : o.op = .store 234 x y) (hx : ρ x = .pointer (some ⟨b, off, none⟩)) (hy : ρ y = sup c) (ht : w.there b off 23) : (execOp ρ o).run prog w = .ok .skip (w.setCells b off (bS c)) :=
 ix (by rw [bD]; exact kR) (uK c) ho hx hy (by rw [bD]; exact ht)
theorem aec (w : World) : (Instr.build 234 #[]).run prog w = .ok (sup cM) w := by kernel_rfl
theorem lF (ho : o.op = .build 234 #[]) : (execOp ρ o).run prog w = .ok (.value (sup cM)) w := lE ho (aec w)
end
theorem ahv (x : Sup) : bS x = [.int .u64 x.id, .int .i64 x.self] ++ a7 x.ros := rfl
section
variable {ρ : Operand -> Value} {o : Oper} {x y : Operand} {w : World} {t : TypeId}
theorem ag2 : prog.eqGuardType prog.depth 248 = false := by kernel_rfl
theorem sa {a b : List UInt8} (c : Bool) (ha : a.length = 44) (hb : b.length = 44) (ho : o.op = .binOp .neq 248 x y t) (hx : ρ x = arr a) (hy : ρ y = arr b) (h : decide (a = b) = c) : (execOp ρ o).run prog w = .ok (.value (.bool (!c))) w := by
 subst h; exact aeB ag2 (rK underlying248 w a b ha hb 9998) ho hx hy
end
def dn (w : World) (b : Nat) (x : Sup) : Prop := w.heap[b]? = some (.cells (bS x).toArray 234 (0, 0))
section
variable {w w' : World} {b : Nat} {x : Ros} {y : Sup}
theorem dn.range (h : dn w b y) : w.rangeAt b 0 (bS y) := aP h
theorem dn.ah7 (h : dn w b y) : w.rangeAt b 2 (a7 y.ros) := by
 have := fx (k := 2) (ds := [.int .u64 y.id, .int .i64 y.self]) (es := a7 y.ros) (fs := []) h.range (by simp [ahv]) rfl;rwa [Nat.zero_add] at this
theorem dn.cells (h : dn w b y) : w.cell? ⟨b, 0, none⟩ = some (.int .u64 y.id) /\ w.cell? ⟨b, 1, none⟩ = some (.int .i64 y.self) /\ w.cell? ⟨b, 2, none⟩ = some (.int .i64 y.ros.m) /\ w.cell? ⟨b, 3, none⟩ = some (.int .i64 y.ros.s) /\ w.cell? ⟨b, 4, none⟩ = some (.int .i64 y.ros.r) /\ w.cell? ⟨b, 21, none⟩ = some (.int .i64 y.ros.cur) /\ w.cell? ⟨b, 22, none⟩ = some (.bool y.ros.gone) := by
 have hr := fx (k := 19) (ds := el y.ros ++ vals y.ros.st.toList) (es := [.int .i64 y.ros.cur, .bool y.ros.gone]) (fs := []) h.ah7 (by simp [kg]) (by simp [el, bI]);exact ⟨h.range 0 _ rfl, h.range 1 _ rfl, h.range 2 _ rfl, h.range 3 _ rfl, h.range 4 _ rfl, hr 0 _ rfl, hr 1 _ rfl⟩
theorem dn.below {B : Nat} (h : dn w b y) (hB : b < B) (hb : Below B w w') : dn w' b y := nM h hB hb
theorem dn.new (w : World) (y : Sup) : dn (w.alloc (.cells (bS y).toArray 234)) w.heap.size y := heap_alloc_new w _
theorem dn.past (h : dn w b y) (o : Obj) : dn (w.alloc o) b y := bJ h o
end
theorem wm (x : Ros) (w : World) : Calls prog 25 #[geo x] w fun e w' => e = .returned (.bool (dW x)) /\ Below w.heap.size w w' := by
 have h1 := iA (x := x);have h2 := vJ (x := x);generalize dW x = g at *;obtain ⟨m, s, r, st, cur, gone⟩ := x;simp only at h1 h2;have H1 := ae h1;have H2 := ae h2;clear h1 h2
 show Calls prog 25 #[.agg #[.int .i64 m, .int .i64 s, .int .i64 r]] w _
 go_enter func25, ntmps25;go_wp2
 all_goals
  go_ret;refine ⟨bF ?_, ak.alloc aj _⟩
  first
   |(refine Eq.symm (H2.out.2 ?_); omega)
   |(rw [Bool.eq_iff_iff, H1.out, decide_eq_true_iff]; omega)
theorem akt (x : Ros) (w : World) : Calls prog 27 #[geo x] w fun e w' => e = .returned (.bool (dW x)) /\ Below w.heap.size w w' := by
 have h1 := iA (x := x);have h2 := vJ (x := x);generalize dW x = g at *;obtain ⟨m, s, r, st, cur, gone⟩ := x;simp only at h1 h2;have H1 := ae h1;have H2 := ae h2;clear h1 h2
 show Calls prog 27 #[.agg #[.int .i64 m, .int .i64 s, .int .i64 r]] w _
 go_enter func27, ntmps27;go_wp2
 all_goals
  go_ret;refine ⟨bF ?_, ak.alloc aj _⟩
  first
   |(refine Eq.symm (H2.out.2 ?_); omega)
   |(rw [Bool.eq_iff_iff, H1.out, decide_eq_true_iff]; omega)
theorem qC (w : World) (x : Sup) : dn (w.alloc (.cells (bS x).toArray 234)) w.heap.size x /\ Below w.heap.size w (w.alloc (.cells (bS x).toArray 234)) /\ w.heap.size < (w.alloc (.cells (bS x).toArray 234)).heap.size :=
 ⟨dn.new w x, (Below.refl w.heap.size w).alloc aj _, by simp only [World.size_alloc]; omega⟩
theorem aeM (n : Nat) (w : World) : Calls prog 220 #[.int .u64 n] w fun e w' => e = .returned (.bool (evB n)) /\ w = w' := by
 by_cases h : 1 <= n
 ·go_enter func220, ntmps220;go_wp2;go_ret;refine ⟨bF ?_, rfl⟩;unfold evB;rw [decide_eq_decide];omega
 ·have h0 : n = 0 := by omega
  subst h0;go_enter func220, ntmps220;go_wp2;go_ret;exact ⟨rfl, rfl⟩
theorem ahU (x : Ros) (w : World) : Calls prog 259 #[ros x] w fun e w' => e = .returned (.int .i64 (dS x : Nat)) /\ Below w.heap.size w w' := by
 obtain ⟨h1, h2, h3⟩ := dx w x;have HR := ae h1;have HB := ae h2;clear h1 h2 h3;have HL := ae (kh x.st);have HH : Hid (dS x = iH x.st.toList 16) := ae rfl;go_enter func259, ntmps259;go_wp2_with (first | (refine aw rfl (br rfl rfl) ?_) | (refine aw rfl (eJ HL.out rfl rfl ?_) ?_; (with_reducible exact HR.out.sts)) | fail);generalize w.alloc (.cells (a7 x).toArray 86) = w1 at *;generalize x.st.toList = l at *
 go_loop [3, 8] (fun n i => ∃ j : Nat, j <= 16 /\ i = .int .i64 j /\ n = .int .i64 (iH l j : Nat)) (fun _ i => 16 - (intOf i).toNat)
 case atStart => exact ⟨0, Nat.zero_le _, rfl, rfl⟩
 case round =>
  obtain ⟨j, hj, rfl, rfl⟩ := hrel;by_cases hlt : j < 16
  ·have hs := ae (lX l j);have hle := pj l j;generalize iH l j = n at *;by_cases h2 : bt l j = 2
   ·rw [if_pos h2] at hs;have hd : (bt l j == 2) = true := by rw [h2]; rfl
    clear h2;go_wp2_with (first | (refine aw rfl (eX (l := l) (j := j) HL hlt rfl rfl rfl) ?_) | fail)
    go_round
    case rel => exact ⟨j + 1, by omega, by go_num, by rw [hs.out]; go_num⟩
    case measure => simp [intOf]; omega
   ·rw [if_neg h2] at hs;have hd : (bt l j == 2) = false := by simpa using h2
    clear h2;go_wp2_with (first | (refine aw rfl (eX (l := l) (j := j) HL hlt rfl rfl rfl) ?_) | fail)
    go_round
    case rel => exact ⟨j + 1, by omega, by go_num, by rw [hs.out, Nat.add_zero]⟩
    case measure => simp [intOf]; omega
  ·have e : j = 16 := by omega
   subst e;go_wp2;go_ret;exact ⟨by rw [HH.out]; rfl, HB⟩
theorem alo (x : Ros) (w : World) : Calls prog 247 #[ros x] w fun e w' => e = .returned (.bool (vM x)) /\ Below w.heap.size w w' := by
 obtain ⟨h1, h2, h3⟩ := dx w x;have HR := ae h1;have HB := ae h2;have HZ := ae h3;clear h1 h2 h3;have HC : Hid (vM x = if dS x = 0 then decide (x.cur = 0) else decide (0 <= x.cur /\ x.cur < x.s)) := ae rfl;go_enter func247, ntmps247;go_wp2_with (first | (refine aw rfl (br rfl rfl) ?_) | (refine aw rfl (bH (c := x) rfl rfl ?_) ?_; (with_reducible exact HR.out.range)) | fail);generalize w.alloc (.cells (a7 x).toArray 86) = w1 at *;refine (ahU x w1).mono ?_;rintro e w2 ⟨rfl, hb⟩;obtain ⟨c0, c1, c2, c3, c4⟩ := (HR.out.below HZ hb).cells;have HB2 := ae (HB.out.trans (hb.mono (Nat.le_of_lt HZ)));clear hb;generalize x.cur = c at *;generalize x.s = s at *;by_cases h0 : dS x = 0
 ·rw [if_pos h0] at HC;rw [h0];go_wp2;go_ret;exact ⟨bF (by rw [HC.out, Bool.eq_iff_iff]; simp), HB2⟩
 ·rw [if_neg h0] at HC;have hd : ((dS x : Int) == 0) = false := by simp; omega
  by_cases hc : 0 <= c
  ·go_wp2;go_ret;exact ⟨bF (by rw [HC.out, decide_eq_decide]; omega), HB2⟩
  ·have hlt : c < 0 := by omega
   go_wp2;go_ret;exact ⟨bF (by rw [HC.out]; simp; omega), HB2⟩
set_option linter.unusedSimpArgs false
def ju (x : Ros) : List UInt8 := splice (List.replicate 16 0) 0 (x.st.toList.take x.m.toNat)
theorem lk {x : Ros} : (ju x).length = 16 := by
 unfold ju;rw [length_splice _ _ _ (by simp; omega)];simp
theorem sZ {x : Ros} (h0 : 0 <= x.m) (h16 : x.m <= 16) {k : Nat} (hk : k < 16) : bt (ju x) k = if (k : Int) < x.m then sta x k else 0 := by
 unfold ju;have hl : (x.st.toList.take x.m.toNat).length = x.m.toNat := by simp; omega
 rw [jw (by rw [hl]; simp; omega), hl, ma];by_cases h : (k : Int) < x.m
 ·rw [if_pos (by omega), if_pos h];unfold sta bt;simp only [List.getD, Nat.sub_zero, List.getElem?_take_of_lt (show k < x.m.toNat by omega)]
 ·rw [if_neg (by omega), if_neg h]
theorem aef {x : Ros} (h0 : 0 <= x.m) (h16 : x.m <= 16) {k : Nat} (hk : k < 16) (hb : 2 < bt (ju x) k) : f8 x = false := by
 rw [Bool.eq_false_iff];intro h;have := (jU h).1 k hk;rw [sZ h0 h16 hk] at hb
 split at hb <;> omega
theorem aeS {x : Ros} (h0 : 0 <= x.m) (h16 : x.m <= 16) (h : ∀ k, k < 16 -> bt (ju x) k <= 2) : f8 x = decide (ju x = x.st.toList) := by
 rw [Bool.eq_iff_iff, decide_eq_true_iff, jE]
 constructor
 ·rintro ⟨h1, h2⟩;refine kV (by rw [lk]; simp) fun k hk => ?_
  rw [lk] at hk;rw [sZ h0 h16 hk]
  split
  ·rfl
  ·exact (h2 k hk (by omega)).symm
 ·intro e;have h3 : ∀ k, k < 16 -> sta x k = bt (ju x) k := fun k hk => by rw [e]; rfl
  refine ⟨fun k hk => by rw [h3 k hk]; exact h k hk, fun k hk hm => ?_⟩;rw [h3 k hk, sZ h0 h16 hk, if_neg (by omega)]
section
variable {ρ : Operand -> Value} {o : Oper} {x z : Operand} {w : World} {g off : Nat}
theorem lV (ho : o.op = .slice 84 x none none none) (hx : ρ x = .pointer (some ⟨g, off, none⟩)) : (execOp ρ o).run prog w = .ok (.value (.slice (some ⟨g, off, none⟩) 16 16)) w := by
 have h : (Instr.sliceAt 84 (.pointer (some ⟨g, off, none⟩)) none none none).run prog w = .ok (.slice (some ⟨g, off, none⟩) 16 16) w := by
  simp [Instr.sliceAt, Instr.sliceBounds, Instr.sliceBound, Instr.sureAddr, asIntOf, run_underlying underlying84, Tryz.sizeOf5, Addr.add_mid]
 unfold execOp;simp only [ho, hx, Option.map_none, Sem.run_bind, h, Result.andThen_ok, Sem.run_pure]
theorem ti {m : Int} (h0 : 0 < m) (h16 : m <= 16) (ho : o.op = .slice 84 x none (some z) none) (hx : ρ x = .pointer (some ⟨g, off, none⟩)) (hz : ρ z = .int .i64 m) : (execOp ρ o).run prog w = .ok (.value (.slice (some ⟨g, off, none⟩) m.toNat 16)) w := by
 obtain ⟨n, rfl⟩ := Int.eq_ofNat_of_zero_le (Int.le_of_lt h0);have h : (Instr.sliceAt 84 (.pointer (some ⟨g, off, none⟩)) none (some (.int .i64 (n : Int))) none).run prog w = .ok (.slice (some ⟨g, off, none⟩) n 16) w := by
  have e1 : (0 <= (n : Int) /\ (n : Int) <= 16) := by omega
  have e2 : n <= 16 := by omega
  simp [Instr.sliceAt, Instr.sliceBounds, Instr.sliceBound, Instr.sureAddr, asIntOf, run_underlying underlying84, Tryz.sizeOf5, Addr.add_mid, e1, e2]
 unfold execOp;simp only [ho, hx, hz, Option.map_none, Option.map_some, Sem.run_bind, h, Result.andThen_ok, Sem.run_pure, Int.toNat_natCast]
end
theorem ahx (x : Ros) (w : World) (h0 : 0 < x.m) (h16 : x.m <= 16) : Calls prog 246 #[ros x] w fun e w' => e = .returned (.bool (f8 x && decide (dS x <= 1))) /\ Below w.heap.size w w' := by
 obtain ⟨h1, h2, h3⟩ := dx w x;have HR := ae (h1.past (.cells (vals (List.replicate 16 0)).toArray 84));have HB := ae (h2.alloc h2.size (.cells (vals (List.replicate 16 0)).toArray 84));have HM : Hid (cY ((w.alloc (.cells (a7 x).toArray 86)).alloc (.cells (vals (List.replicate 16 0)).toArray 84)) (w.heap.size + 1) 84 (List.replicate 16 0)) := by
  have := cY.new (w.alloc (.cells (a7 x).toArray 86)) (List.replicate 16 0) 84;rw [World.size_alloc] at this;exact ae this
 clear h1 h2 h3;have HML := ae (lk (x := x));have HSL := ae (kh x.st);have HBIG : Hid (∀ k, k < 16 -> 2 < bt (ju x) k -> f8 x = false) := ae fun k hk hb => aef (by omega) h16 hk hb
 have HALL : Hid ((∀ k, k < 16 -> bt (ju x) k <= 2) -> f8 x = decide (ju x = x.st.toList)) := ae fun h => aeS (by omega) h16 h
 have HDEF : Hid (splice (List.replicate 16 0) 0 (x.st.toList.take x.m.toNat) = ju x) := ae rfl;go_enter func246, ntmps246;go_wp2_with (first | (refine aw rfl (br rfl rfl) ?_) | (refine aw rfl (tz rfl) ?_) | fail);simp only [World.size_alloc];generalize (w.alloc (.cells (a7 x).toArray 86)).alloc (.cells (vals (List.replicate 16 0)).toArray 84) = w1 at *;have c0 := HR.out.cells.1;have HRD := ae (HR.out.rd (m := x.m.toNat) (by omega));refine wp_region_still_tail 6 (by kernel_rfl) (by kernel_rfl) ?_;simp only [ac];refine aM rfl (lV rfl alW) ?_;simp only [aa];refine aM rfl (ax rfl alW ot) ?_;simp only [aa];refine aM rfl (ax rfl alW qf) ?_;simp only [aa];refine aM rfl (ax rfl alW pl) ?_;simp only [aa];refine aM rfl (aE rfl alW (bV c0)) ?_;simp only [aa];refine aM rfl (ti h0 h16 rfl alW alW) ?_;simp only [aa];refine wpStill_nil ?_;change wpList _ _ _ _ _ (World.drew _);refine fw rfl _ _ rfl (w.heap.size + 1) 0 16 16 x.m.toNat 16 _ _ 84 (List.replicate 16 0) (x.st.toList.take x.m.toNat) alW alW HM.out.draw HRD (by omega) (by simp; omega) ?_;intro w2 hr2 hg2;rw [HDEF.out] at hr2;have HR2 : Hid (bW w2 w.heap.size x) := ae ((hg2.block w.heap.size (aS HR) (fun e => by injection e with e; omega)).trans HR);have HM2 := ae hr2;have HM2R := ae (aP hr2);have HB2 : Hid (Below w.heap.size w w2) := ae ((bd HB).grown hg2 HB.out.size (fun k hk => by injection hk with e; omega));have HZ2 : Hid (w.heap.size < w2.heap.size) := ae (aS HR2);clear hr2 hg2 HR HM HB HRD c0;simp only [aa];refine ah ?_;go_wp2_with (first | (refine aw rfl (eJ HML.out rfl rfl ?_) ?_; (with_reducible exact HM2R.out)) | fail);have HW2 := ae (show w2 = w2 from rfl)
 go_loop [14] (fun i => ∃ j : Nat, j <= 16 /\ i = .int .i64 j /\ ∀ k, k < j -> bt (ju x) k <= 2) (fun i => 16 - (intOf i).toNat)
 case atStart => exact ⟨0, Nat.zero_le _, rfl, fun k hk => absurd hk (by omega)⟩
 case round =>
  obtain ⟨j, hj, rfl, hall⟩ := hrel;have HA := ae hall;clear hall;by_cases hlt : j < 16
  ·by_cases h2 : 2 < bt (ju x) j
   ·have HF := ae (HBIG.out j hlt h2);go_wp2_with (first | (refine aw rfl (eX (l := ju x) (j := j) HML hlt rfl rfl rfl) ?_) | fail);go_ret;exact ⟨bF (by rw [HF.out]; rfl), HB2⟩
   ·have h2' : bt (ju x) j <= 2 := by omega
    have HN : Hid (∀ k, k < j + 1 -> bt (ju x) k <= 2) := ae fun k hk => by
     by_cases e : k = j
     ·rw [e]; exact h2'
     ·exact HA.out k (by omega)
    go_wp2_with (first | (refine aw rfl (eX (l := ju x) (j := j) HML hlt rfl rfl rfl) ?_) | fail)
    go_round
    case rel => exact ⟨j + 1, by omega, by go_num, HN⟩
    case measure => simp [intOf]; omega
  ·have e : j = 16 := by omega
   subst e;have HE := ae (HALL.out HA);cases hs : f8 x
   ·rw [hs] at HE;have HD : Hid (decide (ju x = x.st.toList) = false) := ae HE.out.symm;have HS := ae hs;clear hs HE;go_wp2_with (first | (refine aw rfl (eJ HML.out rfl rfl ?_) ?_; (with_reducible exact HM2R.out)) | (refine aw rfl (eJ HSL.out rfl rfl ?_) ?_; (with_reducible exact HR2.out.sts)) | (refine aw rfl (rZ false HML.out HSL.out rfl rfl rfl HD.out) ?_) | fail);go_ret;exact ⟨bF (by rw [HS.out]; rfl), HB2⟩
   ·rw [hs] at HE;have HD : Hid (decide (ju x = x.st.toList) = true) := ae HE.out.symm;have HS := ae hs;clear hs HE;go_wp2_with (first | (refine aw rfl (eJ HML.out rfl rfl ?_) ?_; (with_reducible exact HM2R.out)) | (refine aw rfl (eJ HSL.out rfl rfl ?_) ?_; (with_reducible exact HR2.out.sts)) | (refine aw rfl (rZ true HML.out HSL.out rfl rfl rfl HD.out) ?_) | (refine az (by rfl) (bH (c := x) rfl rfl ?_) ?_; (with_reducible exact HR2.out.range)) | fail);refine (ahU x w2).mono ?_;rintro e w3 ⟨rfl, hb⟩;have HB3 := ae (HB2.out.trans (hb.mono (Nat.le_of_lt HZ2)));clear hb;go_wp2;go_ret;exact ⟨bF (by rw [HS.out, Bool.true_and, decide_eq_decide]; omega), HB3⟩
theorem agy (x : Ros) (w : World) : Calls prog 236 #[ros x] w fun e w' => e = .returned (.bool (bi x)) /\ Below w.heap.size w w' := by
 have HF := ae (qM x);obtain ⟨h1, h2, h3⟩ := dx w x;have HR := ae h1;have HB := ae h2;have HZ := ae h3;clear h1 h2 h3;go_enter func236, ntmps236;go_wp2_with (first | (refine aw rfl (br rfl rfl) ?_) | (refine aw rfl (eP (c := x) rfl rfl ?_) ?_; (with_reducible exact HR.out.geo)) | fail);generalize w.alloc (.cells (a7 x).toArray 86) = w1 at *;refine (wm x w1).mono ?_;rintro e w2 ⟨rfl, hb⟩;have HR2 := ae (HR.out.below HZ hb);have HB2 := ae (HB.out.trans (hb.mono (Nat.le_of_lt HZ)));have HZ2 := ae (aS HR2);clear hb HR HB HZ;cases hg : dW x
 ·rw [hg] at HF;go_wp2_with fail;go_ret;exact ⟨bF (by rw [HF.out]; rfl), HB2⟩
 ·rw [hg] at HF;have hgg := iA.1 hg;clear hg;go_wp2_with (first | (refine az (by rfl) (bH (c := x) rfl rfl ?_) ?_; (with_reducible exact HR2.out.range)) | fail);refine (ahx x w2 (by omega) (by omega)).mono ?_;rintro e w3 ⟨rfl, hb⟩;have HR3 := ae (HR2.out.below HZ2 hb);have HB3 := ae (HB2.out.trans (hb.mono (Nat.le_of_lt HZ2)));have HZ3 := ae (aS HR3);clear hb HR2 HB2 HZ2 hgg;generalize (f8 x && decide (dS x <= 1)) = p at *;cases p
  ·go_wp2_with fail;go_ret;exact ⟨bF (by rw [HF.out]; rfl), HB3⟩
  ·go_wp2_with (first | (refine az (by rfl) (bH (c := x) rfl rfl ?_) ?_; (with_reducible exact HR3.out.range)) | fail);refine (alo x w3).mono ?_;rintro e w4 ⟨rfl, hb⟩;have HB4 := ae (HB3.out.trans (hb.mono (Nat.le_of_lt HZ3)));clear hb;generalize vM x = q at *;go_wp2_with fail;go_ret;exact ⟨bF (by rw [HF.out]; rfl), HB4⟩
theorem aar (x : Sup) : iq x = (decide (x.id ≠ 0) && (bi x.ros && decide (0 <= x.self /\ x.self < x.ros.m))) := by unfold iq; rw [Bool.and_assoc]
theorem ahB (x : Sup) (w : World) : Calls prog 221 #[sup x] w fun e w' => e = .returned (.bool (iq x)) /\ Below w.heap.size w w' := by
 have HF := ae (aar x);obtain ⟨h1, h2, h3⟩ := qC w x;have HR := ae h1;have HB := ae h2;have HZ := ae h3;obtain ⟨c0, c1, c2, c3, c4, c5, c6⟩ := h1.cells;clear h1 h2 h3;go_enter func221, ntmps221;by_cases hid : x.id = 0
 ·rw [am (by simpa using hid)] at HF;have hd : ((x.id : Int) != 0) = false := by rw [hid]; rfl
  go_wp2_with (first | (refine aw rfl (jD rfl rfl) ?_) | fail);go_ret;exact ⟨bF (by rw [HF.out]; rfl), HB⟩
 ·rw [ao (by simpa using hid)] at HF;have hd : ((x.id : Int) != 0) = true := by simp; omega
  go_wp2_with (first | (refine aw rfl (jD rfl rfl) ?_) | (refine az (by rfl) (bH (c := x.ros) rfl rfl ?_) ?_; (with_reducible exact HR.out.ah7)) | fail);generalize w.alloc (.cells (bS x).toArray 234) = w1 at *;clear c0 c1 c2 c3 c4 c5 c6;refine (agy x.ros w1).mono ?_;rintro e w2 ⟨rfl, hb⟩;obtain ⟨c0, c1, c2, c3, c4, c5, c6⟩ := (HR.out.below HZ hb).cells;have HB2 := ae (HB.out.trans (hb.mono (Nat.le_of_lt HZ)));clear hb HR HB HZ hd hid;generalize bi x.ros = p at *;generalize x.self = a at *;generalize x.ros.m = m at *;cases p
  ·go_wp2_with fail;go_ret;exact ⟨bF (by rw [HF.out]; rfl), HB2⟩
  ·by_cases ha : 0 <= a
   ·go_wp2;go_ret;exact ⟨bF (by rw [HF.out]; simp [ha]), HB2⟩
   ·have ha' : a < 0 := by omega
    go_wp2;go_ret;exact ⟨bF (by rw [HF.out]; simp; omega), HB2⟩
def unw (ops : Array Oper) : List Oper -> Act -> Bool
 |[], _ => true
 |r :: rs, a => !(Region.wanted r (yielded ops a.tmps)) && unw ops rs (a.put r.dst undef)
def bX : List Oper -> Act -> Act
 |[], a => a
 |r :: rs, a => bX rs (a.put r.dst undef)
section
variable {P : Program} {ops : Array Oper} {rest l : List Oper} {o : Oper} {a : Act} {w w' : World} {Q : Exit -> Act -> World -> Prop} {v : Value}
theorem qR : ∀ (rs : List Oper) (a : Act), unw ops rs a = true -> wpList P ops Q rest (bX rs a) w -> wpList P ops Q (rs ++ rest) a w
 |[], _, _, h => h
 |r :: rs, a, hu, h => by
  simp only [unw, Bool.and_eq_true, Bool.not_eq_true'] at hu;refine wpList_step fun K hK => ?_
  rw [if_neg (by rw [hu.1]; exact Bool.false_ne_true)];exact hK _ _ (qR rs _ hu.2 h)
theorem bq (n : Nat) (hw : Region.wanted o (yielded ops a.tmps) = true) (h : (execOp a.eval o).run P w = .ok (.value v) w') (hu : unw ops (l.take n) (a.put o.dst v) = true) (hr : wpList P ops Q (l.drop n) (bX (l.take n) (a.put o.dst v)) w') : wpList P ops Q (o :: l) a w :=
 az hw h (by have := qR (P := P) (Q := Q) (l.take n) _ hu hr; rwa [List.take_append_drop] at this)
end
theorem ahF (x : Ros) (w : World) : Calls prog 74 #[ros x] w fun e w' => e = .returned (.bool (bi x)) /\ Below w.heap.size w w' := by
 have HGE : Hid (dW x = false -> bi x = false) := ae fun h => by unfold bi; rw [h]; rfl
 have HOK : Hid (dW x = true -> f8 x = true -> bi x = (decide (dS x <= 1) && decide (0 <= x.cur /\ x.cur < x.s /\ (dS x = 1 \/ x.cur = 0)))) := ae fun h h' => by unfold bi; rw [h, h', Bool.true_and, Bool.true_and]
 have HNO : Hid (∀ j, j < 16 -> (2 < sta x j \/ (x.m <= (j : Int) /\ sta x j ≠ 0)) -> bi x = false) := ae fun j => ajS
 have HSTA := ae (jE (x := x));obtain ⟨h1, h2, h3⟩ := dx w x;have HR := ae h1;have HB := ae h2;have HZ := ae h3;clear h1 h2 h3;have HH : Hid (dS x = iH x.st.toList 16) := ae rfl;have HST : Hid (∀ j, sta x j = bt x.st.toList j) := ae fun _ => rfl
 go_enter func74, ntmps74;go_wp2_with (first | (refine aw rfl (br rfl rfl) ?_) | (refine aw rfl (eP (c := x) rfl rfl ?_) ?_; (with_reducible exact HR.out.geo)) | fail);generalize w.alloc (.cells (a7 x).toArray 86) = w1 at *;refine (akt x w1).mono ?_;rintro e w2 ⟨rfl, hb⟩;have HR2 := ae (HR.out.below HZ hb);have HB2 := ae (HB.out.trans (hb.mono (Nat.le_of_lt HZ)));clear hb HR HB HZ;cases hg : dW x
 ·have HF := ae (HGE.out hg);clear hg;go_wp2_with fail;go_ret;exact ⟨by rw [HF.out]; rfl, HB2⟩
 ·have HOK2 := ae (HOK.out hg);clear hg HOK HGE;have HM := ae HR2.out.cells.1;have HSS := ae HR2.out.cells.2.1;have HCU := ae HR2.out.cells.2.2.2.1;go_wp2_with fail
  go_loop [3, 4] (fun n i => ∃ j : Nat, j <= 16 /\ i = .int .i64 j /\ n = .int .i64 (iH x.st.toList j : Nat) /\ (∀ k, k < j -> sta x k <= 2) /\ (∀ k : Nat, k < j -> x.m <= (k : Int) -> sta x k = 0)) (fun _ i => 16 - (intOf i).toNat)
  case atStart => exact ⟨0, Nat.zero_le _, rfl, rfl, fun k hk => absurd hk (by omega), fun k hk => absurd hk (by omega)⟩
  case round =>
   obtain ⟨j, hj, rfl, rfl, ha1, ha2⟩ := hrel;have HA1 := ae ha1;have HA2 := ae ha2;clear ha1 ha2;by_cases hlt : j < 16
   ·have HC := ae (HR2.out.sta hlt);have HS := ae (lX x.st.toList j);have hle := pj x.st.toList j;generalize iH x.st.toList j = n at *;go_upto_region 7 with fail;refine aJ 1 ?_;refine alM (ax rfl alW ot) ?_;refine alM (cX rfl alW alW (qT hlt)) ?_;refine alM (aE rfl alW (q6 HC)) ?_;by_cases g2 : 2 < sta x j
    ·have HF := ae (HNO.out j hlt (.inl g2));have H17 : Hid (decide ((2 : Int) < sta x j) = true) := ae (ao g2);clear g2;refine alM (ey true rfl alW evk H17) ?_;refine bq 12 rfl (aL rfl alW) (by kernel_rfl) ?_;simp only [bX, ac, aa];refine aH 1 ?_;go_wp2_with fail;go_ret;exact ⟨by rw [HF.out]; rfl, HB2⟩
    ·have H17 : Hid (decide ((2 : Int) < sta x j) = false) := ae (am g2);have HLE : Hid (sta x j <= 2) := ae (by omega);refine alM (ey false rfl alW evk H17) ?_;refine runs 2 ?_;refine alT (ax rfl alW qf) ?_;refine alT (ax rfl alW pl) ?_;refine alT (aE rfl alW (bV HM)) ?_;by_cases gm : x.m <= (j : Int)
     ·have H23 : Hid (decide (x.m <= (j : Int)) = true) := ae (ao gm);refine alT (dM true rfl alW alW H23) ?_;refine runs 2 ?_;refine alT (ax rfl alW ot) ?_;refine alT (cX rfl alW alW (qT hlt)) ?_;refine alT (aE rfl alW (q6 HC)) ?_;by_cases g0 : sta x j = 0
      ·have H29 : Hid ((sta x j != 0) = false) := ae (by rw [g0]; rfl);have HEQ := ae g0;clear g2 gm g0;refine alT (aN false rfl alW evk H29) ?_;refine aH 2 ?_;have cs := HC.out;rw [HEQ.out] at cs;go_wp2_with fail
       go_round
       case rel =>
        refine ⟨j + 1, by omega, by go_num, ?_, fun k hk => ?_, fun k hk hm => ?_⟩
        ·rw [HS.out, if_neg (by rw [<- HST.out, HEQ.out]; omega), Nat.add_zero]
        ·by_cases e : k = j
         ·rw [e]; exact HLE
         ·exact HA1.out k (by omega)
        ·by_cases e : k = j
         ·rw [e]; exact HEQ
         ·exact HA2.out k (by omega) hm
       case measure => simp [intOf]; omega
      ·have HF := ae (HNO.out j hlt (.inr ⟨gm, g0⟩));have H29 : Hid ((sta x j != 0) = true) := ae (by simpa using g0);clear g2 gm g0;refine alT (aN true rfl alW evk H29) ?_;refine aH 2 ?_;go_wp2_with fail;go_ret;exact ⟨by rw [HF.out]; rfl, HB2⟩
     ·have H23 : Hid (decide (x.m <= (j : Int)) = false) := ae (am gm);have HGM := ae gm;clear g2 gm;refine alT (dM false rfl alW alW H23) ?_;refine bq 5 alH (aL rfl alW) (by kernel_rfl) ?_;simp only [bX, ac, aa];refine aH 2 ?_;have cs := HC.out;have HN1 : Hid (∀ k, k < j + 1 -> sta x k <= 2) := ae fun k hk => by
       by_cases e : k = j
       ·rw [e]; exact HLE
       ·exact HA1.out k (by omega)
      have HN2 : Hid (∀ k : Nat, k < j + 1 -> x.m <= (k : Int) -> sta x k = 0) := ae fun k hk hm => by
       by_cases e : k = j
       ·rw [e] at hm; exact absurd hm HGM
       ·exact HA2.out k (by omega) hm
      by_cases h2 : sta x j = 2
      ·have hd : (sta x j == 2) = true := by rw [h2]; rfl
       have HEQ := ae h2;clear h2;go_wp2_with fail
       go_round
       case rel => exact ⟨j + 1, by omega, by go_num, by rw [HS.out, if_pos (by rw [<- HST.out, HEQ.out])]; go_num, HN1, HN2⟩
       case measure => simp [intOf]; omega
      ·have hd : (sta x j == 2) = false := by simpa using h2
       have HEQ := ae h2;clear h2;go_wp2_with fail
       go_round
       case rel => exact ⟨j + 1, by omega, by go_num, by rw [HS.out, if_neg (by rw [<- HST.out]; exact HEQ.out), Nat.add_zero], HN1, HN2⟩
       case measure => simp [intOf]; omega
   ·have e : j = 16 := by omega
    subst e;have HF := ae (HOK2.out (HSTA.out.2 ⟨HA1, HA2⟩));rw [HH.out] at HF;have hle := pj x.st.toList 16;generalize iH x.st.toList 16 = n at *;clear HA1 HA2 HNO HSTA hlt hj HST HOK2;obtain ⟨c, hc⟩ : ∃ c, x.cur = c := ⟨_, rfl⟩;obtain ⟨s, hs⟩ : ∃ s, x.s = s := ⟨_, rfl⟩;rw [hc, hs] at HF;rw [hc] at HCU;rw [hs] at HSS;clear hc hs;go_upto_region 11 with fail;refine aJ 1 ?_;by_cases q1 : n <= 1
    ·have H40 : Hid (decide ((n : Int) <= 1) = true) := ae (ao (by omega));refine alM (jy true rfl alW evk H40) ?_;refine runs 1 ?_;refine alT (ax rfl alW abA) ?_;refine alT (aE rfl alW (bV HCU)) ?_;by_cases q2 : 0 <= c
     ·have H44 : Hid (decide ((0 : Int) <= c) = true) := ae (ao q2);refine alT (dM true rfl alW evk H44) ?_;refine runs 2 ?_;refine alT (ax rfl alW abA) ?_;refine alT (aE rfl alW (bV HCU)) ?_;refine alT (ax rfl alW qf) ?_;refine alT (ax rfl alW adf) ?_;refine alT (aE rfl alW (bV HSS)) ?_;by_cases q3 : c < s
      ·have H52 : Hid (decide (c < s) = true) := ae (ao q3);refine alT (aY true rfl alW alW H52) ?_;refine runs 3 ?_;by_cases q4 : n = 1
       ·have H56 : Hid (((n : Int) == 1) = true) := ae (by rw [q4]; rfl);refine alT (aI true rfl alW evk H56) ?_;refine bq 3 alH (aL rfl alW) (by kernel_rfl) ?_;simp only [bX, ac, aa];refine aH 3 ?_;go_wp2_with fail;go_ret;exact ⟨bF (by rw [HF.out]; rw [ao q1, ao (by omega)]; rfl), HB2⟩
       ·have H56 : Hid (((n : Int) == 1) = false) := ae (by simp; omega);refine alT (aI false rfl alW evk H56) ?_;refine runs 1 ?_;refine alT (ax rfl alW abA) ?_;refine alT (aE rfl alW (bV HCU)) ?_;by_cases q5 : c = 0
        ·have H60 : Hid ((c == 0) = true) := ae (by simpa using q5);refine alT (aI true rfl alW evk H60) ?_;refine aH 3 ?_;go_wp2_with fail;go_ret;exact ⟨bF (by rw [HF.out]; rw [ao q1, ao (by omega)]; rfl), HB2⟩
        ·have H60 : Hid ((c == 0) = false) := ae (by simpa using q5);refine alT (aI false rfl alW evk H60) ?_;refine aH 3 ?_;go_wp2_with fail;go_ret;exact ⟨bF (by rw [HF.out]; rw [ao q1, am (by omega)]; rfl), HB2⟩
      ·have H52 : Hid (decide (c < s) = false) := ae (am q3);refine alT (aY false rfl alW alW H52) ?_;refine runs 1 ?_;refine bq 7 rfl (aL rfl alW) (by kernel_rfl) ?_;simp only [bX, ac, aa];refine aH 2 ?_;go_wp2_with fail;go_ret;exact ⟨bF (by rw [HF.out]; rw [ao q1, am (by omega)]; rfl), HB2⟩
     ·have H44 : Hid (decide ((0 : Int) <= c) = false) := ae (am q2);refine alT (dM false rfl alW evk H44) ?_;refine runs 1 ?_;refine bq 6 rfl (aL rfl alW) (by kernel_rfl) ?_;simp only [bX, ac, aa];refine runs 1 ?_;refine bq 7 rfl (aL rfl alW) (by kernel_rfl) ?_;simp only [bX, ac, aa];refine aH 2 ?_;go_wp2_with fail;go_ret;exact ⟨bF (by rw [HF.out]; rw [ao q1, am (by omega)]; rfl), HB2⟩
    ·have H40 : Hid (decide ((n : Int) <= 1) = false) := ae (am (by omega));refine alM (jy false rfl alW evk H40) ?_;refine bq 3 rfl (aL rfl alW) (by kernel_rfl) ?_;simp only [bX, ac, aa];refine runs 1 ?_;refine bq 6 rfl (aL rfl alW) (by kernel_rfl) ?_;simp only [bX, ac, aa];refine runs 1 ?_;refine bq 7 rfl (aL rfl alW) (by kernel_rfl) ?_;simp only [bX, ac, aa];refine aH 2 ?_;go_wp2_with fail;go_ret;exact ⟨bF (by rw [HF.out]; rw [am q1]; rfl), HB2⟩
theorem mZ (s : Int) (w : World) (h1 : 1 <= s) (h2 : s <= 8) : Calls prog 251 #[.int .i64 s] w fun e w' => e = .returned (.bool true) /\ w = w' := by
 go_enter func251, ntmps251;go_wp2;go_ret;exact ⟨rfl, rfl⟩
theorem yC {d : Nat} (h1 : 1 <= d) (h2 : d <= 8) : d = 1 \/ d = 2 \/ d = 3 \/ d = 4 \/ d = 5 \/ d = 6 \/ d = 7 \/ d = 8 := by omega
def bytesOf (m d : Nat) : Nat := (m * d + 7) / 8
theorem sc (m d : Nat) (w : World) (h1 : 1 <= d) (h2 : d <= 8) (hm : m <= 4611686018427387904) : Calls prog 252 #[.int .i64 m, .int .i64 d] w fun e w' => e = .returned (.int .i64 (bytesOf m d)) /\ w = w' := by
 rcases yC h1 h2 with rfl | rfl | rfl | rfl | rfl | rfl | rfl | rfl
 all_goals
  clear h1 h2;go_enter func252, ntmps252;go_wp2;go_ret;exact ⟨cp (by unfold bytesOf; omega), rfl⟩
theorem r9 (m d : Nat) (w : World) (h1 : 1 <= d) (h2 : d <= 8) (hm : m <= 4611686018427387904) : Calls prog 253 #[.int .i64 m, .int .i64 d] w fun e w' => e = .returned (.tuple #[.int .i64 (m * d / 8 : Nat), .int .i64 (m * d % 8 : Nat)]) /\ w = w' := by
 rcases yC h1 h2 with rfl | rfl | rfl | rfl | rfl | rfl | rfl | rfl
 all_goals
  clear h1 h2;go_enter func253, ntmps253;go_wp2;go_ret2;exact ⟨vX (by omega) (by omega), rfl⟩
theorem o5 (a d : Nat) (w : World) (ha : a <= 8) (h2 : d <= 8) (h : 8 < a + d) : Calls prog 254 #[.int .i64 a, .int .i64 d] w fun e w' => e = .returned (.bool true) /\ w = w' := by
 go_enter func254, ntmps254;go_wp2;go_ret;exact ⟨bF (by simp; omega), rfl⟩
theorem sf (a d : Nat) (w : World) (ha : a <= 8) (h2 : d <= 8) (h : ¬ 8 < a + d) : Calls prog 254 #[.int .i64 a, .int .i64 d] w fun e w' => e = .returned (.bool false) /\ w = w' := by
 go_enter func254, ntmps254;go_wp2;go_ret;exact ⟨bF (by simp; omega), rfl⟩
theorem fits_int (n c : Int) (w : World) (hn : 0 <= n) (h0 : 0 <= c) (h64 : c <= 64) : Calls prog 250 #[.int .u64 n, .int .i64 c] w fun e w' => e = .returned (.bool (xE n.toNat c.toNat)) /\ w = w' := by
 obtain ⟨m, rfl⟩ := Int.eq_ofNat_of_zero_le hn;rw [Int.toNat_natCast];exact wc m c w h0 h64
def narrow (d : Nat) (l : List UInt8) : Bool := l.all fun u => decide (u.toNat < 2 ^ d)
theorem iB {d : Nat} {l : List UInt8} (h : narrow d l = true) : ∀ u ∈ l, u.toNat < 2 ^ d := by
 intro u hu;have := List.all_eq_true.1 h u hu
 simpa using this
theorem afd {l : List UInt8} {d j : Nat} (hall : narrow d l = true) (hj : j < l.length) : xE (bt l j).toNat (d : Int).toNat = true := by
 unfold xE;rw [Int.toNat_natCast, decide_eq_true_eq, fk hj, Int.toNat_natCast];exact iB hall _ (List.getElem_mem hj)
theorem ab6 {X ab : Nat} (hX : X < 256) (hab : ab <= 7) : IntKind.u16.wrap ((X : Int) * 2 ^ ab) = ((X * 2 ^ ab : Nat) : Int) := by
 have h2 : 2 ^ ab <= 2 ^ 7 := Nat.pow_le_pow_right (by omega) hab;have h3 : X * 2 ^ ab <= 255 * 2 ^ 7 := Nat.mul_le_mul (by omega) h2;have e : ((X : Int) * 2 ^ ab) = ((X * 2 ^ ab : Nat) : Int) := by push_cast; rfl
 rw [e];exact IntWalk.u16_in _ ⟨by omega, by omega⟩
theorem zZ {x1 X ab : Nat} (h1 : x1 < 256) (hX : X < 256) (hab : ab <= 7) : bits .or .u8 (x1 : Int) (IntKind.u16.wrap ((X : Int) * 2 ^ ab) % 256) = ((x1 ||| (X * 2 ^ ab % 2 ^ 8) : Nat) : Int) := by
 rw [ab6 hX hab];exact u8_or_nat x1 (X * 2 ^ ab % 256) h1 (Nat.mod_lt _ (by decide))
theorem ag1 {x2 X ab : Nat} (h1 : x2 < 256) (hX : X < 256) (hab : ab <= 7) : bits .or .u8 (x2 : Int) (IntKind.u16.wrap ((X : Int) * 2 ^ ab) / 256 % 256) = ((x2 ||| (X * 2 ^ ab / 2 ^ 8) : Nat) : Int) := by
 rw [ab6 hX hab];have h2 : 2 ^ ab <= 2 ^ 7 := Nat.pow_le_pow_right (by omega) hab;have h3 : X * 2 ^ ab <= 255 * 2 ^ 7 := Nat.mul_le_mul (by omega) h2;have e : (((X * 2 ^ ab : Nat) : Int) / 256 % 256) = ((X * 2 ^ ab / 256 : Nat) : Int) := by omega
 rw [e];exact u8_or_nat x2 (X * 2 ^ ab / 256) h1 (by omega)
theorem afb {w : World} {g t q ab i d V X : Nat} {e : TypeId} (hrow : w.rowIs g e t (fun k => .int .u8 (dg V k : Nat))) (hV : V < 2 ^ (i * d)) (hX : X < 2 ^ d) (hd : d <= 8) (hq : i * d / 8 = q) (hab : i * d % 8 = ab) :
  ((w.setCell ⟨g, q, none⟩ (.int .u8 (bits .or .u8 (dg V q : Nat) (IntKind.u16.wrap ((X : Int) * 2 ^ ab) % 256)))).setCell ⟨g, q + 1, none⟩ (.int .u8 (bits .or .u8 (dg V (q + 1) : Nat) (IntKind.u16.wrap ((X : Int) * 2 ^ ab) / 256 % 256)))).rowIs g e t
   (fun k => .int .u8 (dg (V + 2 ^ (i * d) * X) k : Nat)) := by
 have hX8 : X < 256 := au hX (Nat.pow_le_pow_right (by omega) hd);have h7 : ab <= 7 := by omega
 refine ((hrow.set q _).set (q + 1) _).congr fun k hk => ?_
 rw [zZ (lT _ _) hX8 h7, ag1 (lT _ _) hX8 h7, afx hV hX hd hq hab]
 show (if k = q + 1 then _ else if k = q then _ else _) = _
 split
 ·rfl
 ·split <;> rfl
theorem x6 {w : World} {g t q ab i d V X : Nat} {e : TypeId} (hrow : w.rowIs g e t (fun k => .int .u8 (dg V k : Nat))) (hV : V < 2 ^ (i * d)) (hX : X < 2 ^ d) (hd : d <= 8) (hs : ab + d <= 8) (hq : i * d / 8 = q) (hab : i * d % 8 = ab) :
  (w.setCell ⟨g, q, none⟩ (.int .u8 (bits .or .u8 (dg V q : Nat) (IntKind.u16.wrap ((X : Int) * 2 ^ ab) % 256)))).rowIs g e t
   (fun k => .int .u8 (dg (V + 2 ^ (i * d) * X) k : Nat)) := by
 have hX8 : X < 256 := au hX (Nat.pow_le_pow_right (by omega) hd);refine (hrow.set q _).congr fun k hk => ?_
 rw [zZ (lT _ _) hX8 (by omega), xS hV hX hs hq hab]
 show (if k = q then _ else _) = _
 split <;> rfl
theorem agi (A : Option Addr) (n c N d B : Nat) (l : List UInt8) (w : World) (HB : Hid (B = w.heap.size)) (hl : Rd w N A n l) (hN : N <= B) (hn : n <= 140737488351232) (h1 : 1 <= d) (h2 : d <= 8) (hall : narrow d l = true) :
  Calls prog 240 #[.slice A n c, .int .i64 d] w fun e w' => ∃ v, e = .returned (.tuple #[v, .int .i64 0]) /\ Own w' B v (cE 8 (bytesOf n d) (val d l)) /\ Below B w w' := by
 have HA := ae hall;clear hall;have hBle : B <= w.heap.size := Nat.le_of_eq HB;have htot : bytesOf n d <= 140737488355328 := by unfold bytesOf; have := Nat.mul_le_mul_left n h2; omega
 have hmk := run_make_row' (P := prog) 154 5 (.int .u8 0) 1 underlying154 xA rfl .i64 .i64 (bytesOf n d) (by omega) (by omega);go_enter func240, ntmps240;go_wp2_with (first | (go_at_call 251; refine (mZ _ _ (by omega) (by omega)).mono ?_; rintro e w' ⟨rfl, rfl⟩))
 go_loop [18] (fun i => ∃ j : Nat, j <= n /\ i = .int .i64 j) (fun i => n - (intOf i).toNat)
 case atStart => exact ⟨0, Nat.zero_le _, rfl⟩
 case round =>
  obtain ⟨j, hj, rfl⟩ := hrel;by_cases hlt : j < n
  ·obtain ⟨bA, oA, rfl, hA, cA⟩ := hl.2 j hlt;have hlo := lQ l j;have hhi := nS l j;go_wp2_with fail;refine (fits_int _ _ _ hlo (by omega) (by omega)).mono ?_;rintro e w' ⟨rfl, rfl⟩;rw [afd HA.out (by have := hl.1; omega)];go_wp2
   go_round
   case rel => exact ⟨j + 1, by omega, by go_num⟩
   case measure => simp [intOf]; omega
  ·have e : j = n := by omega
   subst e;go_wp2_with fail;refine (sc _ _ _ h1 h2 (by omega)).mono ?_;rintro e w' ⟨rfl, rfl⟩;go_wp2;clear hmk;have hr0 := World.rowIs_made w (Value.int .u8 0) (bytesOf j d) 5;have hbl0 : Below B w (w.alloc (.cells (madeCells #[Value.int .u8 0] (bytesOf j d)) 5)) := ak.alloc hBle _;generalize w.heap.size = g at hr0 hBle ⊢
   go_loopw [35] (fun i wr => ∃ i' : Nat, i' <= j /\ i = .int .i64 i' /\ wr.rowIs g 5 (bytesOf j d) (fun k => .int .u8 (dg (val d (l.take i')) k : Nat)) /\ Below B w wr) (fun i _ => j - (intOf i).toNat)
   case atStart => exact ⟨0, Nat.zero_le _, rfl, hr0.congr fun k _ => by simp [val, dg], hbl0⟩
   case round =>
    clear hbl0 hr0;obtain ⟨i, hi, rfl, hrow, hbl⟩ := hrel;by_cases hlt : i < j
    ·go_wp2_with fail;refine (r9 _ _ _ h1 h2 (by omega)).mono ?_;rintro e w' ⟨rfl, rfl⟩;have hab : i * d % 8 <= 7 := by omega
     have hq1 : i * d / 8 < bytesOf j d := by
      unfold bytesOf;have h3 : (i + 1) * d <= j * d := Nat.mul_le_mul_right d hlt;rw [Nat.succ_mul] at h3;omega
     have hq2 : 8 < i * d % 8 + d -> i * d / 8 + 1 < bytesOf j d := by
      unfold bytesOf;have h3 : (i + 1) * d <= j * d := Nat.mul_le_mul_right d hlt;rw [Nat.succ_mul] at h3;omega
     generalize hq : i * d / 8 = q at *;generalize ha : i * d % 8 = ab at *;have HQ := ae hq;have HAB := ae ha;clear hq ha;obtain ⟨bA, oA, rfl, hA, cA⟩ := (hl.below (hbl.mono hN)).2 i hlt;have hlo := lQ l i;have hhi := nS l i;have hc1 := hrow.cell hq1;have hf1 := hrow.frozen q;have hf2 := hrow.frozen (q + 1);generalize hV : val d (l.take i) = V at *;have HV := ae hV;clear hV;have hd1 := lT V q;generalize hx : dg V q = x1 at *;have HX := ae hx;clear hx;by_cases hsp : 8 < ab + d
     ·have hq3 := hq2 hsp;have hc2 := hrow.cell hq3;have hd2 := lT V (q + 1);generalize hx : dg V (q + 1) = x2 at *;have HX2 := ae hx;clear hx hq2;go_wp2_with fail;refine (o5 _ _ _ (by omega) h2 hsp).mono ?_;rintro e w' ⟨rfl, rfl⟩;go_wp2;go_roundw
      case rel =>
       refine ⟨i + 1, by omega, by go_num, ?_, (hbl.setCell hBle _).setCell hBle _⟩;have hl' : i < l.length := by have := hl.1; omega
       rw [lR hl', HV.out, <- HX.out, <- HX2.out, fk hl'];exact afb hrow (by rw [<- HV.out]; exact nR (iB HA.out) (by omega)) (iB HA.out _ (List.getElem_mem hl')) h2 HQ.out HAB.out
      case measure => simp [intOf]; omega
     ·clear hq2;go_wp2_with fail;refine (sf _ _ _ (by omega) h2 hsp).mono ?_;rintro e w' ⟨rfl, rfl⟩;go_wp2;go_roundw
      case rel =>
       refine ⟨i + 1, by omega, by go_num, ?_, hbl.setCell hBle _⟩;have hl' : i < l.length := by have := hl.1; omega
       rw [lR hl', HV.out, <- HX.out, fk hl'];exact x6 hrow (by rw [<- HV.out]; exact nR (iB HA) (by omega)) (iB HA _ (List.getElem_mem hl')) h2 (by omega) HQ HAB
      case measure => simp [intOf]; omega
    ·have e : i = j := by omega
     subst e;go_wp2;go_ret2;refine ⟨_, rfl, Own.xh (aW _ _ _) hBle hrow aj (by unfold maxLen; omega) ?_ ?_, hbl⟩
     ·intro k hk;have hk' : k < (cE 8 (bytesOf i d) (val d l)).length := by rw [aW]; exact hk
      rw [fk hk', jO (by omega) hk', List.take_of_length_le (by have := hl.1; omega)]
      rfl
     ·intro k;have := lT (val d (l.take i)) k;omega
theorem yo (b : List UInt8) (q : Nat) : (dg (val 8 b) q : Nat) = bt b q := by
 unfold dg bt;rw [aay (zf b)]
theorem aiX {d : Nat} (h1 : 1 <= d) (h2 : d <= 8) : IntKind.u16.wrap (IntKind.u16.wrap (2 ^ d) - 1) = ((2 ^ d - 1 : Nat) : Int) := by
 rcases yC h1 h2 with rfl | rfl | rfl | rfl | rfl | rfl | rfl | rfl <;> rfl
theorem vo {d y : Nat} (h1 : 1 <= d) (h2 : d <= 8) (hy : y < 65536) : bits .and .u16 (y : Int) (IntKind.u16.wrap (IntKind.u16.wrap (2 ^ d) - 1)) % 256 = ((y % 2 ^ d : Nat) : Int) := by
 have h3 : 2 ^ d <= 2 ^ 8 := Nat.pow_le_pow_right (by omega) h2;have h4 : y % 2 ^ d < 2 ^ d := Nat.mod_lt _ (Nat.pow_pos (by omega));rw [aiX h1 h2, u16_and_nat y _ hy (by omega), Nat.and_two_pow_sub_one_eq_mod];omega
theorem zL {d m V j : Nat} (h2 : d <= 8) (hj : j < m) : bt (cE d m V) j = ((V / 2 ^ (j * d) % 2 ^ d : Nat) : Int) := by
 have hl : j < (cE d m V).length := by rw [aW]; exact hj
 rw [fk hl, jO h2 hl, Nat.mul_comm d j]
theorem aao {b : List UInt8} {q ab d j m : Nat} (h1 : 1 <= d) (h2 : d <= 8) (hj : j < m) (hq : j * d / 8 = q) (hab : j * d % 8 = ab) :
  bits .and .u16 (bits .or .u16 (bt b q) (bt b (q + 1) * 256) / 2 ^ ab) (IntKind.u16.wrap (IntKind.u16.wrap (2 ^ d) - 1)) % 256 = bt (cE d m (val 8 b)) j := by
 subst hq hab;rw [<- yo, <- yo];have l1 := lT (val 8 b) (j * d / 8);have l2 := lT (val 8 b) (j * d / 8 + 1);have e : ((dg (val 8 b) (j * d / 8 + 1) : Nat) : Int) * 256 = ((dg (val 8 b) (j * d / 8 + 1) * 256 : Nat) : Int) := by omega
 rw [e, u16_or_nat _ _ (by omega) (by omega), Nat.or_comm, nat_join 8 _ _ (Nat.mul_mod_left _ (2 ^ 8)) l1];have e2 : (((dg (val 8 b) (j * d / 8 + 1) * 256 + dg (val 8 b) (j * d / 8) : Nat) : Int) / 2 ^ (j * d % 8)) = (((dg (val 8 b) (j * d / 8) + 2 ^ 8 * dg (val 8 b) (j * d / 8 + 1)) / 2 ^ (j * d % 8) : Nat) : Int) := by
  have e3 : ((2 : Int) ^ (j * d % 8)) = ((2 ^ (j * d % 8) : Nat) : Int) := by push_cast; rfl
  rw [e3, show dg (val 8 b) (j * d / 8 + 1) * 256 + dg (val 8 b) (j * d / 8) = dg (val 8 b) (j * d / 8) + 2 ^ 8 * dg (val 8 b) (j * d / 8 + 1) from by omega]
  rfl
 have l3 : (dg (val 8 b) (j * d / 8) + 2 ^ 8 * dg (val 8 b) (j * d / 8 + 1)) / 2 ^ (j * d % 8) < 65536 := Nat.lt_of_le_of_lt (Nat.div_le_self _ _) (by omega);rw [e2, vo h1 h2 l3, xz h2, zL h2 hj]
theorem sE {b : List UInt8} {q ab d j m : Nat} (h1 : 1 <= d) (h2 : d <= 8) (hj : j < m) (hs : ab + d <= 8) (hq : j * d / 8 = q) (hab : j * d % 8 = ab) :
  bits .and .u16 (bt b q / 2 ^ ab) (IntKind.u16.wrap (IntKind.u16.wrap (2 ^ d) - 1)) % 256 = bt (cE d m (val 8 b)) j := by
 subst hq hab;rw [<- yo];have l1 := lT (val 8 b) (j * d / 8);have e2 : ((dg (val 8 b) (j * d / 8) : Nat) : Int) / 2 ^ (j * d % 8) = ((dg (val 8 b) (j * d / 8) / 2 ^ (j * d % 8) : Nat) : Int) := by
  have e3 : ((2 : Int) ^ (j * d % 8)) = ((2 ^ (j * d % 8) : Nat) : Int) := by push_cast; rfl
  rw [e3]
  rfl
 have l3 : dg (val 8 b) (j * d / 8) / 2 ^ (j * d % 8) < 65536 := Nat.lt_of_le_of_lt (Nat.div_le_self _ _) (by omega);rw [e2, vo h1 h2 l3, xx hs, zL h2 hj]
theorem aa9 (A : Option Addr) (n c N d m B : Nat) (b : List UInt8) (w : World) (HB : Hid (B = w.heap.size)) (hb : Rd w N A n b) (hN : N <= B) (hn : n <= 140737488355328) (h1 : 1 <= d) (h2 : d <= 8) (hm : m <= 1048576) (hs : bytesOf m d <= n) :
  Calls prog 264 #[.slice A n c, .int .i64 d, .int .i64 m] w fun e w' => ∃ v, e = .returned (.tuple #[v, .int .i64 0]) /\ Own w' B v (cE d m (val 8 b)) /\ Below B w w' := by
 have hBle : B <= w.heap.size := Nat.le_of_eq HB;have hd30 : decide (n < bytesOf m d) = false := by simpa using hs
 have hd19 : decide ((m : Int) < 0) = false := by simp
 have hd23 : decide (1048576 < (m : Int)) = false := by simp; omega
 have hmk := run_make_row' (P := prog) 154 5 (.int .u8 0) 1 underlying154 xA rfl .i64 .i64 m (by omega) (by omega);go_enter func264, ntmps264;go_wp2_with (first | (go_at_call 251; refine (mZ _ _ (by omega) (by omega)).mono ?_; rintro e w' ⟨rfl, rfl⟩));refine (sc _ _ _ h1 h2 (by omega)).mono ?_;rintro e w' ⟨rfl, rfl⟩;go_wp2;clear hmk;have hr0 := World.rowIs_made w (Value.int .u8 0) m 5;have hbl0 : Below B w (w.alloc (.cells (madeCells #[Value.int .u8 0] m) 5)) := ak.alloc hBle _;generalize w.heap.size = g at hr0 hBle ⊢
 go_loopw [37] (fun i wr => ∃ (j : Nat) (f : Nat -> Int), j <= m /\ i = .int .i64 j /\ wr.rowIs g 5 m (fun k => .int .u8 (f k)) /\ (∀ k, k < j -> f k = bt (cE d m (val 8 b)) k) /\ (∀ k, 0 <= f k /\ f k <= 255) /\ Below B w wr) (fun i _ => m - (intOf i).toNat)
 case atStart => exact ⟨0, fun _ => 0, Nat.zero_le _, rfl, hr0, fun k hk => absurd hk (by omega), fun k => by simp, hbl0⟩
 case round =>
  clear hbl0 hr0;obtain ⟨j, f, hj, rfl, hrow, hf, hr, hbl⟩ := hrel;have HF := ae hf;have HR := ae hr;clear hf hr;by_cases hlt : j < m
  ·go_wp2_with fail;refine (r9 _ _ _ h1 h2 (by omega)).mono ?_;rintro e w' ⟨rfl, rfl⟩;have hab : j * d % 8 <= 7 := by omega
   have hq1 : j * d / 8 < n := by
    unfold bytesOf at hs;have h3 : (j + 1) * d <= m * d := Nat.mul_le_mul_right d hlt;rw [Nat.succ_mul] at h3;omega
   have hq2 : 8 < j * d % 8 + d -> j * d / 8 + 1 < n := by
    unfold bytesOf at hs;have h3 : (j + 1) * d <= m * d := Nat.mul_le_mul_right d hlt;rw [Nat.succ_mul] at h3;omega
   generalize hq : j * d / 8 = q at *;generalize ha : j * d % 8 = ab at *;have HQ := ae hq;have HAB := ae ha;clear hq ha;obtain ⟨bA, oA, rfl, hA, cA⟩ := (hb.below (hbl.mono hN)).2 q hq1;have hlo := lQ b q;have hhi := nS b q;have hc1 := hrow.cell hlt;have hf1 := hrow.frozen j;by_cases hsp : 8 < ab + d
   ·have hq3 := hq2 hsp;obtain ⟨bA', oA', hA2, _, cA2⟩ := (hb.below (hbl.mono hN)).2 (q + 1) hq3;injection hA2 with hA2;injection hA2 with hA3 hA4;subst hA3 hA4;have hlo2 := lQ b (q + 1);have hhi2 := nS b (q + 1);go_wp2_with fail;refine (o5 _ _ _ (by omega) h2 hsp).mono ?_;rintro e w' ⟨rfl, rfl⟩;go_wp2;go_roundw
    case rel =>
     rw [aao h1 h2 hlt HQ.out HAB.out];refine ⟨j + 1, upd f j (bt (cE d m (val 8 b)) j), by omega, by go_num, tM hrow _, ?_, ?_, hbl.setCell hBle _⟩
     ·intro k hk;by_cases e : k = j
      ·subst e; exact pW _ _ _
      ·rw [mC _ _ e]; exact HF.out k (by omega)
     ·intro k;by_cases e : k = j
      ·subst e; rw [pW]; exact ⟨lQ _ _, nS _ _⟩
      ·rw [mC _ _ e]; exact HR.out k
    case measure => simp [intOf]; omega
   ·clear hq2;go_wp2_with fail;refine (sf _ _ _ (by omega) h2 hsp).mono ?_;rintro e w' ⟨rfl, rfl⟩;go_wp2;go_roundw
    case rel =>
     rw [sE h1 h2 hlt (by omega) HQ.out HAB.out];refine ⟨j + 1, upd f j (bt (cE d m (val 8 b)) j), by omega, by go_num, tM hrow _, ?_, ?_, hbl.setCell hBle _⟩
     ·intro k hk;by_cases e : k = j
      ·subst e; exact pW _ _ _
      ·rw [mC _ _ e]; exact HF.out k (by omega)
     ·intro k;by_cases e : k = j
      ·subst e; rw [pW]; exact ⟨lQ _ _, nS _ _⟩
      ·rw [mC _ _ e]; exact HR.out k
    case measure => simp [intOf]; omega
  ·have e : j = m := by omega
   subst e;go_wp2;go_ret2;exact ⟨_, rfl, Own.xh (aW _ _ _) hBle hrow aj (by unfold maxLen; omega) HF HR, hbl⟩
theorem iL {ρ : Operand -> Value} {o : Oper} {x y : Operand} {w : World} (g : Nat) (ho : o.op = .store 268 x y) (hx : ρ x = .pointer (some ⟨w.heap.size, 0, none⟩)) (hy : ρ y = .agg (gA g)) :
  (execOp ρ o).run prog (w.alloc (.cells #[.slice none 0 0, .slice none 0 0, .slice none 0 0, .slice none 0 0, .slice none 0 0] 268)) = .ok .skip (w.alloc (.cells (gA g) 268)) :=
 mb (by kernel_rfl) rfl rfl ho hx hy
theorem x7 (w w1 : World) (hb : Below ((w.alloc (.cells (cel aF).toArray 45)).alloc (.cells (cel aF).toArray 45)).heap.size ((w.alloc (.cells (cel aF).toArray 45)).alloc (.cells (cel aF).toArray 45)) w1) :
  qd w.heap.size w (w1.alloc (.cells (gA (w.heap.size + 1)) 268)) w.heap.size (w.heap.size + 1) w1.heap.size aF.toList := by
 have h1 := (Below.refl w.heap.size w).alloc aj (.cells (cel aF).toArray 45);have h2 := h1.alloc h1.size (.cells (cel aF).toArray 45);have hs := hb.size;simp only [World.size_alloc] at hs;have hr : cY w1 w.heap.size 45 aF.toList := cY.below ((cY.blk w aF 45).past _) (by simp only [World.size_alloc]; omega) hb;have hg : cY w1 (w.heap.size + 1) 45 aF.toList := cY.below (by have := cY.blk (w.alloc (.cells (cel aF).toArray 45)) aF 45; rwa [World.size_alloc] at this) (by simp only [World.size_alloc]; omega) hb;have hbel : Below w.heap.size w w1 := h2.trans (hb.mono (by simp only [World.size_alloc]; omega));exact ⟨hr.past _, hg.past _, heap_alloc_new w1 _, hbel.alloc (by omega) _, aj, by omega, by omega, by omega⟩
theorem afP (n m c N : Nat) (A : Option Addr) (b : List UInt8) (w : World) (T : Tab w) (hn : n < 18446744073709551616) (h0 : 0 < n) (hb : Rd w N A m b) (hN : N <= w.heap.size) (hm : m <= 44) :
  Calls prog 223 #[.int .u64 n, .slice A m c] w fun e w' => e = .returned (.tuple #[blk (kx n b), .int .i64 (iR n b : Nat)]) /\ Below w.heap.size w w' := by
 have hl := hb.1;have hbl : b.length <= 44 := by omega
 have hE : iR n b = 0 := sy (by omega) hbl;have hB : kx n b = ofL (jB n b) := ahp hE;rw [hE, hB];have HS := ae (wU (n := n) hbl);have HH := ae (yK (n := n) hbl);have HL := ae (ir (n := n) hbl);have HL64 := ae (m9 n hbl);have HC := ae (aac (s := 0) (by omega) (ii n b));have HT := ae T;have HR := ae hb;have HB := ae hl;have HN := ae hn;have HNN := ae hN;clear hE hB T hb hl hbl hn hN;have hz : ((n : Int) == 0) = false := by simp; omega
 go_enter func223, ntmps223;go_wp2_with (first | (refine az rfl (aX rfl) ?_) | fail);refine (mv (w.heap.size + 1) _).mono ?_;rintro e w1 ⟨rfl, hb1⟩;have hW := x7 w w1 hb1;have HBW := ae hb1.size;clear hb1;have HFP := HBW.out;obtain ⟨c0, c1, c2, c3, c4⟩ := hW.par.cells;obtain ⟨g, hg⟩ : ∃ g, w.heap.size + 1 = g := ⟨_, rfl⟩;rw [hg] at hW c0 c1 c2 c3 c4;rw [hg];have HGG := ae hg;clear HFP hg;have HW := ae hW;clear hW;go_wp2_with (first | (refine bw rfl (iL g rfl rfl rfl) ?_) | fail);clear c0 c1 c2 c3 c4 HBW HGG;have HN8 := HN.out;refine (tc g 0 8 n 45 aF.toList _ HW.out.row (by omega) (by omega) (by simp) (by simpa using HN8)).mono ?_;rintro e w2 ⟨rfl, hr2, hg2⟩;have HW2 := ae (HW.out.turn hr2 hg2 aj);clear hr2 hg2 HW;obtain ⟨c0, c1, c2, c3, c4⟩ := HW2.out.par.cells;generalize w1.heap.size = p at *;obtain ⟨r, hr⟩ : ∃ r, r = w.heap.size := ⟨_, rfl⟩;have HRR := ae hr;rw [<- hr] at HNN HW2 ⊢;clear hr;clear HN8;go_wp2_with fail;clear c0 c1 c2 c3 c4;have HN8 := HN.out;refine (tc g 56 8 n 45 _ _ HW2.out.row (by omega) (by omega) (by rw [oz]; omega) (by simpa using HN8)).mono ?_;rintro e w3 ⟨rfl, hr3, hg3⟩;have HW3 := ae (HW2.out.turn hr3 hg3 (Nat.le_of_eq HRR));clear hr3 hg3 HW2 HN8;obtain ⟨c0, c1, c2, c3, c4⟩ := HW3.out.par.cells;have HR3 := ae (HR.out.below (HW3.out.bel.mono HNN));have HL2 := ae (oO n);obtain ⟨l2, hl2⟩ : ∃ l2, splice (splice aF.toList 0 (cE 8 8 n)) 56 (cE 8 8 n) = l2 := ⟨_, rfl⟩;have HNS : Hid (splice l2 8 b = mY n b) := ae (by rw [<- hl2]; rfl);rw [hl2] at HW3 HL2;clear hl2;go_wp2_with (with_reducible refine fw rfl _ _ rfl g 8 44 44 m c N A 45 l2 b rfl rfl HW3.out.row HR3.out hm ?c1 ?_)
 case c1 => rw [HL2.out]; omega
 intro w4 hr4 hg4;rw [HNS.out] at hr4;have HW4 := ae (HW3.out.turn hr4 hg4 (Nat.le_of_eq HRR));clear hr4 hg4 HW3 HR3 HL2 c0 c1 c2 c3 c4;go_wp2_with fail;refine wp_region_held (S := fun w' => Hid (qd r w w' r g p (mY n b) \/ qd r w w' r g p (jB n b))) (by kernel_rfl) ?_;change wpAnyH _ _ _ _ _ 7 _ _ w4.drew;have hS : Hid (qd r w w4.drew r g p (mY n b) \/ qd r w w4.drew r g p (jB n b)) := ae (.inl HW4.out.draw);refine alP 0 rfl (fun _ hw => ax rfl alW air) hS ?_;refine alP 1 rfl (fun _ hw => aE rfl alW (ldS (hw.out.elim (fun h => h.par.cells.2.2.1) (fun h => h.par.cells.2.2.1)))) hS ?_;refine alP 2 rfl (fun _ hw => ax rfl alW aiT) hS ?_;refine alP 3 rfl (fun _ hw => aE rfl alW (ldS (hw.out.elim (fun h => h.par.cells.2.2.2.2) (fun h => h.par.cells.2.2.2.2)))) hS ?_;refine cW 4 rfl (by kernel_rfl) rfl (aB call243 rfl (evc alW evn)) ?_;have T4 : Tab w4.drew := (HT.out.below (by rw [<- HRR.out]; exact HW4.out.draw.bel));have R4 := HW4.out.draw.row.rd (p := 0) (k := 52) (by rw [HL.out]; omega);rw [HH.out] at R4;refine (acz _ 52 52 _ (ii n b) _ T4 R4 (by unfold maxLen; omega)).mono ?_;rintro e w' ⟨rfl, rfl⟩;refine ⟨_, rfl, hS, ?_⟩;simp only [aa];clear T4 R4;refine alP 5 rfl (fun _ hw => nN rfl alW HC) hS ?_;refine cW 6 rfl (by kernel_rfl) rfl (aB call242 rfl (evc alW (evc alW evn))) ?_;refine (tc g 52 4 (more 0 (ii n b)) 45 _ _ HW4.out.draw.row (by omega) (by omega) (by rw [HL.out]; omega) (by have := HC.out; simpa using this)).mono ?_;rintro e w5 ⟨rfl, hr5, hg5⟩;rw [HS.out] at hr5;have HW5 := ae (HW4.out.draw.turn hr5 hg5 (Nat.le_of_eq HRR));refine ⟨_, rfl, ae (.inr HW5), ?_⟩;simp only [aa];clear hr5 hg5 hS HW4;refine wpAnyH_done (by kernel_rfl) ?_ _;have HG := ae (HW5.out.row.range HL64);have HTH : Hid (w5.there r 0 64) := ae (aba HW5.out.res.row (by simp));have HBB : Hid (Below w.heap.size w w5) := ae (by rw [<- HRR.out]; exact HW5.out.bel);go_wp2_with (first | (refine az rfl (aV rfl rfl HG.out) ?_) | (refine bw rfl (aU rfl rfl rfl HTH.out) ?_) | fail);refine bodyPost_ret (cj rfl _ _ _ rfl (World.rangeAt_setCells_same _ _ _ _ (by rw [aK]; exact HTH))) rfl ⟨rfl, below_setCells HBB (Nat.le_of_eq HRR.out.symm) _⟩
theorem agt (n m c N : Nat) (A : Option Addr) (b : List UInt8) (w : World) (T : Tab w) (hn : n < 18446744073709551616) (hb : Rd w N A m b) (hN : N <= w.heap.size) (hm : m <= maxLen) :
  Calls prog 223 #[.int .u64 n, .slice A m c] w fun e w' => e = .returned (.tuple #[blk (kx n b), .int .i64 (iR n b : Nat)]) /\ Below w.heap.size w w' := by
 by_cases h0 : n = 0
 ·subst h0;exact agL m c A b w hb.1
 ·by_cases h44 : m <= 44
  ·exact afP n m c N A b w T hn (by omega) hb hN h44
  ·exact aeL n m c A b w hb.1 (by omega) (by omega) hm
def lL (p q : Nat) : Value := .func (.func 248) #[] #[.pointer (some ⟨p, 0, none⟩), .pointer (some ⟨q, 0, none⟩)]
def lm (w : World) (p q : Nat) (S : Value) (k : Nat) : Prop := w.heap[p]? = some (.cells #[.int .i64 (k : Int)] 3 (0, 0)) /\ w.heap[q]? = some (.cells #[S] 154 (0, 0))
theorem qw (S : Value) (A : Option Addr) (n c : Nat) (hS : S = .slice A n c) (w : World) : Calls prog 237 #[S] w fun e w' => ∃ p q, e = .returned (lL p q) /\ lm w' p q S 0 /\ w.heap.size <= p /\ w.heap.size <= q /\ p ≠ q /\ p < w'.heap.size /\ q < w'.heap.size /\ Below w.heap.size w w' := by
 subst hS;have hmf : ∀ (fn : Fn) (first cap : Array Value) (w : World), (Instr.makeFunc fn first cap).run prog w = .ok (.func fn first cap) w := fun _ _ _ _ => rfl
 go_enter func237, ntmps237;go_wp2;go_ret;have e1 := World.size_alloc (w := w) (o := Obj.cells #[Value.slice A n c] 154);refine ⟨w.heap.size + 1, w.heap.size, rfl, ⟨?_, ?_⟩, by omega, by omega, by omega, ?_, ?_, ?_⟩
 ·have := heap_alloc_new (w.alloc (.cells #[.slice A n c] 154)) (.cells #[.int .i64 0] 3);rwa [e1] at this
 ·exact bJ (heap_alloc_new w _) _
 ·simp only [World.size_alloc]; omega
 ·simp only [World.size_alloc]; omega
 ·exact ((Below.refl _ w).alloc aj _).alloc (by simp only [World.size_alloc]; omega) _
theorem ait (g off n c : Nat) (w : World) {i j : Nat} (h1 : i < j) (h2 : j <= n) (h3 : n <= c) : (Instr.sliceAt 154 (.slice (some ⟨g, off, none⟩) n c) (some (.int .i64 (i : Int))) (some (.int .i64 (j : Int))) (some (.int .i64 (j : Int)))).run prog w = .ok (.slice (some ⟨g, off + i, none⟩) (j - i) (j - i)) w := by
 have e1 : (0 <= (j : Int) /\ (j : Int) <= (c : Int)) := by omega
 have e2 : (0 <= (j : Int) /\ (j : Int) <= (j : Int)) := by omega
 have e3 : (0 <= (i : Int) /\ (i : Int) <= (j : Int)) := by omega
 have e4 : j ≠ i := by omega
 have e5 : i <= j := by omega
 have e6 : j <= c := by omega
 simp [Instr.sliceAt, Instr.slice, Instr.sliceBounds, Instr.sliceBound, Instr.sureAddr, asIntOf, run_underlying underlying154, Tryz.sizeOf5, Addr.add_mid, e1, e2, e3, e4, e5, e6]
theorem agm (p q g off n c k s : Nat) (w : World) (h : lm w p q (.slice (some ⟨g, off, none⟩) n c) k) (hpq : p ≠ q) (hs : 0 < s) (hk : k + s <= n) (hc : n <= c) (hn : n <= 1000000) :
  Calls prog 248 #[.int .i64 (s : Int), .pointer (some ⟨p, 0, none⟩), .pointer (some ⟨q, 0, none⟩)] w fun e w' => e = .returned (.slice (some ⟨g, off + k, none⟩) s s) /\ lm w' p q (.slice (some ⟨g, off, none⟩) n c) (k + s) /\ w.grownBy w' (some p) := by
 obtain ⟨h1, h2⟩ := h;obtain ⟨a1, a2⟩ := cell1 h1;obtain ⟨b1, b2⟩ := cell1 h2;have s1 := set1 h1 (.int .i64 ((k : Int) + s));have s2 : (w.setCell ⟨p, 0, none⟩ (.int .i64 ((k : Int) + s))).heap[q]? = some (.cells #[.slice (some ⟨g, off, none⟩) n c] 154 (0, 0)) := (heap_setCell_other w ⟨p, 0, none⟩ q _ (fun e => hpq e.symm)).trans h2;have d1 := (cell1 s1).1;have d2 := (cell1 s2).1;have hg := rW w p 0 (.int .i64 ((k : Int) + s));have S1 := ae s1;have S2 := ae s2;have HG := ae hg;have HCUT : Hid (∀ w : World, (Instr.sliceAt 154 (.slice (some ⟨g, off, none⟩) n c) (some (.int .i64 (k : Int))) (some (.int .i64 ((k : Int) + (s : Int)))) (some (.int .i64 ((k : Int) + (s : Int))))).run prog w = .ok (.slice (some ⟨g, off + k, none⟩) s s) w) := ae fun w => by
  have := ait g off n c w (i := k) (j := k + s) (by omega) hk hc;rw [show k + s - k = s from by omega] at this;exact this
 clear h1 h2 s1 s2 hg b1 b2;go_enter func248, ntmps248;go_wp2_with (first | (refine aw rfl (iu rfl rfl rfl rfl rfl (HCUT.out _)) ?_) | fail);go_ret;exact ⟨rfl, ⟨S1, S2⟩, HG⟩
structure sV (B : Nat) (w0 w : World) (x : Sup) (sb rb r nb p q g : Nat) (a : List UInt8) : Prop where
 sup : dn w sb x
 ros : bW w rb x.ros
 res : cY w r 248 z44
 nxt : w.heap[nb]? = some (.cells #[lL p q] 264 (0, 0))
 cut : lm w p q (.slice (some ⟨g, 0, none⟩) 44 44) a.length
 row : cY w g 248 (ie a)
 bel : Below B w0 w
 p0 : B <= p
 g0 : B <= g
 dif : sb ≠ p /\ sb ≠ g /\ rb ≠ p /\ rb ≠ g /\ r ≠ p /\ r ≠ g /\ nb ≠ p /\ nb ≠ g /\ p ≠ q /\ p ≠ g /\ q ≠ g
section
variable {B : Nat} {w0 w w' : World} {x : Sup} {sb rb r nb p q g : Nat} {a b : List UInt8}
theorem sV.keep (h : sV B w0 w x sb rb r nb p q g a) (hb : Below w.heap.size w w') (hB : B <= w0.heap.size) : sV B w0 w' x sb rb r nb p q g a :=
 ⟨aC h.sup hb, aC h.ros hb, aC h.res hb, aC h.nxt hb, ⟨aC h.cut.1 hb, aC h.cut.2 hb⟩, aC h.row hb, h.bel.trans (hb.mono (ar hB h.bel.size)), h.p0, h.g0, h.dif⟩
theorem sV.akf (h : sV B w0 w x sb rb r nb p q g a) (hc : lm w' p q (.slice (some ⟨g, 0, none⟩) 44 44) b.length) (hr : cY w' g 248 (ie b)) (hg : ∃ w1, w.grownBy w1 (some p) /\ w1.grownBy w' (some g)) (hB : B <= w0.heap.size) : sV B w0 w' x sb rb r nb p q g b := by
 obtain ⟨w1, k1, k2⟩ := hg;obtain ⟨d1, d2, d3, d4, d5, d6, d7, d8, d9, d10, d11⟩ := h.dif;have hb1 : Below B w0 w1 := h.bel.grown k1 (ar hB h.bel.size) (fun k hk => by injection hk with e; have := h.p0; omega);have hb2 : Below B w0 w' := hb1.grown k2 (ar hB hb1.size) (fun k hk => by injection hk with e; have := h.g0; omega);exact ⟨cz (cz h.sup k1 d1) k2 d2, cz (cz h.ros k1 d3) k2 d4, cz (cz h.res k1 d5) k2 d6, cz (cz h.nxt k1 d7) k2 d8, hc, hr, hb2, h.p0, h.g0, h.dif⟩
end
theorem Made.ahE {w w' : World} {B : Nat} {v : Value} {l : List UInt8} {row : Option Nat} (h : Made w B v l) (hg : w.grownBy w' row) (hne : ∀ k, row = Option.some k -> k < B) : Made w' B v l := by
 refine ⟨h.1, ?_⟩;rcases h.2 with hn | ⟨g, cap, cur, rfl, hbg, hgg, rest⟩
 ·exact .inl hn
 ·refine .inr ⟨g, cap, cur, rfl, hbg, ?_, rest⟩;rw [hg.block g (Array.getElem?_eq_some_iff.1 hgg).1 (fun e => by have := hne g e.symm; omega)];exact hgg
theorem xK (B : Nat) (w0 w : World) (x : Sup) (sb rb r nb p q g : Nat) (a : List UInt8) (n k : Nat) (h : sV B w0 w x sb rb r nb p q g a) (hB : B <= w0.heap.size) (h1 : 1 <= k) (h2 : k <= 8) (hk : a.length + k <= 44) (hn : n < 256 ^ k) :
  Calls prog 238 #[.int .u64 n, .int .i64 k, .pointer (some ⟨nb, 0, none⟩)] w fun e w' => e = .returned (.tuple #[]) /\ sV B w0 w' x sb rb r nb p q g (a ++ cE 8 k n) := by
 have HH := ae h;have HL := ae (aW 8 k n);have HSP := ae (ql (a := a) (x := cE 8 k n) (by rw [aW]; exact hk));have HPL := ae (fQ (b := a) (by omega));have HPP := ae (aS h.cut.1);clear h;go_enter func238, ntmps238;go_wp2_with fail;refine (acx n k w h1 h2 hn).mono ?_;rintro e w1 ⟨v, rfl, hv, hb⟩;have hvm := hv.made;obtain ⟨A, c, rfl, _, _, _⟩ := hvm.open_ HL;have HV := ae hvm;have H1 := ae (HH.out.keep hb hB);have c0 := (cell1 H1.out.nxt).1;unfold lL at c0;clear hv hvm hb HH;go_wp2_with fail;refine (agm p q g 0 44 44 a.length k w1 H1.out.cut H1.out.dif.2.2.2.2.2.2.2.2.1 h1 hk aj (by omega)).mono ?_;rintro e w2 ⟨rfl, hc2, hg2⟩;clear c0;have HC2 := ae hc2;have HG2 := ae hg2;have HROW2 : Hid (cY w2 g 248 (ie a)) := ae (cz H1.out.row hg2 (fun e => H1.out.dif.2.2.2.2.2.2.2.2.2.1 e.symm));have HRD2 : Hid (Rd w2 w2.heap.size A k (cE 8 k n)) := ae (by
  have := (HV.out.ahE hg2 (fun j hj => by injection hj with e; have := HPP.out; omega)).rd;exact this)
 clear hc2 hg2;go_wp2_with (first | (refine fw rfl _ _ rfl g a.length k k k c _ A 248 (ie a) (cE 8 k n) rfl rfl HROW2 HRD2 aj ?_ ?_) | fail)
 ·rw [HPL.out]; omega
 intro w3 hr3 hg3;rw [HSP.out] at hr3;have hdf := H1.out.dif;have hc3 : lm w3 p q (.slice (some ⟨g, 0, none⟩) 44 44) (a ++ cE 8 k n).length := by
  rw [List.length_append, HL.out];exact ⟨cz HC2.out.1 hg3 hdf.2.2.2.2.2.2.2.2.2.1, cz HC2.out.2 hg3 hdf.2.2.2.2.2.2.2.2.2.2⟩
 have H3 := ae (H1.out.akf hc3 hr3 ⟨w2, HG2, hg3⟩ hB);clear hr3 hg3 hdf hc3;go_wp2_with fail
 go_end0
 exact ⟨rfl, H3⟩
end Go.Proofs.YtdmhelalbemlcaaGreatDoor
