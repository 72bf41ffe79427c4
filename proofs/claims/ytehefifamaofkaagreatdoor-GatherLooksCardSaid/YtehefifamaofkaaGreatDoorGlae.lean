import Derived.Test.YtehefifamaofkaaGreatDoorGlad
import Derived.Deep.DeepCutAuto
namespace Go.Proofs.YtehefifamaofkaaGreatDoor
set_option maxHeartbeats 8000000
open Go.Proofs.Tryz
open Go.RowKit
set_option linter.unusedVariables false
set_option maxRecDepth 100000
def dr (x : Ros) : List Value := [.int .i64 x.m, .int .i64 x.s, .int .i64 x.r]
def aS (x : Ros) : List Value := .int .i64 x.m :: .int .i64 x.s :: .int .i64 x.r :: (vals x.st.toList ++ [.int .i64 x.cur, .bool x.gone])
def ros (x : Ros) : Value := .agg (aS x).toArray
def geo (x : Ros) : Value := .agg (dr x).toArray
theorem a9 (x : Ros) : (aS x).length = 21 := by simp [aS, bk]
theorem eV (x : Ros) : ∀ v ∈ aS x, v.oneCell' = true := by
 intro v hv;simp only [aS, List.mem_cons, List.mem_append, List.not_mem_nil, or_false] at hv;rcases hv with rfl | rfl | rfl | hv | rfl | rfl
 ·rfl
 ·rfl
 ·rfl
 ·exact gY _ v hv
 ·rfl
 ·rfl
theorem jT : (prog.info? 35).map (·.size) = some 21 := by kernel_rfl
theorem abt : (prog.info? 32).map (·.size) = some 3 := by kernel_rfl
theorem abU : (prog.info? 33).map (·.size) = some 16 := by kernel_rfl
theorem su : (prog.info? 35).map (fun i => i.zero) = some (some (ros bK)) := by kernel_rfl
theorem ql : (prog.info? 33).map (fun i => i.zero) = some (some (arr (List.replicate 16 0))) := by kernel_rfl
section
variable {ρ : Operand -> Value} {o : Oper} {x y : Operand} {w : World} {b off : Nat}
theorem bq {c : Ros} (ho : o.op = .load 35 x) (hx : ρ x = .pointer (some ⟨b, off, none⟩)) (hc : w.rangeAt b off (aS c)) : (execOp ρ o).run prog w = .ok (.value (ros c)) w :=
 eD underlying35 rfl (by rw [a9]; exact jT) ho hx hc
theorem cu {c : Ros} (ho : o.op = .load 32 x) (hx : ρ x = .pointer (some ⟨b, off, none⟩)) (hc : w.rangeAt b off (dr c)) : (execOp ρ o).run prog w = .ok (.value (geo c)) w :=
 eD underlying32 rfl abt ho hx hc
theorem dQ {l : List UInt8} (hl : l.length = 16) (ho : o.op = .load 33 x) (hx : ρ x = .pointer (some ⟨b, off, none⟩)) (hc : w.rangeAt b off (vals l)) : (execOp ρ o).run prog w = .ok (.value (arr l)) w :=
 eD underlying33 rfl (by rw [bk, hl]; exact abU) ho hx hc
theorem bl {c : Ros} (ho : o.op = .box 35 x) (hx : ρ x = ros c) : (execOp ρ o).run prog w = .ok (.value (.pointer (some ⟨w.heap.size, 0, none⟩))) (w.alloc (.cells (aS c).toArray 35)) := fg ho hx
theorem cn (ho : o.op = .alloc 35) : (execOp ρ o).run prog w = .ok (.value (.pointer (some ⟨w.heap.size, 0, none⟩))) (w.alloc (.cells (aS bK).toArray 35)) := dC su ho
theorem pG (ho : o.op = .alloc 33) : (execOp ρ o).run prog w = .ok (.value (.pointer (some ⟨w.heap.size, 0, none⟩))) (w.alloc (.cells (vals (List.replicate 16 0)).toArray 33)) := dC ql ho
theorem nL {c d : Ros} (ho : o.op = .store 35 x y) (hx : ρ x = .pointer (some ⟨w.heap.size, 0, none⟩)) (hy : ρ y = ros c) : (execOp ρ o).run prog (w.alloc (.cells (aS d).toArray 35)) = .ok .skip (w.alloc (.cells (aS c).toArray 35)) :=
 fZ (by rw [a9]; exact jT) (by rw [a9, a9]) (eV c) ho hx hy
end
theorem py (w : World) (a b : Ros) (d : Nat) : (Op.equalIn (d + 2) 32 (geo a) (geo b)).run prog w = .ok (decide (a.m = b.m /\ a.s = b.s /\ a.r = b.r)) w := by
 have he : ∀ x y : Int, (Op.equalIn (d + 1) 3 (.int .i64 x) (.int .i64 y)).run prog w = .ok (x == y) w := fun x y => run_equalIn_int w d 3 .i64 .i64 x y underlying3
 unfold geo;rw [show d + 2 = (d + 1) + 1 from rfl, run_equalIn_struct w (d + 1) 32 _ _ (by kernel_rfl) (by kernel_rfl)];simp only [Program.fieldsOf, underlying32, Op.eqFields, dr];simp [part, he];by_cases h1 : a.m = b.m <;> by_cases h2 : a.s = b.s <;> by_cases h3 : a.r = b.r <;> simp [h1, h2, h3]
theorem fP (x : Ros) : aS x = dr x ++ (vals x.st.toList ++ [.int .i64 x.cur, .bool x.gone]) := rfl
theorem uv (w : World) (x : Ros) : (part 32 (aS x).toArray 0).run prog w = .ok (geo x) w := by
 simp [part, geo, aS, dr]
theorem t7 (w : World) (x : Ros) : (part 33 (aS x).toArray 3).run prog w = .ok (arr x.st.toList) w := by
 have h : ((aS x).drop 3).take 16 = vals x.st.toList := by
  show (vals x.st.toList ++ [Value.int .i64 x.cur, Value.bool x.gone]).take 16 = _
  rw [List.take_append_of_le_length (by simp [bk]), List.take_of_length_le (by simp [bk])]
 simp [part, arr, h]
theorem uN (w : World) (x : Ros) : (part 3 (aS x).toArray 19).run prog w = .ok (.int .i64 x.cur) w := by
 have h : (aS x)[19]? = some (.int .i64 x.cur) := by
  show (vals x.st.toList ++ [Value.int .i64 x.cur, Value.bool x.gone])[16]? = _
  rw [List.getElem?_append_right (by simp [bk])];simp [bk]
 simp [part, h]
theorem uw (w : World) (x : Ros) : (part 4 (aS x).toArray 20).run prog w = .ok (.bool x.gone) w := by
 have h : (aS x)[20]? = some (.bool x.gone) := by
  show (vals x.st.toList ++ [Value.int .i64 x.cur, Value.bool x.gone])[17]? = _
  rw [List.getElem?_append_right (by simp [bk])];simp [bk]
 simp [part, h]
theorem aaC (w : World) (a b : Ros) (d : Nat) : (Op.equalIn (d + 3) 35 (ros a) (ros b)).run prog w = .ok (decide (a = b)) w := by
 have he := run_equalIn_int (P := prog) w (d + 1) 3 .i64 .i64 a.cur b.cur underlying3;have hb := run_equalIn_bool' (P := prog) w (d + 1) 4 a.gone b.gone underlying4;have ha := lA underlying33 w a.st.toList b.st.toList (by simp) (by simp) d;have hg := py w a b d;unfold ros;rw [show d + 3 = (d + 2) + 1 from rfl, run_equalIn_struct w (d + 2) 35 _ _ (by kernel_rfl) (by kernel_rfl)];simp only [Program.fieldsOf, underlying35];rw [f9 ?_ (uv w a) (uv w b) hg];rotate_left
 ·simp
 rw [f9 ?_ (t7 w a) (t7 w b) ha];rotate_left
 ·simp
 rw [f9 ?_ (uN w a) (uN w b) he];rotate_left
 ·simp
 rw [f9 ?_ (uw w a) (uw w b) hb];rotate_left
 ·simp
 rw [ux];clear he hb ha hg;by_cases k1 : a.m = b.m /\ a.s = b.s /\ a.r = b.r
 ·by_cases k2 : a.st.toList = b.st.toList
  ·by_cases k3 : a.cur = b.cur
   ·by_cases k4 : a.gone = b.gone
    ·rw [am k1, am k2, am (ul k1 k2 k3 k4), k3, k4];simp
    ·rw [am k1, am k2, al (fun e : a = b => k4 (by rw [e])), k3, ar k4];simp
   ·rw [am k1, am k2, al (fun e : a = b => k3 (by rw [e])), ar k3];simp
  ·rw [am k1, al k2, al (fun e : a = b => k2 (by rw [e]))];simp
 ·rw [al k1, al (fun e : a = b => k1 (by rw [e]; exact ⟨rfl, rfl, rfl⟩))];simp
section
variable {ρ : Operand -> Value} {o : Oper} {x y : Operand} {w : World} {t : TypeId}
theorem aaD : prog.eqGuardType prog.depth 33 = false := by kernel_rfl
theorem oL {a b : List UInt8} (c : Bool) (ha : a.length = 16) (hb : b.length = 16) (ho : o.op = .binOp .eql 33 x y t) (hx : ρ x = arr a) (hy : ρ y = arr b) (h : decide (a = b) = c) : (execOp ρ o).run prog w = .ok (.value (.bool c)) w := by
 subst h; exact rE aaD (lA underlying33 w a b ha hb 9998) ho hx hy
theorem ef {l : List UInt8} {j : Nat} (hl : l.length = 16) (hj : j < 16) (ho : o.op = .index 33 x y) (hx : ρ x = arr l) (hy : ρ y = .int .i64 (j : Int)) : (execOp ρ o).run prog w = .ok (.value (.int .u8 (bt l j))) w := by
 have hp : (part 5 (vals l).toArray (j * 1)).run prog w = .ok (.int .u8 (bt l j)) w := by
  have := fT (l := l) (j := j) (by omega);simp [part, this]
 have h : (Instr.index 33 (arr l) (.int .i64 (j : Int))).run prog w = .ok (.int .u8 (bt l j)) w := by
  have e : (0 <= (j : Int) /\ (j : Int) < 16) := by omega
  unfold arr;simp [Instr.index, asIntOf, run_underlying underlying33, Tryz.sizeOf5, hj]
  simpa using hp
 unfold execOp;simp only [ho, hx, hy, Sem.run_bind, h, Result.andThen_ok, Sem.run_pure]
end
def bQ (w : World) (b : Nat) (x : Ros) : Prop := w.heap[b]? = some (.cells (aS x).toArray 35 (0, 0))
section
variable {w w' : World} {b : Nat} {x : Ros}
theorem bQ.range (h : bQ w b x) : w.rangeAt b 0 (aS x) := br h
theorem bQ.geo (h : bQ w b x) : w.rangeAt b 0 (dr x) := ei (cs := aS x) (ds := []) (k := 0) h.range rfl rfl
theorem bQ.sts (h : bQ w b x) : w.rangeAt b 3 (vals x.st.toList) := by
 have := ei (k := 3) h.range (fP x) rfl;rwa [Nat.zero_add] at this
theorem bQ.cells (h : bQ w b x) : w.cell? ⟨b, 0, none⟩ = some (.int .i64 x.m) /\ w.cell? ⟨b, 1, none⟩ = some (.int .i64 x.s) /\ w.cell? ⟨b, 2, none⟩ = some (.int .i64 x.r) /\ w.cell? ⟨b, 19, none⟩ = some (.int .i64 x.cur) /\ w.cell? ⟨b, 20, none⟩ = some (.bool x.gone) := by
 have hr := ei (k := 19) (ds := dr x ++ vals x.st.toList) (es := [.int .i64 x.cur, .bool x.gone]) (fs := []) h.range (by simp [fP]) (by simp [dr, bk]);exact ⟨h.range 0 _ rfl, h.range 1 _ rfl, h.range 2 _ rfl, hr 0 _ rfl, hr 1 _ rfl⟩
theorem bQ.sta (h : bQ w b x) {j : Nat} (hj : j < 16) : w.cell? ⟨b, 3 + j, none⟩ = some (.int .u8 (sta x j)) := h.sts j _ (fT (by simpa using hj))
theorem bQ.below {B : Nat} (h : bQ w b x) (hB : b < B) (hb : Below B w w') : bQ w' b x := lM h hB hb
theorem bQ.new (w : World) (x : Ros) : bQ (w.alloc (.cells (aS x).toArray 35)) w.heap.size x := heap_alloc_new w _
theorem bQ.past (h : bQ w b x) (o : Obj) : bQ (w.alloc o) b x := bO h o
theorem bQ.rd (h : bQ w b x) {m : Nat} (hm : m <= 16) : Rd w w.heap.size (some ⟨b, 3, none⟩) m (x.st.toList.take m) :=
 ⟨by simp; omega, fun k hk => ⟨b, 3, rfl, aY h, by
  rw [h.sta (j := k) (by omega)];unfold Proofs.YtehefifamaofkaaGreatDoor.sta bt;simp [List.getD, List.getElem?_take_of_lt hk]⟩⟩
end
theorem dm (w : World) (x : Ros) : bQ (w.alloc (.cells (aS x).toArray 35)) w.heap.size x /\ Below w.heap.size w (w.alloc (.cells (aS x).toArray 35)) /\ w.heap.size < (w.alloc (.cells (aS x).toArray 35)).heap.size :=
 ⟨bQ.new w x, (Below.refl w.heap.size w).alloc ai _, by simp only [World.size_alloc]; omega⟩
section
variable {w : World} {b off : Nat}
theorem kP : (Instr.fieldAt 35 (.pointer (some ⟨b, 0, none⟩)) 0).run prog w = .ok (.pointer (some ⟨b, 0, none⟩)) w := by kernel_rfl
theorem iz : (Instr.fieldAt 35 (.pointer (some ⟨b, 0, none⟩)) 1).run prog w = .ok (.pointer (some ⟨b, 3, none⟩)) w := by kernel_rfl
theorem pd : (Instr.fieldAt 32 (.pointer (some ⟨b, 0, none⟩)) 0).run prog w = .ok (.pointer (some ⟨b, 0, none⟩)) w := by kernel_rfl
theorem jR {g off j : Nat} (hj : j < 16) : (Instr.indexAt 33 (.pointer (some ⟨g, off, none⟩)) (.int .i64 (j : Int))).run prog w = .ok (.pointer (some ⟨g, off + j, none⟩)) w := by
 have e : (0 <= (j : Int) /\ (j : Int) < 16) := by omega
 simp [Instr.indexAt, Instr.sureAddr, asIntOf, run_underlying underlying33, Tryz.sizeOf5, Addr.add_mid, e, hj]
theorem tw {b : Nat} : (Instr.fieldAt 35 (.pointer (some ⟨b, 0, none⟩)) 2).run prog w = .ok (.pointer (some ⟨b, 19, none⟩)) w := by kernel_rfl
theorem xO {b : Nat} : (Instr.fieldAt 32 (.pointer (some ⟨b, 0, none⟩)) 1).run prog w = .ok (.pointer (some ⟨b, 1, none⟩)) w := by kernel_rfl
end
theorem qF (l x : List UInt8) (off : Nat) : splice (vals l) off (vals x) = vals (splice l off x) := by
 unfold splice vals;simp [List.map_take, List.map_drop]
def cr (w : World) (g : Nat) (t : TypeId) (l : List UInt8) : Prop := w.heap[g]? = some (.cells (vals l).toArray t (0, 0))
section
variable {w w' : World} {g : Nat} {t : TypeId} {l : List UInt8}
theorem cr.lt (h : cr w g t l) : g < w.heap.size := (Array.getElem?_eq_some_iff.1 h).1
theorem cr.below {B : Nat} (h : cr w g t l) (hB : g < B) (hb : Below B w w') : cr w' g t l := (hb.block g hB).trans h
theorem cr.grown {k : Nat} (h : cr w g t l) (hk : g ≠ k) (hb : w.grownBy w' (some k)) : cr w' g t l := (hb.block g h.lt (fun e => hk (by injection e))).trans h
theorem cr.draw (h : cr w g t l) : cr w.drew g t l := h
theorem cr.past (h : cr w g t l) (o : Obj) : cr (w.alloc o) g t l := bO h o
theorem cr.cell (h : cr w g t l) {j : Nat} (hj : j < l.length) : w.cell? ⟨g, j, none⟩ = some (.int .u8 (bt l j)) := by
 rw [cell_of_row w g j _ t (0, 0) h, List.getElem?_toArray, fT hj]
theorem cr.rd (h : cr w g t l) {p k : Nat} (hp : p + k <= l.length) : Rd w w.heap.size (some ⟨g, p, none⟩) k (piece l p k) :=
 ⟨co hp, fun j hj => ⟨g, p, rfl, h.lt, by rw [h.cell (by omega), gh hj]⟩⟩
theorem cr.range (h : cr w g t l) (hl : l.length = 64) : w.rangeAt g 0 (cel (ofL l)) := fun j v hj => by
 have hlt : j < 64 := by have := (List.getElem?_eq_some_iff.1 hj).1; rwa [aL] at this
 rw [Nat.zero_add, h.cell (by omega), <- hj, kg _ hlt, mh _ hlt]
theorem cr.new (w : World) (l : List UInt8) (t : TypeId) : cr (w.alloc (.cells (vals l).toArray t)) w.heap.size t l := heap_alloc_new w _
theorem cr.blk (w : World) (b : Blk) (t : TypeId) : cr (w.alloc (.cells (cel b).toArray t)) w.heap.size t b.toList := heap_alloc_new w _
theorem cr.row (h : cr w g t l) : w.rowIs g t l.length (fun j => .int .u8 (bt l j)) :=
 ⟨_, h, by simp [bk], fun j hj => by rw [List.getElem?_toArray, fT hj]⟩
end
theorem eJ {w : World} {ops : Array Oper} {rest : List Oper} {o : Oper} {a : Act} {Q : Exit -> Act -> World -> Prop} (hgd : o.guard = none) (d s : Operand)
  (ho : o.op = .call { callee := .builtin .copy, args := #[d, s], argTypes := #[116, 116] }) (g off n c m c' N : Nat) (A : Option Addr) (t : TypeId) (l x : List UInt8)
  (hd : a.eval d = .slice (some ⟨g, off, none⟩) n c) (hs : a.eval s = .slice A m c') (hS : cr w g t l) (hr : Rd w N A m x) (hmn : m <= n) (hfit : off + m <= l.length)
  (h : ∀ w', cr w' g t (splice l off x) -> w.grownBy w' (some g) -> wpList prog ops Q rest (a.put o.dst (goInt m)) w') : wpList prog ops Q (o :: rest) a w := by
 have hx := hr.1;rcases A with _ | ad
 ·have h0 : m = 0 := by
   rcases Nat.eq_zero_or_pos m with h | h
   ·exact h
   ·obtain ⟨b, off, e, _⟩ := hr.2 0 h;cases e
  subst h0;obtain rfl : x = [] := List.eq_nil_of_length_eq_zero hx;refine wpList_copy_nothing hgd d s _ _ ho 5 underlying116 (by kernel_rfl) _ _ _ _ _ _ hd hs (Nat.zero_min _) ?_;exact h w (by simpa [splice] using hS) (World.grownBy.refl w _)
 ·have hcl : (vals x).length = m := by rw [bk, hx]
  refine wpList_copy_own hgd d s _ _ ho 5 underlying116 (by kernel_rfl) g off n c ad m c' hd hs _ t hS (vals x) (by rw [hcl]; exact (Nat.min_eq_left hmn).symm) (fun j v hj => ?_) (by simp [hcl, bk]; omega) (gY x) ?_
  ·have hlt : j < m := by have := (List.getElem?_eq_some_iff.1 hj).1; omega
   obtain ⟨b, o2, e, _, hc⟩ := hr.2 j hlt;injection e with e;subst e;rw [Addr.add_mid, hc, <- hj, fT (by omega)]
  ·have hrow := setRow_heap w g (vals l).toArray ((vals l).toArray.toList.take off ++ (vals x ++ (vals l).toArray.toList.drop (off + (vals x).length))).toArray t (0, 0) hS;have e : (vals l).toArray.toList.take off ++ (vals x ++ (vals l).toArray.toList.drop (off + (vals x).length)) = vals (splice l off x) := by
    rw [<- qF]
    rfl
   rw [hcl];rw [hcl] at hrow e;refine h _ ?_ ⟨rfl, rfl, rfl, by simp [World.setRow], fun k hk hne => setRow_other w g k _ (fun e => hne (by rw [e]))⟩;unfold cr;rw [e] at hrow ⊢;exact hrow
theorem max_u32 : IntKind.u32.max = 4294967295 := by decide
theorem ky (r : Nat) (h : r < 4294967296) : bits .xor .u32 IntKind.u32.max (r : Int) = ((neg r : Nat) : Int) := by
 rw [max_u32];exact u32_xor_nat 4294967295 r (by omega) h
theorem rk (r : Nat) (l : List UInt8) {k : Nat} (h : k < l.length) : tak (run r (l.take k)) l[k].toNat = run r (l.take (k + 1)) := by
 rw [List.take_succ_eq_append_getElem h, sL]
 rfl
theorem xJ (s : Nat) (A : Option Addr) (n c N : Nat) (b : List UInt8) (w : World) (T : Tab w) (hs : s < 4294967296) (hb : Rd w N A n b) (hn : n <= maxLen) :
  Calls prog 148 #[.int .u32 s, .slice A n c] w fun e w' => e = .returned (.int .u32 (more s b)) /\ w = w' := by
 have hnb := ky s hs;have hnl := pz hs;have hlen := hb.1;unfold maxLen at hn;have HL := ae hlen;clear hlen;go_enter func148, ntmps148;go_wp2;clear hnb;have HM : Hid (more s b = neg (run (neg s) b)) := ae rfl;generalize neg s = r0 at *
 go_loop [5, 12] (fun x i => ∃ j : Nat, j <= n /\ i = .int .i64 j /\ x = .int .u32 (run r0 (b.take j))) (fun _ i => n - (intOf i).toNat)
 case atStart => exact ⟨0, by omega, rfl, rfl⟩
 case round =>
  obtain ⟨j, hj, rfl, rfl⟩ := hrel;by_cases hlt : j < n
  ·obtain ⟨bA, oA, rfl, hA, cA⟩ := hb.2 j hlt;have hjl : j < b.length := by have := HL.out; omega
   rw [cZ hjl] at cA;have HS := ae (rk r0 b hjl);have hu := UInt8.toNat_lt b[j];generalize b[j].toNat = u at *;have hrl := mM hnl (b.take j);go_wp2_with fail;refine (yV (run r0 (b.take j)) u _ T hrl hu).mono ?_;rintro e w' ⟨rfl, rfl⟩;go_wp2
   go_round
   case rel => exact ⟨j + 1, by omega, by go_num, by rw [HS.out]⟩
   case measure => simp [intOf]; omega
  ·have h : j = n := by omega
   subst h;have ht : b.take j = b := List.take_of_length_le (Nat.le_of_eq HL);rw [ht];have hrl := mM hnl b;have hnb := ky (run r0 b) hrl;clear ht;go_wp2;go_ret;exact ⟨bP (by first | rw [HM.out] | rw [HM.out, hnb]), rfl⟩
theorem pV (s : Nat) (A : Option Addr) (n c N : Nat) (b : List UInt8) (w : World) (hs : s < 4294967296) (hb : Rd w N A n b) (hn : n <= maxLen) :
  Calls prog 115 #[.int .u32 s, .slice A n c] w fun e w' => e = .returned (.int .u32 (more s b)) /\ w = w' := by
 have hnb := ky s hs;have hnl := pz hs;have hlen := hb.1;unfold maxLen at hn;have HL := ae hlen;clear hlen;go_enter func115, ntmps115;go_wp2;clear hnb;have HM : Hid (more s b = neg (run (neg s) b)) := ae rfl;generalize neg s = r0 at *
 go_loop [5, 6] (fun x i => ∃ j : Nat, j <= n /\ i = .int .i64 j /\ x = .int .u32 (run r0 (b.take j))) (fun _ i => n - (intOf i).toNat)
 case atStart => exact ⟨0, by omega, rfl, rfl⟩
 case round =>
  obtain ⟨j, hj, rfl, rfl⟩ := hrel;by_cases hlt : j < n
  ·obtain ⟨bA, oA, rfl, hA, cA⟩ := hb.2 j hlt;have hjl : j < b.length := by have := HL.out; omega
   rw [cZ hjl] at cA;have HS := ae (rk r0 b hjl);have hu := UInt8.toNat_lt b[j];generalize b[j].toNat = u at *;have hrl := mM hnl (b.take j);go_wp2_with fail;refine (rL (run r0 (b.take j)) u _ hrl hu).mono ?_;rintro e w' ⟨rfl, rfl⟩;go_wp2
   go_round
   case rel => exact ⟨j + 1, by omega, by go_num, by rw [HS.out]⟩
   case measure => simp [intOf]; omega
  ·have h : j = n := by omega
   subst h;have ht : b.take j = b := List.take_of_length_le (Nat.le_of_eq HL);rw [ht];have hrl := mM hnl b;have hnb := ky (run r0 b) hrl;clear ht;go_wp2;go_ret;exact ⟨bP (by first | rw [HM.out] | rw [HM.out, hnb]), rfl⟩
theorem xz (A : Option Addr) (n c N : Nat) (b : List UInt8) (w : World) (T : Tab w) (hb : Rd w N A n b) (hn : n <= maxLen) :
  Calls prog 133 #[.slice A n c] w fun e w' => e = .returned (.int .u32 (more 0 b)) /\ w = w' := by
 go_enter func133, ntmps133;go_wp2_with fail;refine (xJ 0 A n c N b _ T (by omega) hb hn).mono ?_;rintro e w' ⟨rfl, rfl⟩;go_wp2;go_ret;exact ⟨rfl, rfl⟩
theorem lz (A : Option Addr) (n c N : Nat) (b : List UInt8) (w : World) (hb : Rd w N A n b) (hn : n <= maxLen) :
  Calls prog 100 #[.slice A n c] w fun e w' => e = .returned (.int .u32 (more 0 b)) /\ w = w' := by
 go_enter func100, ntmps100;go_wp2_with fail;refine (pV 0 A n c N b _ (by omega) hb hn).mono ?_;rintro e w' ⟨rfl, rfl⟩;go_wp2;go_ret;exact ⟨rfl, rfl⟩
section
variable {ρ : Operand -> Value} {o : Oper} {x y z u : Operand} {w : World} {t : TypeId} {p q a b c : Value}
theorem fV (ho : o.op = .slice t x (some y) (some z) (some u)) (hx : ρ x = p) (hy : ρ y = a) (hz : ρ z = b) (hu : ρ u = c) (h : (Instr.sliceAt t p (some a) (some b) (some c)).run prog w = .ok q w) : (execOp ρ o).run prog w = .ok (.value q) w := by
 unfold execOp;simp only [ho, hx, hy, hz, hu, Option.map_some, Sem.run_bind, h, Result.andThen_ok, Sem.run_pure]
end
section
variable (g : Nat) (w : World)
theorem kG {i j k : Nat} (h1 : i <= j) (h2 : j <= k) (h3 : k <= 64) (h4 : i < k) : (Instr.sliceAt 29 (.pointer (some ⟨g, 0, none⟩)) (some (.int .i64 (i : Int))) (some (.int .i64 (j : Int))) (some (.int .i64 (k : Int)))).run prog w = .ok (.slice (some ⟨g, i, none⟩) (j - i) (k - i)) w := by
 have e1 : (0 <= (k : Int) /\ (k : Int) <= 64) := by omega
 have e2 : (0 <= (j : Int) /\ (j : Int) <= (k : Int)) := by omega
 have e3 : (0 <= (i : Int) /\ (i : Int) <= (j : Int)) := by omega
 have e4 : k ≠ i := by omega
 simp [Instr.sliceAt, Instr.sliceBounds, Instr.sliceBound, Instr.sureAddr, asIntOf, run_underlying pi, Tryz.sizeOf5, Addr.add_mid, e1, e2, e3, e4, h1, h2, h3]
theorem adg : (Instr.sliceAt 29 (.pointer (some ⟨g, 0, none⟩)) (some (.int .i64 0)) (some (.int .i64 8)) (some (.int .i64 8))).run prog w = .ok (.slice (some ⟨g, 0, none⟩) 8 8) w := kG g w (i := 0) (j := 8) (k := 8) (by omega) (by omega) (by omega) (by omega)
theorem ac8 : (Instr.sliceAt 29 (.pointer (some ⟨g, 0, none⟩)) (some (.int .i64 8)) (some (.int .i64 52)) (some (.int .i64 52))).run prog w = .ok (.slice (some ⟨g, 8, none⟩) 44 44) w := kG g w (i := 8) (j := 52) (k := 52) (by omega) (by omega) (by omega) (by omega)
theorem adB : (Instr.sliceAt 29 (.pointer (some ⟨g, 0, none⟩)) (some (.int .i64 52)) (some (.int .i64 56)) (some (.int .i64 56))).run prog w = .ok (.slice (some ⟨g, 52, none⟩) 4 4) w := kG g w (i := 52) (j := 56) (k := 56) (by omega) (by omega) (by omega) (by omega)
theorem adh : (Instr.sliceAt 29 (.pointer (some ⟨g, 0, none⟩)) (some (.int .i64 56)) (some (.int .i64 64)) (some (.int .i64 64))).run prog w = .ok (.slice (some ⟨g, 56, none⟩) 8 8) w := kG g w (i := 56) (j := 64) (k := 64) (by omega) (by omega) (by omega) (by omega)
theorem adO : (Instr.sliceAt 29 (.pointer (some ⟨g, 0, none⟩)) (some (.int .i64 0)) (some (.int .i64 52)) (some (.int .i64 52))).run prog w = .ok (.slice (some ⟨g, 0, none⟩) 52 52) w := kG g w (i := 0) (j := 52) (k := 52) (by omega) (by omega) (by omega) (by omega)
end
section
variable {ρ : Operand -> Value} {o : Oper} {x y : Operand} {w : World} {t : TypeId} {old cs : Array Value}
theorem sY (hz : (prog.info? t).map (·.size) = some cs.size) (he : old.size = cs.size) (h1 : cs.toList.all Value.oneCell' = true) (ho : o.op = .store t x y) (hx : ρ x = .pointer (some ⟨w.heap.size, 0, none⟩)) (hy : ρ y = .agg cs) :
  (execOp ρ o).run prog (w.alloc (.cells old t)).drew = .ok .skip (w.alloc (.cells cs t)).drew := kn (w := w.drew) hz he h1 ho hx hy
end
theorem vB {ρ : Operand -> Value} {o : Oper} {w : World} {t : TypeId} {v : Value} {x0 x1 x2 x3 x4 : Operand} {y0 y1 y2 y3 y4 : Value} (ho : o.op = .build t #[(0, x0), (1, x1), (2, x2), (3, x3), (4, x4)]) (h0 : ρ x0 = y0) (h1 : ρ x1 = y1) (h2 : ρ x2 = y2) (h3 : ρ x3 = y3) (h4 : ρ x4 = y4)
  (h : (Instr.build t #[(0, y0), (1, y1), (2, y2), (3, y3), (4, y4)]).run prog w = .ok v w) : (execOp ρ o).run prog w = .ok (.value v) w := by
 subst h0 h1 h2 h3 h4;unfold execOp;simp only [ho, List.map_toArray, List.map_cons, List.map_nil, Sem.run_bind, h, Result.andThen_ok, Sem.run_pure]
theorem zz {fn : Func} {p : Tmp} {t : TypeId} {cs : Array Value} {d : TypeDesc} (h0 : fn.results = #[.cell p t]) (tmps : Array Value) (w : World) (b : Nat) (hp : tmps.getD p undef = .pointer (some ⟨b, 0, none⟩)) (h : w.heap[b]? = some (.cells cs t (0, 0))) (hu : prog.underlying t = some d) (hd : d.isRow = true) (hz : (prog.info? t).map (·.size) = some cs.size) :
  (results fn tmps).run prog w = .ok (.agg cs) w := by
 have hr : w.rangeAt b 0 cs.toList := fun j v hj => by
  rw [cell_of_row w b (0 + j) cs t (0, 0) h, Nat.zero_add]
  simpa using hj
 have hl : (loadVar t ⟨b, 0, none⟩).run prog w = .ok (.agg cs) w := by
  have := run_loadVar_mid (P := prog) w b 0 t cs.toList d hr hu hd (by simpa using hz)
  simpa using this
 have hp' : tmps[p]?.getD undef = .pointer (some ⟨b, 0, none⟩) := by simpa using hp
 simp [results, h0, hp', asAddr, hl]
theorem nv {w w' : World} {row : Option Nat} (hb : Below w.heap.size w w') : w.grownBy w' row := ⟨hb.os, hb.tape, hb.output, hb.size, fun k hk _ => hb.block k hk⟩
def fq (g : Nat) : Array Value := #[.slice (some ⟨g, 0, none⟩) 8 8, .slice (some ⟨g, 8, none⟩) 44 44, .slice (some ⟨g, 52, none⟩) 4 4, .slice (some ⟨g, 56, none⟩) 8 8, .slice (some ⟨g, 0, none⟩) 52 52]
theorem acL (g : Nat) (w : World) : (Instr.build 171 #[(0, .slice (some ⟨g, 0, none⟩) 8 8), (1, .slice (some ⟨g, 8, none⟩) 44 44), (2, .slice (some ⟨g, 52, none⟩) 4 4), (3, .slice (some ⟨g, 56, none⟩) 8 8), (4, .slice (some ⟨g, 0, none⟩) 52 52)]).run prog w = .ok (.agg (fq g)) w := by kernel_rfl
theorem kC (g : Nat) (w : World) : Calls prog 131 #[.pointer (some ⟨g, 0, none⟩)] w fun e w' => e = .returned (.agg #[.slice (some ⟨g, 0, none⟩) 8 8, .slice (some ⟨g, 8, none⟩) 44 44, .slice (some ⟨g, 52, none⟩) 4 4, .slice (some ⟨g, 56, none⟩) 8 8, .slice (some ⟨g, 0, none⟩) 52 52]) /\ Below w.heap.size w w' := by
 go_enter func131, ntmps131;go_wp2_with fail;refine wp_region_still_tail 15 (by kernel_rfl) (by kernel_rfl) ?_;simp only [ac];refine aM rfl (aJ rfl aez) ?_;simp only [aa];refine aM rfl (cE rfl aez) ?_;simp only [aa];refine aM rfl (fV rfl aez evk evk evk (adg g _)) ?_;simp only [aa];refine aM rfl (aJ rfl aez) ?_;simp only [aa];refine aM rfl (cE rfl aez) ?_;simp only [aa];refine aM rfl (fV rfl aez evk evk evk (ac8 g _)) ?_;simp only [aa];refine aM rfl (aJ rfl aez) ?_;simp only [aa];refine aM rfl (cE rfl aez) ?_;simp only [aa];refine aM rfl (fV rfl aez evk evk evk (adB g _)) ?_;simp only [aa];refine aM rfl (aJ rfl aez) ?_;simp only [aa];refine aM rfl (cE rfl aez) ?_;simp only [aa];refine aM rfl (fV rfl aez evk evk evk (adh g _)) ?_;simp only [aa];refine aM rfl (aJ rfl aez) ?_;simp only [aa];refine aM rfl (cE rfl aez) ?_;simp only [aa];refine aM rfl (fV rfl aez evk evk evk (adO g _)) ?_;simp only [aa];refine wpStill_nil ?_;change wpList _ _ _ _ _ (World.drew _);refine aeq rfl (vB (v := .agg (fq g)) rfl aez aez aez aez aez (acL g _)) ?_;refine bj rfl (sY (w := w) (cs := fq g) ?s1 ?s2 ?s3 rfl (ev rfl) (ev rfl)) ?_
 case s1 => kernel_rfl
 case s2 => rfl
 case s3 => rfl
 refine ag ?_;go_wp2_with fail;refine bodyPost_ret (zz (cs := fq g) (t := 171) rfl _ _ w.heap.size rfl ?h1 underlying171 rfl ?h2) rfl ⟨rfl, ?h3⟩
 case h1 => exact heap_alloc_new w.drew _
 case h2 => kernel_rfl
 case h3 => exact bd ((Below.refl _ w).alloc ai _)
theorem fp {b : List UInt8} {n : Nat} (h : b.length = n) : piece b 0 n = b := by
 subst h;simp [piece]
theorem fF (A : Option Addr) (n c N : Nat) (b : List UInt8) (w : World) (hb : Rd w N A n b) (h1 : 1 <= n) (h2 : n <= 8) :
  Calls prog 135 #[.slice A n c] w fun e w' => e = .returned (.int .u64 (val 8 b)) /\ w = w' := by
 have hp := fp hb.1;have HP := ae hp;clear hp;go_enter func135, ntmps135;go_wp2_with fail;refine (xM A n c N b 0 n _ hb (by unfold maxLen; omega) h1 h2 (by omega)).mono ?_;rintro e w' ⟨rfl, rfl⟩;rw [HP.out];go_wp2;go_ret;exact ⟨rfl, rfl⟩
theorem pm (g off k n : Nat) (t : TypeId) (l : List UInt8) (w : World) (hs : cr w g t l) (h1 : 1 <= k) (h2 : k <= 8) (ho : off + k <= l.length) (hn : n < 256 ^ k) :
  Calls prog 132 #[.slice (some ⟨g, off, none⟩) k k, .int .u64 n] w fun e w' => e = .returned (.tuple #[]) /\ cr w' g t (splice l off (aU 8 k n)) /\ w.grownBy w' (some g) := by
 have HS := ae hs;have HL := ae (aD 8 k n);clear hs;go_enter func132, ntmps132;go_wp2_with fail;refine (xy n k w h1 h2 hn).mono ?_;rintro e w1 ⟨v, rfl, hv, hb⟩;obtain ⟨A, c, rfl, hrd, _, _⟩ := hv.made.open_ HL;have HR := ae hrd;have HS1 := ae (HS.out.below HS.out.lt hb);have HB := ae hb;clear hv hrd hb;go_wp2_with (with_reducible refine eJ rfl _ _ rfl g off k k k c _ A t l (aU 8 k n) rfl rfl HS1.out HR.out (Nat.le_refl _) ho ?_);intro w2 hr2 hg2;have HR2 := ae hr2;have HG2 := ae hg2;clear hr2 hg2;go_wp2
 go_end0
 exact ⟨rfl, HR2, (nv HB).trans HG2⟩
theorem abE {b : List UInt8} {j : Nat} : bt (dM b) j = if j < b.length then bt b j else 0 := by
 unfold dM
 split
 ·rename_i h; exact eH h
 ·rename_i h; rw [eK (by omega), km]
theorem uB {n : Nat} {b : List UInt8} {j : Nat} : bt (dl n b) j = if j < 8 then bt (aU 8 8 n) j else if j < 8 + b.length then bt b (j - 8) else 0 := by
 unfold dl
 split
 ·rename_i h; exact eH (by rw [aD]; exact h)
 ·rename_i h
  rw [eK (by rw [aD]; omega), aD, abE];by_cases h2 : j < 8 + b.length
  ·rw [if_pos (by omega), if_pos h2]
  ·rw [if_neg (by omega), if_neg h2]
theorem aau {n : Nat} {b : List UInt8} {j : Nat} (hb : b.length <= 44) : bt (cY n b) j = if j < 52 then bt (dl n b) j else if j < 56 then bt (aU 8 4 (more 0 (dl n b))) (j - 52) else bt (aU 8 8 n) (j - 56) := by
 have h52 := dW n hb;unfold cY
 split
 ·rename_i h; exact eH (by omega)
 ·rename_i h
  rw [eK (by omega), h52]
  split
  ·rename_i h2; exact eH (by rw [aD]; omega)
  ·rename_i h2; rw [eK (by rw [aD]; omega), aD, show j - 52 - 4 = j - 56 from by omega]
def kV (n : Nat) (b : List UInt8) : List UInt8 := splice (splice (splice aF.toList 0 (aU 8 8 n)) 56 (aU 8 8 n)) 8 b
theorem ml (n : Nat) : (splice aF.toList 0 (aU 8 8 n)).length = 64 := by rw [length_splice _ _ _ (by simp [aD])]; simp
theorem mB (n : Nat) : (splice (splice aF.toList 0 (aU 8 8 n)) 56 (aU 8 8 n)).length = 64 := by rw [length_splice _ _ _ (by rw [ml, aD]; omega), ml]
section
variable {n : Nat} {b : List UInt8} (hb : b.length <= 44)
include hb
theorem fU : (kV n b).length = 64 := by unfold kV; rw [length_splice _ _ _ (by rw [mB]; omega), mB]
theorem ry {j : Nat} : bt (kV n b) j = if 8 <= j /\ j < 8 + b.length then bt b (j - 8) else if 56 <= j /\ j < 64 then bt (aU 8 8 n) (j - 56) else if j < 8 then bt (aU 8 8 n) j else 0 := by
 unfold kV;have hz : bt aF.toList j = 0 := by
  have : aF.toList = List.replicate 64 0 := by decide
  rw [this, km]
 rw [gV (by rw [mB]; omega), gV (by rw [ml, aD]; omega), gV (by simp [aD]), aD, hz]
 congr 2
 by_cases h : j < 8
 ·rw [if_pos (by omega), if_pos h, Nat.sub_zero]
 ·rw [if_neg (by omega), if_neg h]
theorem tK : piece (kV n b) 0 52 = dl n b := by
 refine eB (by rw [co (by rw [fU hb]; omega), dW n hb]) fun j hj => ?_
 rw [co (by rw [fU hb]; omega)] at hj;rw [gh hj, Nat.zero_add, ry hb, uB];by_cases h8 : j < 8
 ·rw [if_neg (by omega), if_neg (by omega), if_pos h8, if_pos h8]
 ·by_cases h2 : j < 8 + b.length
  ·rw [if_pos (by omega), if_neg h8, if_pos h2]
  ·rw [if_neg (by omega), if_neg (by omega), if_neg h8, if_neg h8, if_neg h2]
theorem rX : splice (kV n b) 52 (aU 8 4 (more 0 (dl n b))) = cY n b := by
 have h64 := fU (n := n) hb;refine eB (by rw [length_splice _ _ _ (by rw [h64, aD]; omega), h64, fQ n hb]) fun j hj => ?_
 rw [length_splice _ _ _ (by rw [h64, aD]; omega), h64] at hj;rw [gV (by rw [h64, aD]; omega), aau hb, aD, ry hb, uB];by_cases h52 : j < 52
 ·rw [if_neg (by omega), if_pos h52];by_cases h8 : j < 8
  ·rw [if_neg (by omega), if_neg (by omega), if_pos h8, if_pos h8]
  ·by_cases h2 : j < 8 + b.length
   ·rw [if_pos (by omega), if_neg h8, if_pos h2]
   ·rw [if_neg (by omega), if_neg (by omega), if_neg h8, if_neg h8, if_neg h2]
 ·by_cases h56 : j < 56
  ·rw [if_pos (by omega), if_neg h52, if_pos h56]
  ·rw [if_neg (by omega), if_neg h52, if_neg h56, if_neg (by omega), if_pos (by omega)]
end
theorem cells5 {w : World} {b : Nat} {t : TypeId} {x y z u v : Value} (h : w.heap[b]? = some (.cells #[x, y, z, u, v] t (0, 0))) : w.cell? ⟨b, 0, none⟩ = some x /\ w.cell? ⟨b, 1, none⟩ = some y /\ w.cell? ⟨b, 2, none⟩ = some z /\ w.cell? ⟨b, 3, none⟩ = some u /\ w.cell? ⟨b, 4, none⟩ = some v := by
 refine ⟨?_, ?_, ?_, ?_, ?_⟩
 ·rw [cell_of_row w b 0 _ t (0, 0) h]; rfl
 ·rw [cell_of_row w b 1 _ t (0, 0) h]; rfl
 ·rw [cell_of_row w b 2 _ t (0, 0) h]; rfl
 ·rw [cell_of_row w b 3 _ t (0, 0) h]; rfl
 ·rw [cell_of_row w b 4 _ t (0, 0) h]; rfl
def PartsAt (w : World) (p g : Nat) : Prop := w.heap[p]? = some (.cells (fq g) 171 (0, 0))
theorem PartsAt.cells {w : World} {p g : Nat} (h : PartsAt w p g) : w.cell? ⟨p, 0, none⟩ = some (.slice (some ⟨g, 0, none⟩) 8 8) /\ w.cell? ⟨p, 1, none⟩ = some (.slice (some ⟨g, 8, none⟩) 44 44) /\ w.cell? ⟨p, 2, none⟩ = some (.slice (some ⟨g, 52, none⟩) 4 4) /\ w.cell? ⟨p, 3, none⟩ = some (.slice (some ⟨g, 56, none⟩) 8 8) /\ w.cell? ⟨p, 4, none⟩ = some (.slice (some ⟨g, 0, none⟩) 52 52) := cells5 h
theorem PartsAt.grown {w w' : World} {p g k : Nat} (h : PartsAt w p g) (hk : p ≠ k) (hb : w.grownBy w' (some k)) : PartsAt w' p g := (hb.block p (aY h) (fun e => hk (by injection e))).trans h
theorem PartsAt.below {w w' : World} {p g B : Nat} (h : PartsAt w p g) (hB : p < B) (hb : Below B w w') : PartsAt w' p g := lM h hB hb
structure nw (B : Nat) (w w' : World) (r g p : Nat) (l : List UInt8) : Prop where
 res : cr w' r 29 aF.toList
 row : cr w' g 29 l
 par : PartsAt w' p g
 bel : Below B w w'
 r0 : B <= r
 g0 : B <= g
 rg : r ≠ g
 pg : p ≠ g
theorem nw.turn {B : Nat} {w w1 w2 : World} {r g p : Nat} {l l' : List UInt8} (h : nw B w w1 r g p l) (hr : cr w2 g 29 l') (hg : w1.grownBy w2 (some g)) (hB : B <= w.heap.size) : nw B w w2 r g p l' :=
 ⟨h.res.grown h.rg hg, hr, h.par.grown h.pg hg, h.bel.grown hg (ap hB h.bel.size) (fun k hk => by injection hk with e; have := h.g0; omega), h.r0, h.g0, h.rg, h.pg⟩
theorem nw.draw {B : Nat} {w w1 : World} {r g p : Nat} {l : List UInt8} (h : nw B w w1 r g p l) : nw B w w1.drew r g p l := ⟨h.res, h.row, h.par, bd h.bel, h.r0, h.g0, h.rg, h.pg⟩
section
variable {ρ : Operand -> Value} {o : Oper} {x y z : Operand} {w : World} {t : TypeId} {n : Nat} {a : Value} {ad : Addr} {A : Option Addr} {m c : Nat}
theorem lO (ho : o.op = .convert 59 30 x) (hx : ρ x = .int .u32 (n : Int)) (hn : n < 4294967296) : (execOp ρ o).run prog w = .ok (.value (.int .u64 (n : Int))) w := by
 have h : IntKind.u64.wrap (n : Int) = (n : Int) := IntWalk.u64_in _ ⟨by omega, by omega⟩;have hc : (convert 59 30 (.int .u32 (n : Int))).run prog w = .ok (.int .u64 (n : Int)) w := by simp [convert, go_sem, h]
 unfold execOp;simp only [ho, hx, Sem.run_bind, hc, Result.andThen_ok, Sem.run_pure]
theorem ldS (h : w.cell? ad = some (.slice A m c)) : (Instr.loadAt 116 (.pointer (some ad))).run prog w = .ok (.slice A m c) w := by simp [go_sem, h]
theorem ab1 {b : Nat} : (Instr.fieldAt 171 (.pointer (some ⟨b, 0, none⟩)) 2).run prog w = .ok (.pointer (some ⟨b, 2, none⟩)) w := by kernel_rfl
theorem acm {b : Nat} : (Instr.fieldAt 171 (.pointer (some ⟨b, 0, none⟩)) 4).run prog w = .ok (.pointer (some ⟨b, 4, none⟩)) w := by kernel_rfl
end
theorem aaw (m c : Nat) (A : Option Addr) (b : List UInt8) (w : World) (hb : b.length = m) :
  Calls prog 121 #[.int .u64 0, .slice A m c] w fun e w' => e = .returned (.tuple #[blk (dK 0 b), .int .i64 (el 0 b : Nat)]) /\ Below w.heap.size w w' := by
 have hA := (Below.refl w.heap.size w).alloc ai (.cells (cel aF).toArray 29);have HT := ae (ec w aF 29);have HA := ae hA;clear hA;rw [show dK 0 b = aF from rfl, show el 0 b = 2 from rfl];go_enter func121, ntmps121;go_wp2_with (first | (refine av rfl (bw rfl) ?_) | (refine av rfl (cQ (c := aF) (parts := []) rfl rfl) ?_) | (refine bj rfl (bD rfl rfl rfl HT.out) ?_));refine bodyPost_ret (cI rfl _ _ _ rfl (World.rangeAt_setCells_same _ _ _ _ (by rw [aL]; exact HT))) rfl ⟨rfl, below_setCells HA ai _⟩
theorem yT (n m c : Nat) (A : Option Addr) (b : List UInt8) (w : World) (hb : b.length = m) (h0 : 0 < n) (hm : 44 < m) (hm2 : m <= maxLen) :
  Calls prog 121 #[.int .u64 n, .slice A m c] w fun e w' => e = .returned (.tuple #[blk (dK n b), .int .i64 (el n b : Nat)]) /\ Below w.heap.size w w' := by
 have hA := (Below.refl w.heap.size w).alloc ai (.cells (cel aF).toArray 29);have HT := ae (ec w aF 29);have HA := ae hA;have hE : el n b = 3 := by unfold el; rw [if_neg (by omega), if_pos (by omega)]
 have hB : dK n b = aF := by unfold dK; rw [hE]; rfl
 rw [hE, hB];unfold maxLen at hm2;clear hA hE hB hb;have hz : ((n : Int) == 0) = false := by simp; omega
 go_enter func121, ntmps121;go_wp2_with (first | (refine av rfl (bw rfl) ?_) | (refine av rfl (cQ (c := aF) (parts := []) rfl rfl) ?_) | (refine bj rfl (bD rfl rfl rfl HT.out) ?_));refine bodyPost_ret (cI rfl _ _ _ rfl (World.rangeAt_setCells_same _ _ _ _ (by rw [aL]; exact HT))) rfl ⟨rfl, below_setCells HA ai _⟩
theorem nA {a x : List UInt8} (h : a.length + x.length <= 44) : splice (dM a) a.length x = dM (a ++ x) := by
 unfold splice dM;rw [List.take_append_of_le_length ai, List.take_length, List.drop_append];rw [List.drop_of_length_le (by omega), List.nil_append, List.drop_replicate, List.append_assoc, List.length_append]
 congr 3
 omega
def z44 : List UInt8 := List.replicate 44 0
theorem sU : z44.length = 44 := rfl
def aN (x : Sup) : List Value := .int .u64 x.id :: .int .i64 x.self :: aS x.ros
def sup (x : Sup) : Value := .agg (aN x).toArray
theorem aA (x : Sup) : (aN x).length = 23 := by simp [aN, a9]
theorem kH (x : Sup) : ∀ v ∈ aN x, v.oneCell' = true := by
 intro v hv;simp only [aN, List.mem_cons] at hv;rcases hv with rfl | rfl | hv
 ·rfl
 ·rfl
 ·exact eV _ v hv
theorem dj : (prog.info? 37).map (·.size) = some 23 := by kernel_rfl
theorem lK : (prog.info? 162).map (·.size) = some 44 := by kernel_rfl
theorem sK : (prog.info? 37).map (fun i => i.zero) = some (some (sup aT)) := by kernel_rfl
theorem rG : (prog.info? 162).map (fun i => i.zero) = some (some (arr z44)) := by kernel_rfl
section
variable {ρ : Operand -> Value} {o : Oper} {x y : Operand} {w : World} {b off : Nat}
theorem bz {c : Sup} (ho : o.op = .load 37 x) (hx : ρ x = .pointer (some ⟨b, off, none⟩)) (hc : w.rangeAt b off (aN c)) : (execOp ρ o).run prog w = .ok (.value (sup c)) w :=
 eD underlying37 rfl (by rw [aA]; exact dj) ho hx hc
theorem gC {l : List UInt8} (hl : l.length = 44) (ho : o.op = .load 162 x) (hx : ρ x = .pointer (some ⟨b, off, none⟩)) (hc : w.rangeAt b off (vals l)) : (execOp ρ o).run prog w = .ok (.value (arr l)) w :=
 eD underlying162 rfl (by rw [bk, hl]; exact lK) ho hx hc
theorem ed {c : Sup} (ho : o.op = .box 37 x) (hx : ρ x = sup c) : (execOp ρ o).run prog w = .ok (.value (.pointer (some ⟨w.heap.size, 0, none⟩))) (w.alloc (.cells (aN c).toArray 37)) := fg ho hx
theorem aW (ho : o.op = .alloc 37) : (execOp ρ o).run prog w = .ok (.value (.pointer (some ⟨w.heap.size, 0, none⟩))) (w.alloc (.cells (aN aT).toArray 37)) := dC sK ho
theorem kv (ho : o.op = .alloc 162) : (execOp ρ o).run prog w = .ok (.value (.pointer (some ⟨w.heap.size, 0, none⟩))) (w.alloc (.cells (vals z44).toArray 162)) := dC rG ho
theorem bW {c d : Sup} (ho : o.op = .store 37 x y) (hx : ρ x = .pointer (some ⟨w.heap.size, 0, none⟩)) (hy : ρ y = sup c) : (execOp ρ o).run prog (w.alloc (.cells (aN d).toArray 37)) = .ok .skip (w.alloc (.cells (aN c).toArray 37)) :=
 fZ (by rw [aA]; exact dj) (by rw [aA, aA]) (kH c) ho hx hy
theorem bN {c : Sup} (ho : o.op = .store 37 x y) (hx : ρ x = .pointer (some ⟨b, off, none⟩)) (hy : ρ y = sup c) (ht : w.there b off 23) : (execOp ρ o).run prog w = .ok .skip (w.setCells b off (aN c)) :=
 dq (by rw [aA]; exact dj) (kH c) ho hx hy (by rw [aA]; exact ht)
theorem yB (w : World) : (Instr.build 37 #[]).run prog w = .ok (sup aT) w := by kernel_rfl
theorem cG (ho : o.op = .build 37 #[]) : (execOp ρ o).run prog w = .ok (.value (sup aT)) w := jA ho (yB w)
end
theorem abf (x : Sup) : aN x = [.int .u64 x.id, .int .i64 x.self] ++ aS x.ros := rfl
theorem uL (w : World) (x : Sup) : (part 30 (aN x).toArray 0).run prog w = .ok (.int .u64 x.id) w := by simp [part, aN]
theorem uC (w : World) (x : Sup) : (part 3 (aN x).toArray 1).run prog w = .ok (.int .i64 x.self) w := by simp [part, aN]
theorem tS (w : World) (x : Sup) : (part 35 (aN x).toArray 2).run prog w = .ok (ros x.ros) w := by
 have h : ((aN x).drop 2).take 21 = aS x.ros := by
  show (aS x.ros).take 21 = _
  rw [List.take_of_length_le (by rw [a9]; omega)]
 simp [part, ros, h]
theorem abh (w : World) (a b : Sup) (d : Nat) : (Op.equalIn (d + 4) 37 (sup a) (sup b)).run prog w = .ok (decide (a = b)) w := by
 have hu := run_equalIn_int (P := prog) w (d + 2) 30 .u64 .u64 a.id b.id underlying30;have hi := run_equalIn_int (P := prog) w (d + 2) 3 .i64 .i64 a.self b.self underlying3;have hr := aaC w a.ros b.ros d;unfold sup;rw [show d + 4 = (d + 3) + 1 from rfl, run_equalIn_struct w (d + 3) 37 _ _ (by kernel_rfl) (by kernel_rfl)];simp only [Program.fieldsOf, underlying37];rw [f9 ?_ (uL w a) (uL w b) hu];rotate_left
 ·simp
 rw [f9 ?_ (uC w a) (uC w b) hi];rotate_left
 ·simp
 rw [f9 ?_ (tS w a) (tS w b) hr];rotate_left
 ·simp
 rw [ux];clear hu hi hr;obtain ⟨id, self, r⟩ := a;obtain ⟨id', self', r'⟩ := b;by_cases k1 : id = id'
 ·by_cases k2 : self = self'
  ·by_cases k3 : r = r'
   ·simp [k1, k2, k3]
   ·simp [k1, k2, k3]
  ·simp [k1, k2]
 ·have : ¬ ((id : Int) = (id' : Int)) := by omega
  simp [k1, this]
section
variable {ρ : Operand -> Value} {o : Oper} {x y : Operand} {w : World} {t : TypeId}
theorem acT : prog.eqGuardType prog.depth 37 = false := by kernel_rfl
theorem aaK : prog.eqGuardType prog.depth 162 = false := by kernel_rfl
theorem rl {a b : Sup} (c : Bool) (ho : o.op = .binOp .neq 37 x y t) (hx : ρ x = sup a) (hy : ρ y = sup b) (h : decide (a = b) = c) : (execOp ρ o).run prog w = .ok (.value (.bool (!c))) w := by
 subst h; exact nK acT (abh w a b 9996) ho hx hy
theorem oO {a b : List UInt8} (c : Bool) (ha : a.length = 44) (hb : b.length = 44) (ho : o.op = .binOp .neq 162 x y t) (hx : ρ x = arr a) (hy : ρ y = arr b) (h : decide (a = b) = c) : (execOp ρ o).run prog w = .ok (.value (.bool (!c))) w := by
 subst h; exact nK aaK (lA underlying162 w a b ha hb 9998) ho hx hy
end
def bJ (w : World) (b : Nat) (x : Sup) : Prop := w.heap[b]? = some (.cells (aN x).toArray 37 (0, 0))
section
variable {w w' : World} {b : Nat} {x : Ros} {y : Sup}
theorem bJ.range (h : bJ w b y) : w.rangeAt b 0 (aN y) := br h
theorem bJ.il (h : bJ w b y) : w.rangeAt b 2 (aS y.ros) := by
 have := ei (k := 2) (ds := [.int .u64 y.id, .int .i64 y.self]) (es := aS y.ros) (fs := []) h.range (by simp [abf]) rfl;rwa [Nat.zero_add] at this
theorem bJ.sts (h : bJ w b y) : w.rangeAt b 5 (vals y.ros.st.toList) := ei (k := 3) h.il (fP y.ros) rfl
theorem bJ.cells (h : bJ w b y) : w.cell? ⟨b, 0, none⟩ = some (.int .u64 y.id) /\ w.cell? ⟨b, 1, none⟩ = some (.int .i64 y.self) /\ w.cell? ⟨b, 2, none⟩ = some (.int .i64 y.ros.m) /\ w.cell? ⟨b, 3, none⟩ = some (.int .i64 y.ros.s) /\ w.cell? ⟨b, 4, none⟩ = some (.int .i64 y.ros.r) /\ w.cell? ⟨b, 21, none⟩ = some (.int .i64 y.ros.cur) /\ w.cell? ⟨b, 22, none⟩ = some (.bool y.ros.gone) := by
 have hr := ei (k := 19) (ds := dr y.ros ++ vals y.ros.st.toList) (es := [.int .i64 y.ros.cur, .bool y.ros.gone]) (fs := []) h.il (by simp [fP]) (by simp [dr, bk]);exact ⟨h.range 0 _ rfl, h.range 1 _ rfl, h.range 2 _ rfl, h.range 3 _ rfl, h.range 4 _ rfl, hr 0 _ rfl, hr 1 _ rfl⟩
theorem bJ.sta (h : bJ w b y) {j : Nat} (hj : j < 16) : w.cell? ⟨b, 5 + j, none⟩ = some (.int .u8 (sta y.ros j)) := h.sts j _ (fT (by simpa using hj))
theorem bJ.below {B : Nat} (h : bJ w b y) (hB : b < B) (hb : Below B w w') : bJ w' b y := lM h hB hb
theorem bJ.new (w : World) (y : Sup) : bJ (w.alloc (.cells (aN y).toArray 37)) w.heap.size y := heap_alloc_new w _
theorem bJ.past (h : bJ w b y) (o : Obj) : bJ (w.alloc o) b y := bO h o
theorem bJ.rd (h : bJ w b y) : Rd w w.heap.size (some ⟨b, 5, none⟩) 16 y.ros.st.toList :=
 ⟨by simp, fun k hk => ⟨b, 5, rfl, aY h, h.sta hk⟩⟩
end
theorem abA (x : Ros) (w : World) : Calls prog 90 #[geo x] w fun e w' => e = .returned (.bool (ez x)) /\ Below w.heap.size w w' := by
 have h1 := iP (x := x);have h2 := re (x := x);generalize ez x = g at *;obtain ⟨m, s, r, st, cur, gone⟩ := x;simp only at h1 h2;have H1 := ae h1;have H2 := ae h2;clear h1 h2
 show Calls prog 90 #[.agg #[.int .i64 m, .int .i64 s, .int .i64 r]] w _
 go_enter func90, ntmps90;go_wp2
 all_goals
  go_ret;refine ⟨bp ?_, aj.alloc ai _⟩
  first
   |(refine Eq.symm (H2.out.2 ?_); omega)
   |(rw [Bool.eq_iff_iff, H1.out, decide_eq_true_iff]; omega)
theorem adt (x : Ros) (w : World) : Calls prog 89 #[geo x] w fun e w' => e = .returned (.bool (ez x)) /\ Below w.heap.size w w' := by
 have h1 := iP (x := x);have h2 := re (x := x);generalize ez x = g at *;obtain ⟨m, s, r, st, cur, gone⟩ := x;simp only at h1 h2;have H1 := ae h1;have H2 := ae h2;clear h1 h2
 show Calls prog 89 #[.agg #[.int .i64 m, .int .i64 s, .int .i64 r]] w _
 go_enter func89, ntmps89;go_wp2
 all_goals
  go_ret;refine ⟨bp ?_, aj.alloc ai _⟩
  first
   |(refine Eq.symm (H2.out.2 ?_); omega)
   |(rw [Bool.eq_iff_iff, H1.out, decide_eq_true_iff]; omega)
theorem hJ (w : World) (x : Sup) : bJ (w.alloc (.cells (aN x).toArray 37)) w.heap.size x /\ Below w.heap.size w (w.alloc (.cells (aN x).toArray 37)) /\ w.heap.size < (w.alloc (.cells (aN x).toArray 37)).heap.size :=
 ⟨bJ.new w x, (Below.refl w.heap.size w).alloc ai _, by simp only [World.size_alloc]; omega⟩
theorem yU (n : Nat) (w : World) : Calls prog 118 #[.int .u64 n] w fun e w' => e = .returned (.bool (evB n)) /\ w = w' := by
 by_cases h : 1 <= n
 ·go_enter func118, ntmps118;go_wp2;go_ret;refine ⟨bp ?_, rfl⟩;unfold evB;rw [decide_eq_decide];omega
 ·have h0 : n = 0 := by omega
  subst h0;go_enter func118, ntmps118;go_wp2;go_ret;exact ⟨rfl, rfl⟩
theorem abC (x : Ros) (w : World) : Calls prog 149 #[ros x] w fun e w' => e = .returned (.int .i64 (dc x : Nat)) /\ Below w.heap.size w w' := by
 obtain ⟨h1, h2, h3⟩ := dm w x;have HR := ae h1;have HB := ae h2;clear h1 h2 h3;have HL := ae (iF x.st);have HH : Hid (dc x = fG x.st.toList 16) := ae rfl;go_enter func149, ntmps149;go_wp2_with (first | (refine au rfl (bl rfl rfl) ?_) | (refine au rfl (dQ HL.out rfl rfl ?_) ?_; (with_reducible exact HR.out.sts)) | fail);generalize w.alloc (.cells (aS x).toArray 35) = w1 at *;generalize x.st.toList = l at *
 go_loop [3, 8] (fun n i => ∃ j : Nat, j <= 16 /\ i = .int .i64 j /\ n = .int .i64 (fG l j : Nat)) (fun _ i => 16 - (intOf i).toNat)
 case atStart => exact ⟨0, Nat.zero_le _, rfl, rfl⟩
 case round =>
  obtain ⟨j, hj, rfl, rfl⟩ := hrel;by_cases hlt : j < 16
  ·have hs := ae (io l j);have hle := m8 l j;generalize fG l j = n at *;by_cases h2 : bt l j = 2
   ·rw [if_pos h2] at hs;have hd : (bt l j == 2) = true := by rw [h2]; rfl
    clear h2;go_wp2_with (first | (refine au rfl (ef (l := l) (j := j) HL hlt rfl rfl rfl) ?_) | fail)
    go_round
    case rel => exact ⟨j + 1, by omega, by go_num, by rw [hs.out]; go_num⟩
    case measure => simp [intOf]; omega
   ·rw [if_neg h2] at hs;have hd : (bt l j == 2) = false := by simpa using h2
    clear h2;go_wp2_with (first | (refine au rfl (ef (l := l) (j := j) HL hlt rfl rfl rfl) ?_) | fail)
    go_round
    case rel => exact ⟨j + 1, by omega, by go_num, by rw [hs.out, Nat.add_zero]⟩
    case measure => simp [intOf]; omega
  ·have e : j = 16 := by omega
   subst e;go_wp2;go_ret;exact ⟨by rw [HH.out]; rfl, HB⟩
theorem ad8 (x : Ros) (w : World) : Calls prog 140 #[ros x] w fun e w' => e = .returned (.bool (rf x)) /\ Below w.heap.size w w' := by
 obtain ⟨h1, h2, h3⟩ := dm w x;have HR := ae h1;have HB := ae h2;have HZ := ae h3;clear h1 h2 h3;have HC : Hid (rf x = if dc x = 0 then decide (x.cur = 0) else decide (0 <= x.cur /\ x.cur < x.s)) := ae rfl;go_enter func140, ntmps140;go_wp2_with (first | (refine au rfl (bl rfl rfl) ?_) | (refine au rfl (bq (c := x) rfl rfl ?_) ?_; (with_reducible exact HR.out.range)) | fail);generalize w.alloc (.cells (aS x).toArray 35) = w1 at *;refine (abC x w1).mono ?_;rintro e w2 ⟨rfl, hb⟩;obtain ⟨c0, c1, c2, c3, c4⟩ := (HR.out.below HZ hb).cells;have HB2 := ae (HB.out.trans (hb.mono (Nat.le_of_lt HZ)));clear hb;generalize x.cur = c at *;generalize x.s = s at *;by_cases h0 : dc x = 0
 ·rw [if_pos h0] at HC;rw [h0];go_wp2;go_ret;exact ⟨bp (by rw [HC.out, Bool.eq_iff_iff]; simp), HB2⟩
 ·rw [if_neg h0] at HC;have hd : ((dc x : Int) == 0) = false := by simp; omega
  by_cases hc : 0 <= c
  ·go_wp2;go_ret;exact ⟨bp (by rw [HC.out, decide_eq_decide]; omega), HB2⟩
  ·have hlt : c < 0 := by omega
   go_wp2;go_ret;exact ⟨bp (by rw [HC.out]; simp; omega), HB2⟩
set_option linter.unusedSimpArgs false
def gU (x : Ros) : List UInt8 := splice (List.replicate 16 0) 0 (x.st.toList.take x.m.toNat)
theorem jh {x : Ros} : (gU x).length = 16 := by
 unfold gU;rw [length_splice _ _ _ (by simp; omega)];simp
theorem pl {x : Ros} (h0 : 0 <= x.m) (h16 : x.m <= 16) {k : Nat} (hk : k < 16) : bt (gU x) k = if (k : Int) < x.m then sta x k else 0 := by
 unfold gU;have hl : (x.st.toList.take x.m.toNat).length = x.m.toNat := by simp; omega
 rw [gV (by rw [hl]; simp; omega), hl, km];by_cases h : (k : Int) < x.m
 ·rw [if_pos (by omega), if_pos h];unfold sta bt;simp only [List.getD, Nat.sub_zero, List.getElem?_take_of_lt (show k < x.m.toNat by omega)]
 ·rw [if_neg (by omega), if_neg h]
theorem yE {x : Ros} (h0 : 0 <= x.m) (h16 : x.m <= 16) {k : Nat} (hk : k < 16) (hb : 2 < bt (gU x) k) : fj x = false := by
 rw [Bool.eq_false_iff];intro h;have := (iu h).1 k hk;rw [pl h0 h16 hk] at hb
 split at hb <;> omega
theorem y6 {x : Ros} (h0 : 0 <= x.m) (h16 : x.m <= 16) (h : ∀ k, k < 16 -> bt (gU x) k <= 2) : fj x = decide (gU x = x.st.toList) := by
 rw [Bool.eq_iff_iff, decide_eq_true_iff, hU]
 constructor
 ·rintro ⟨h1, h2⟩;refine eB (by rw [jh]; simp) fun k hk => ?_
  rw [jh] at hk;rw [pl h0 h16 hk]
  split
  ·rfl
  ·exact (h2 k hk (by omega)).symm
 ·intro e;have h3 : ∀ k, k < 16 -> sta x k = bt (gU x) k := fun k hk => by rw [e]; rfl
  refine ⟨fun k hk => by rw [h3 k hk]; exact h k hk, fun k hk hm => ?_⟩;rw [h3 k hk, pl h0 h16 hk, if_neg (by omega)]
section
variable {ρ : Operand -> Value} {o : Oper} {x z : Operand} {w : World} {g off : Nat}
theorem fu (ho : o.op = .slice 33 x none none none) (hx : ρ x = .pointer (some ⟨g, off, none⟩)) : (execOp ρ o).run prog w = .ok (.value (.slice (some ⟨g, off, none⟩) 16 16)) w := by
 have h : (Instr.sliceAt 33 (.pointer (some ⟨g, off, none⟩)) none none none).run prog w = .ok (.slice (some ⟨g, off, none⟩) 16 16) w := by
  simp [Instr.sliceAt, Instr.sliceBounds, Instr.sliceBound, Instr.sureAddr, asIntOf, run_underlying underlying33, Tryz.sizeOf5, Addr.add_mid]
 unfold execOp;simp only [ho, hx, Option.map_none, Sem.run_bind, h, Result.andThen_ok, Sem.run_pure]
theorem pt {m : Int} (h0 : 0 < m) (h16 : m <= 16) (ho : o.op = .slice 33 x none (some z) none) (hx : ρ x = .pointer (some ⟨g, off, none⟩)) (hz : ρ z = .int .i64 m) : (execOp ρ o).run prog w = .ok (.value (.slice (some ⟨g, off, none⟩) m.toNat 16)) w := by
 obtain ⟨n, rfl⟩ := Int.eq_ofNat_of_zero_le (Int.le_of_lt h0);have h : (Instr.sliceAt 33 (.pointer (some ⟨g, off, none⟩)) none (some (.int .i64 (n : Int))) none).run prog w = .ok (.slice (some ⟨g, off, none⟩) n 16) w := by
  have e1 : (0 <= (n : Int) /\ (n : Int) <= 16) := by omega
  have e2 : n <= 16 := by omega
  simp [Instr.sliceAt, Instr.sliceBounds, Instr.sliceBound, Instr.sureAddr, asIntOf, run_underlying underlying33, Tryz.sizeOf5, Addr.add_mid, e1, e2]
 unfold execOp;simp only [ho, hx, hz, Option.map_none, Option.map_some, Sem.run_bind, h, Result.andThen_ok, Sem.run_pure, Int.toNat_natCast]
end
theorem abi (x : Ros) (w : World) (h0 : 0 < x.m) (h16 : x.m <= 16) : Calls prog 139 #[ros x] w fun e w' => e = .returned (.bool (fj x && decide (dc x <= 1))) /\ Below w.heap.size w w' := by
 obtain ⟨h1, h2, h3⟩ := dm w x;have HR := ae (h1.past (.cells (vals (List.replicate 16 0)).toArray 33));have HB := ae (h2.alloc h2.size (.cells (vals (List.replicate 16 0)).toArray 33));have HM : Hid (cr ((w.alloc (.cells (aS x).toArray 35)).alloc (.cells (vals (List.replicate 16 0)).toArray 33)) (w.heap.size + 1) 33 (List.replicate 16 0)) := by
  have := cr.new (w.alloc (.cells (aS x).toArray 35)) (List.replicate 16 0) 33;rw [World.size_alloc] at this;exact ae this
 clear h1 h2 h3;have HML := ae (jh (x := x));have HSL := ae (iF x.st);have HBIG : Hid (∀ k, k < 16 -> 2 < bt (gU x) k -> fj x = false) := ae fun k hk hb => yE (by omega) h16 hk hb
 have HALL : Hid ((∀ k, k < 16 -> bt (gU x) k <= 2) -> fj x = decide (gU x = x.st.toList)) := ae fun h => y6 (by omega) h16 h
 have HDEF : Hid (splice (List.replicate 16 0) 0 (x.st.toList.take x.m.toNat) = gU x) := ae rfl;go_enter func139, ntmps139;go_wp2_with (first | (refine au rfl (bl rfl rfl) ?_) | (refine au rfl (pG rfl) ?_) | fail);simp only [World.size_alloc];generalize (w.alloc (.cells (aS x).toArray 35)).alloc (.cells (vals (List.replicate 16 0)).toArray 33) = w1 at *;have c0 := HR.out.cells.1;have HRD := ae (HR.out.rd (m := x.m.toNat) (by omega));refine wp_region_still_tail 6 (by kernel_rfl) (by kernel_rfl) ?_;simp only [ac];refine aM rfl (fu rfl aez) ?_;simp only [aa];refine aM rfl (ax rfl aez iz) ?_;simp only [aa];refine aM rfl (ax rfl aez kP) ?_;simp only [aa];refine aM rfl (ax rfl aez pd) ?_;simp only [aa];refine aM rfl (aE rfl aez (cv c0)) ?_;simp only [aa];refine aM rfl (pt h0 h16 rfl aez aez) ?_;simp only [aa];refine wpStill_nil ?_;change wpList _ _ _ _ _ (World.drew _);refine eJ rfl _ _ rfl (w.heap.size + 1) 0 16 16 x.m.toNat 16 _ _ 33 (List.replicate 16 0) (x.st.toList.take x.m.toNat) aez aez HM.out.draw HRD (by omega) (by simp; omega) ?_;intro w2 hr2 hg2;rw [HDEF.out] at hr2;have HR2 : Hid (bQ w2 w.heap.size x) := ae ((hg2.block w.heap.size (aY HR) (fun e => by injection e with e; omega)).trans HR);have HM2 := ae hr2;have HM2R := ae (br hr2);have HB2 : Hid (Below w.heap.size w w2) := ae ((bd HB).grown hg2 HB.out.size (fun k hk => by injection hk with e; omega));have HZ2 : Hid (w.heap.size < w2.heap.size) := ae (aY HR2);clear hr2 hg2 HR HM HB HRD c0;simp only [aa];refine ag ?_;go_wp2_with (first | (refine au rfl (dQ HML.out rfl rfl ?_) ?_; (with_reducible exact HM2R.out)) | fail);have HW2 := ae (show w2 = w2 from rfl)
 go_loop [14] (fun i => ∃ j : Nat, j <= 16 /\ i = .int .i64 j /\ ∀ k, k < j -> bt (gU x) k <= 2) (fun i => 16 - (intOf i).toNat)
 case atStart => exact ⟨0, Nat.zero_le _, rfl, fun k hk => absurd hk (by omega)⟩
 case round =>
  obtain ⟨j, hj, rfl, hall⟩ := hrel;have HA := ae hall;clear hall;by_cases hlt : j < 16
  ·by_cases h2 : 2 < bt (gU x) j
   ·have HF := ae (HBIG.out j hlt h2);go_wp2_with (first | (refine au rfl (ef (l := gU x) (j := j) HML hlt rfl rfl rfl) ?_) | fail);go_ret;exact ⟨bp (by rw [HF.out]; rfl), HB2⟩
   ·have h2' : bt (gU x) j <= 2 := by omega
    have HN : Hid (∀ k, k < j + 1 -> bt (gU x) k <= 2) := ae fun k hk => by
     by_cases e : k = j
     ·rw [e]; exact h2'
     ·exact HA.out k (by omega)
    go_wp2_with (first | (refine au rfl (ef (l := gU x) (j := j) HML hlt rfl rfl rfl) ?_) | fail)
    go_round
    case rel => exact ⟨j + 1, by omega, by go_num, HN⟩
    case measure => simp [intOf]; omega
  ·have e : j = 16 := by omega
   subst e;have HE := ae (HALL.out HA);cases hs : fj x
   ·rw [hs] at HE;have HD : Hid (decide (gU x = x.st.toList) = false) := ae HE.out.symm;have HS := ae hs;clear hs HE;go_wp2_with (first | (refine au rfl (dQ HML.out rfl rfl ?_) ?_; (with_reducible exact HM2R.out)) | (refine au rfl (dQ HSL.out rfl rfl ?_) ?_; (with_reducible exact HR2.out.sts)) | (refine au rfl (oL false HML.out HSL.out rfl rfl rfl HD.out) ?_) | fail);go_ret;exact ⟨bp (by rw [HS.out]; rfl), HB2⟩
   ·rw [hs] at HE;have HD : Hid (decide (gU x = x.st.toList) = true) := ae HE.out.symm;have HS := ae hs;clear hs HE;go_wp2_with (first | (refine au rfl (dQ HML.out rfl rfl ?_) ?_; (with_reducible exact HM2R.out)) | (refine au rfl (dQ HSL.out rfl rfl ?_) ?_; (with_reducible exact HR2.out.sts)) | (refine au rfl (oL true HML.out HSL.out rfl rfl rfl HD.out) ?_) | (refine av (by rfl) (bq (c := x) rfl rfl ?_) ?_; (with_reducible exact HR2.out.range)) | fail);refine (abC x w2).mono ?_;rintro e w3 ⟨rfl, hb⟩;have HB3 := ae (HB2.out.trans (hb.mono (Nat.le_of_lt HZ2)));clear hb;go_wp2;go_ret;exact ⟨bp (by rw [HS.out, Bool.true_and, decide_eq_decide]; omega), HB3⟩
theorem aaj (x : Ros) (w : World) : Calls prog 126 #[ros x] w fun e w' => e = .returned (.bool (bn x)) /\ Below w.heap.size w w' := by
 have HF := ae (nO x);obtain ⟨h1, h2, h3⟩ := dm w x;have HR := ae h1;have HB := ae h2;have HZ := ae h3;clear h1 h2 h3;go_enter func126, ntmps126;go_wp2_with (first | (refine au rfl (bl rfl rfl) ?_) | (refine au rfl (cu (c := x) rfl rfl ?_) ?_; (with_reducible exact HR.out.geo)) | fail);generalize w.alloc (.cells (aS x).toArray 35) = w1 at *;refine (abA x w1).mono ?_;rintro e w2 ⟨rfl, hb⟩;have HR2 := ae (HR.out.below HZ hb);have HB2 := ae (HB.out.trans (hb.mono (Nat.le_of_lt HZ)));have HZ2 := ae (aY HR2);clear hb HR HB HZ;cases hg : ez x
 ·rw [hg] at HF;go_wp2_with fail;go_ret;exact ⟨bp (by rw [HF.out]; rfl), HB2⟩
 ·rw [hg] at HF;have hgg := iP.1 hg;clear hg;go_wp2_with (first | (refine av (by rfl) (bq (c := x) rfl rfl ?_) ?_; (with_reducible exact HR2.out.range)) | fail);refine (abi x w2 (by omega) (by omega)).mono ?_;rintro e w3 ⟨rfl, hb⟩;have HR3 := ae (HR2.out.below HZ2 hb);have HB3 := ae (HB2.out.trans (hb.mono (Nat.le_of_lt HZ2)));have HZ3 := ae (aY HR3);clear hb HR2 HB2 HZ2 hgg;generalize (fj x && decide (dc x <= 1)) = p at *;cases p
  ·go_wp2_with fail;go_ret;exact ⟨bp (by rw [HF.out]; rfl), HB3⟩
  ·go_wp2_with (first | (refine av (by rfl) (bq (c := x) rfl rfl ?_) ?_; (with_reducible exact HR3.out.range)) | fail);refine (ad8 x w3).mono ?_;rintro e w4 ⟨rfl, hb⟩;have HB4 := ae (HB3.out.trans (hb.mono (Nat.le_of_lt HZ3)));clear hb;generalize rf x = q at *;go_wp2_with fail;go_ret;exact ⟨bp (by rw [HF.out]; rfl), HB4⟩
theorem oe (x : Sup) : dX x = (decide (x.id ≠ 0) && (bn x.ros && decide (0 <= x.self /\ x.self < x.ros.m))) := by unfold dX; rw [Bool.and_assoc]
theorem abp (x : Sup) (w : World) : Calls prog 119 #[sup x] w fun e w' => e = .returned (.bool (dX x)) /\ Below w.heap.size w w' := by
 have HF := ae (oe x);obtain ⟨h1, h2, h3⟩ := hJ w x;have HR := ae h1;have HB := ae h2;have HZ := ae h3;obtain ⟨c0, c1, c2, c3, c4, c5, c6⟩ := h1.cells;clear h1 h2 h3;go_enter func119, ntmps119;by_cases hid : x.id = 0
 ·rw [al (by simpa using hid)] at HF;have hd : ((x.id : Int) != 0) = false := by rw [hid]; rfl
  go_wp2_with (first | (refine au rfl (ed rfl rfl) ?_) | fail);go_ret;exact ⟨bp (by rw [HF.out]; rfl), HB⟩
 ·rw [am (by simpa using hid)] at HF;have hd : ((x.id : Int) != 0) = true := by simp; omega
  go_wp2_with (first | (refine au rfl (ed rfl rfl) ?_) | (refine av (by rfl) (bq (c := x.ros) rfl rfl ?_) ?_; (with_reducible exact HR.out.il)) | fail);generalize w.alloc (.cells (aN x).toArray 37) = w1 at *;clear c0 c1 c2 c3 c4 c5 c6;refine (aaj x.ros w1).mono ?_;rintro e w2 ⟨rfl, hb⟩;obtain ⟨c0, c1, c2, c3, c4, c5, c6⟩ := (HR.out.below HZ hb).cells;have HB2 := ae (HB.out.trans (hb.mono (Nat.le_of_lt HZ)));clear hb HR HB HZ hd hid;generalize bn x.ros = p at *;generalize x.self = a at *;generalize x.ros.m = m at *;cases p
  ·go_wp2_with fail;go_ret;exact ⟨bp (by rw [HF.out]; rfl), HB2⟩
  ·by_cases ha : 0 <= a
   ·go_wp2;go_ret;exact ⟨bp (by rw [HF.out]; simp [ha]), HB2⟩
   ·have ha' : a < 0 := by omega
    go_wp2;go_ret;exact ⟨bp (by rw [HF.out]; simp; omega), HB2⟩
def unw (ops : Array Oper) : List Oper -> Act -> Bool
 |[], _ => true
 |r :: rs, a => !(Region.wanted r (yielded ops a.tmps)) && unw ops rs (a.put r.dst undef)
def bc : List Oper -> Act -> Act
 |[], a => a
 |r :: rs, a => bc rs (a.put r.dst undef)
section
variable {P : Program} {ops : Array Oper} {rest l : List Oper} {o : Oper} {a : Act} {w w' : World} {Q : Exit -> Act -> World -> Prop} {v : Value}
theorem nS : ∀ (rs : List Oper) (a : Act), unw ops rs a = true -> wpList P ops Q rest (bc rs a) w -> wpList P ops Q (rs ++ rest) a w
 |[], _, _, h => h
 |r :: rs, a, hu, h => by
  simp only [unw, Bool.and_eq_true, Bool.not_eq_true'] at hu;refine wpList_step fun K hK => ?_
  rw [if_neg (by rw [hu.1]; exact Bool.false_ne_true)];exact hK _ _ (nS rs _ hu.2 h)
theorem aG (n : Nat) (hw : Region.wanted o (yielded ops a.tmps) = true) (h : (execOp a.eval o).run P w = .ok (.value v) w') (hu : unw ops (l.take n) (a.put o.dst v) = true) (hr : wpList P ops Q (l.drop n) (bc (l.take n) (a.put o.dst v)) w') : wpList P ops Q (o :: l) a w :=
 av hw h (by have := nS (P := P) (Q := Q) (l.take n) _ hu hr; rwa [List.take_append_drop] at this)
end
theorem xY (x : Ros) (w : World) : Calls prog 65 #[ros x] w fun e w' => e = .returned (.bool (bn x)) /\ Below w.heap.size w w' := by
 have HGE : Hid (ez x = false -> bn x = false) := ae fun h => by unfold bn; rw [h]; rfl
 have HOK : Hid (ez x = true -> fj x = true -> bn x = (decide (dc x <= 1) && decide (0 <= x.cur /\ x.cur < x.s /\ (dc x = 1 \/ x.cur = 0)))) := ae fun h h' => by unfold bn; rw [h, h', Bool.true_and, Bool.true_and]
 have HNO : Hid (∀ j, j < 16 -> (2 < sta x j \/ (x.m <= (j : Int) /\ sta x j ≠ 0)) -> bn x = false) := ae fun j => ac1
 have HSTA := ae (hU (x := x));obtain ⟨h1, h2, h3⟩ := dm w x;have HR := ae h1;have HB := ae h2;have HZ := ae h3;clear h1 h2 h3;have HH : Hid (dc x = fG x.st.toList 16) := ae rfl;have HST : Hid (∀ j, sta x j = bt x.st.toList j) := ae fun _ => rfl
 go_enter func65, ntmps65;go_wp2_with (first | (refine au rfl (bl rfl rfl) ?_) | (refine au rfl (cu (c := x) rfl rfl ?_) ?_; (with_reducible exact HR.out.geo)) | fail);generalize w.alloc (.cells (aS x).toArray 35) = w1 at *;refine (adt x w1).mono ?_;rintro e w2 ⟨rfl, hb⟩;have HR2 := ae (HR.out.below HZ hb);have HB2 := ae (HB.out.trans (hb.mono (Nat.le_of_lt HZ)));clear hb HR HB HZ;cases hg : ez x
 ·have HF := ae (HGE.out hg);clear hg;go_wp2_with fail;go_ret;exact ⟨by rw [HF.out]; rfl, HB2⟩
 ·have HOK2 := ae (HOK.out hg);clear hg HOK HGE;have HM := ae HR2.out.cells.1;have HSS := ae HR2.out.cells.2.1;have HCU := ae HR2.out.cells.2.2.2.1;go_wp2_with fail
  go_loop [3, 4] (fun n i => ∃ j : Nat, j <= 16 /\ i = .int .i64 j /\ n = .int .i64 (fG x.st.toList j : Nat) /\ (∀ k, k < j -> sta x k <= 2) /\ (∀ k : Nat, k < j -> x.m <= (k : Int) -> sta x k = 0)) (fun _ i => 16 - (intOf i).toNat)
  case atStart => exact ⟨0, Nat.zero_le _, rfl, rfl, fun k hk => absurd hk (by omega), fun k hk => absurd hk (by omega)⟩
  case round =>
   obtain ⟨j, hj, rfl, rfl, ha1, ha2⟩ := hrel;have HA1 := ae ha1;have HA2 := ae ha2;clear ha1 ha2;by_cases hlt : j < 16
   ·have HC := ae (HR2.out.sta hlt);have HS := ae (io x.st.toList j);have hle := m8 x.st.toList j;generalize fG x.st.toList j = n at *;go_upto_region 7 with fail;refine aV 1 ?_;refine aep (ax rfl aez iz) ?_;refine aep (cD rfl aez aez (jR hlt)) ?_;refine aep (aE rfl aez (lE HC)) ?_;by_cases g2 : 2 < sta x j
    ·have HF := ae (HNO.out j hlt (.inl g2));have H17 : Hid (decide ((2 : Int) < sta x j) = true) := ae (am g2);clear g2;refine aep (df true rfl aez evk H17) ?_;refine aG 12 rfl (aJ rfl aez) (by kernel_rfl) ?_;simp only [bc, ac, aa];refine aK 1 ?_;go_wp2_with fail;go_ret;exact ⟨by rw [HF.out]; rfl, HB2⟩
    ·have H17 : Hid (decide ((2 : Int) < sta x j) = false) := ae (al g2);have HLE : Hid (sta x j <= 2) := ae (by omega);refine aep (df false rfl aez evk H17) ?_;refine runs 2 ?_;refine aew (ax rfl aez kP) ?_;refine aew (ax rfl aez pd) ?_;refine aew (aE rfl aez (cv HM)) ?_;by_cases gm : x.m <= (j : Int)
     ·have H23 : Hid (decide (x.m <= (j : Int)) = true) := ae (am gm);refine aew (cq true rfl aez aez H23) ?_;refine runs 2 ?_;refine aew (ax rfl aez iz) ?_;refine aew (cD rfl aez aez (jR hlt)) ?_;refine aew (aE rfl aez (lE HC)) ?_;by_cases g0 : sta x j = 0
      ·have H29 : Hid ((sta x j != 0) = false) := ae (by rw [g0]; rfl);have HEQ := ae g0;clear g2 gm g0;refine aew (aI false rfl aez evk H29) ?_;refine aK 2 ?_;have cs := HC.out;rw [HEQ.out] at cs;go_wp2_with fail
       go_round
       case rel =>
        refine ⟨j + 1, by omega, by go_num, ?_, fun k hk => ?_, fun k hk hm => ?_⟩
        ·rw [HS.out, if_neg (by rw [<- HST.out, HEQ.out]; omega), Nat.add_zero]
        ·by_cases e : k = j
         ·rw [e]; exact HLE
         ·exact HA1.out k (by omega)
        ·by_cases e : k = j
         ·rw [e]; exact HEQ
         ·exact HA2.out k (by omega) hm
       case measure => simp [intOf]; omega
      ·have HF := ae (HNO.out j hlt (.inr ⟨gm, g0⟩));have H29 : Hid ((sta x j != 0) = true) := ae (by simpa using g0);clear g2 gm g0;refine aew (aI true rfl aez evk H29) ?_;refine aK 2 ?_;go_wp2_with fail;go_ret;exact ⟨by rw [HF.out]; rfl, HB2⟩
     ·have H23 : Hid (decide (x.m <= (j : Int)) = false) := ae (al gm);have HGM := ae gm;clear g2 gm;refine aew (cq false rfl aez aez H23) ?_;refine aG 5 aek (aJ rfl aez) (by kernel_rfl) ?_;simp only [bc, ac, aa];refine aK 2 ?_;have cs := HC.out;have HN1 : Hid (∀ k, k < j + 1 -> sta x k <= 2) := ae fun k hk => by
       by_cases e : k = j
       ·rw [e]; exact HLE
       ·exact HA1.out k (by omega)
      have HN2 : Hid (∀ k : Nat, k < j + 1 -> x.m <= (k : Int) -> sta x k = 0) := ae fun k hk hm => by
       by_cases e : k = j
       ·rw [e] at hm; exact absurd hm HGM
       ·exact HA2.out k (by omega) hm
      by_cases h2 : sta x j = 2
      ·have hd : (sta x j == 2) = true := by rw [h2]; rfl
       have HEQ := ae h2;clear h2;go_wp2_with fail
       go_round
       case rel => exact ⟨j + 1, by omega, by go_num, by rw [HS.out, if_pos (by rw [<- HST.out, HEQ.out])]; go_num, HN1, HN2⟩
       case measure => simp [intOf]; omega
      ·have hd : (sta x j == 2) = false := by simpa using h2
       have HEQ := ae h2;clear h2;go_wp2_with fail
       go_round
       case rel => exact ⟨j + 1, by omega, by go_num, by rw [HS.out, if_neg (by rw [<- HST.out]; exact HEQ.out), Nat.add_zero], HN1, HN2⟩
       case measure => simp [intOf]; omega
   ·have e : j = 16 := by omega
    subst e;have HF := ae (HOK2.out (HSTA.out.2 ⟨HA1, HA2⟩));rw [HH.out] at HF;have hle := m8 x.st.toList 16;generalize fG x.st.toList 16 = n at *;clear HA1 HA2 HNO HSTA hlt hj HST HOK2;obtain ⟨c, hc⟩ : ∃ c, x.cur = c := ⟨_, rfl⟩;obtain ⟨s, hs⟩ : ∃ s, x.s = s := ⟨_, rfl⟩;rw [hc, hs] at HF;rw [hc] at HCU;rw [hs] at HSS;clear hc hs;go_upto_region 11 with fail;refine aV 1 ?_;by_cases q1 : n <= 1
    ·have H40 : Hid (decide ((n : Int) <= 1) = true) := ae (am (by omega));refine aep (eS true rfl aez evk H40) ?_;refine runs 1 ?_;refine aew (ax rfl aez tw) ?_;refine aew (aE rfl aez (cv HCU)) ?_;by_cases q2 : 0 <= c
     ·have H44 : Hid (decide ((0 : Int) <= c) = true) := ae (am q2);refine aew (cq true rfl aez evk H44) ?_;refine runs 2 ?_;refine aew (ax rfl aez tw) ?_;refine aew (aE rfl aez (cv HCU)) ?_;refine aew (ax rfl aez kP) ?_;refine aew (ax rfl aez xO) ?_;refine aew (aE rfl aez (cv HSS)) ?_;by_cases q3 : c < s
      ·have H52 : Hid (decide (c < s) = true) := ae (am q3);refine aew (bi true rfl aez aez H52) ?_;refine runs 3 ?_;by_cases q4 : n = 1
       ·have H56 : Hid (((n : Int) == 1) = true) := ae (by rw [q4]; rfl);refine aew (aH true rfl aez evk H56) ?_;refine aG 3 aek (aJ rfl aez) (by kernel_rfl) ?_;simp only [bc, ac, aa];refine aK 3 ?_;go_wp2_with fail;go_ret;exact ⟨bp (by rw [HF.out]; rw [am q1, am (by omega)]; rfl), HB2⟩
       ·have H56 : Hid (((n : Int) == 1) = false) := ae (by simp; omega);refine aew (aH false rfl aez evk H56) ?_;refine runs 1 ?_;refine aew (ax rfl aez tw) ?_;refine aew (aE rfl aez (cv HCU)) ?_;by_cases q5 : c = 0
        ·have H60 : Hid ((c == 0) = true) := ae (by simpa using q5);refine aew (aH true rfl aez evk H60) ?_;refine aK 3 ?_;go_wp2_with fail;go_ret;exact ⟨bp (by rw [HF.out]; rw [am q1, am (by omega)]; rfl), HB2⟩
        ·have H60 : Hid ((c == 0) = false) := ae (by simpa using q5);refine aew (aH false rfl aez evk H60) ?_;refine aK 3 ?_;go_wp2_with fail;go_ret;exact ⟨bp (by rw [HF.out]; rw [am q1, al (by omega)]; rfl), HB2⟩
      ·have H52 : Hid (decide (c < s) = false) := ae (al q3);refine aew (bi false rfl aez aez H52) ?_;refine runs 1 ?_;refine aG 7 rfl (aJ rfl aez) (by kernel_rfl) ?_;simp only [bc, ac, aa];refine aK 2 ?_;go_wp2_with fail;go_ret;exact ⟨bp (by rw [HF.out]; rw [am q1, al (by omega)]; rfl), HB2⟩
     ·have H44 : Hid (decide ((0 : Int) <= c) = false) := ae (al q2);refine aew (cq false rfl aez evk H44) ?_;refine runs 1 ?_;refine aG 6 rfl (aJ rfl aez) (by kernel_rfl) ?_;simp only [bc, ac, aa];refine runs 1 ?_;refine aG 7 rfl (aJ rfl aez) (by kernel_rfl) ?_;simp only [bc, ac, aa];refine aK 2 ?_;go_wp2_with fail;go_ret;exact ⟨bp (by rw [HF.out]; rw [am q1, al (by omega)]; rfl), HB2⟩
    ·have H40 : Hid (decide ((n : Int) <= 1) = false) := ae (al (by omega));refine aep (eS false rfl aez evk H40) ?_;refine aG 3 rfl (aJ rfl aez) (by kernel_rfl) ?_;simp only [bc, ac, aa];refine runs 1 ?_;refine aG 6 rfl (aJ rfl aez) (by kernel_rfl) ?_;simp only [bc, ac, aa];refine runs 1 ?_;refine aG 7 rfl (aJ rfl aez) (by kernel_rfl) ?_;simp only [bc, ac, aa];refine aK 2 ?_;go_wp2_with fail;go_ret;exact ⟨bp (by rw [HF.out]; rw [al q1]; rfl), HB2⟩
theorem nC (n : Nat) (w : World) : Calls prog 74 #[.int .u64 n] w fun e w' => e = .returned (.bool (evB n)) /\ w = w' := by
 by_cases h : 1 <= n
 ·go_enter func74, ntmps74;go_wp2;go_ret;refine ⟨bp ?_, rfl⟩;unfold evB;rw [decide_eq_decide];omega
 ·have h0 : n = 0 := by omega
  subst h0;go_enter func74, ntmps74;go_wp2;go_ret;exact ⟨rfl, rfl⟩
theorem ug (x : Sup) (w : World) : Calls prog 75 #[sup x] w fun e w' => e = .returned (.bool (dX x)) /\ Below w.heap.size w w' := by
 have HF := ae (oe x);obtain ⟨h1, h2, h3⟩ := hJ w x;have HR := ae h1;have HB := ae h2;have HZ := ae h3;obtain ⟨c0, c1, c2, c3, c4, c5, c6⟩ := h1.cells;clear h1 h2 h3;go_enter func75, ntmps75;by_cases hid : x.id = 0
 ·rw [al (by simpa using hid)] at HF;have hd : ((x.id : Int) != 0) = false := by rw [hid]; rfl
  go_wp2_with (first | (refine au rfl (ed rfl rfl) ?_) | fail);go_ret;exact ⟨bp (by rw [HF.out]; rfl), HB⟩
 ·rw [am (by simpa using hid)] at HF;have hd : ((x.id : Int) != 0) = true := by simp; omega
  go_wp2_with (first | (refine au rfl (ed rfl rfl) ?_) | (refine av (by rfl) (bq (c := x.ros) rfl rfl ?_) ?_; (with_reducible exact HR.out.il)) | fail);generalize w.alloc (.cells (aN x).toArray 37) = w1 at *;clear c0 c1 c2 c3 c4 c5 c6;refine (xY x.ros w1).mono ?_;rintro e w2 ⟨rfl, hb⟩;obtain ⟨c0, c1, c2, c3, c4, c5, c6⟩ := (HR.out.below HZ hb).cells;have HB2 := ae (HB.out.trans (hb.mono (Nat.le_of_lt HZ)));clear hb HR HB HZ hd hid;generalize bn x.ros = p at *;generalize x.self = a at *;generalize x.ros.m = m at *;cases p
  ·go_wp2_with fail;go_ret;exact ⟨bp (by rw [HF.out]; rfl), HB2⟩
  ·by_cases ha : 0 <= a
   ·go_wp2;go_ret;exact ⟨bp (by rw [HF.out]; simp [ha]), HB2⟩
   ·have ha' : a < 0 := by omega
    go_wp2;go_ret;exact ⟨bp (by rw [HF.out]; simp; omega), HB2⟩
section
variable {ρ : Operand -> Value} {o : Oper} {x y z : Operand} {w : World} {b off n c t u : Nat}
theorem adc : prog.underlying 116 = some (.slice 5) := underlying116
theorem wg (h : t <= c) : (Instr.sliceAt 116 (.slice (some ⟨b, off, none⟩) n c) none (some (.int .i64 (t : Int))) none).run prog w = .ok (.slice (some ⟨b, off, none⟩) t c) w := by
 simp [Instr.sliceAt, Instr.slice, Instr.sliceBounds, Instr.sliceBound, asIntOf, run_underlying adc, Tryz.sizeOf5, Addr.add_mid];intro hh; omega
theorem ra (h1 : u <= t) (h : t <= c) (h2 : u < c) : (Instr.sliceAt 116 (.slice (some ⟨b, off, none⟩) n c) (some (.int .i64 (u : Int))) (some (.int .i64 (t : Int))) none).run prog w = .ok (.slice (some ⟨b, off + u, none⟩) (t - u) (c - u)) w := by
 have e1 : (0 <= (t : Int) /\ (t : Int) <= (c : Int)) := by omega
 have e2 : (0 <= (u : Int) /\ (u : Int) <= (t : Int)) := by omega
 have e3 : c ≠ u := by omega
 simp [Instr.sliceAt, Instr.slice, Instr.sliceBounds, Instr.sliceBound, asIntOf, run_underlying adc, Tryz.sizeOf5, Addr.add_mid, e1, e2, e3, h, h1]
end
theorem rH {w : World} {N n : Nat} {ad : Addr} {l : List UInt8} (h : Rd w N (some ad) n l) : ∀ (j : Nat) (u : Value), (l.map fun u => Value.int .u8 (u.toNat : Int))[j]? = some u -> w.cell? (ad.add j) = some u := by
 intro j u hu;have hj : j < l.length := by
  rcases Nat.lt_or_ge j l.length with hlt | hge
  ·exact hlt
  ·rw [List.getElem?_eq_none (by simpa using hge)] at hu;cases hu
 obtain ⟨b, off, e, _, hc⟩ := h.2 j (by have := h.1; omega);injection e with e;subst e;have hadd : (⟨b, off, none⟩ : Addr).add j = ⟨b, off + j, none⟩ := by unfold Addr.add; split <;> simp_all
 rw [hadd, hc, cZ hj];rw [List.getElem?_map, List.getElem?_eq_getElem hj] at hu
 simpa using hu
theorem aaO (w : World) (ty B N m c : Nat) (v : Value) (l l' : List UInt8) (A : Option Addr) (hm : Made w B v l) (hr : Rd w N A m l') (hB : B <= w.heap.size) (hsum : l.length + m <= 140737488355328) :
  ∃ v' w', (Builtin.append_ #[116, 116] ty #[v, .slice A m c]).run prog w = .ok v' w' /\ Made w' B v' (l ++ l') /\ w.grownBy w' v.ownBlock := by
 obtain ⟨i0, hi, hz0, hz1, hz2⟩ := info_parts kb;rcases A with _ | ad
 ·have h0 : m = 0 := by
   rcases Nat.eq_zero_or_pos m with h | h
   ·exact h
   ·obtain ⟨b, off, e, _⟩ := hr.2 0 h;cases e
  subst h0;have hn : l' = [] := List.eq_nil_of_length_eq_zero hr.1;subst hn;refine ⟨v, w, ?_, by rw [List.append_nil]; exact hm, World.grownBy.refl w _⟩;rcases hm.2 with ⟨rfl, _⟩ | ⟨g, cap, cur, rfl, _, _, hnc, _⟩
  ·simp [Builtin.append_, run_underlying underlying116, sizeOf, typeInfo, hi, Builtin.lenOf, Builtin.firstCells]
  ·simp [Builtin.append_, run_underlying underlying116, sizeOf, typeInfo, hi, Builtin.lenOf, Builtin.firstCells, hnc, storeCells]
 ·obtain ⟨v', w', h1, h2, h3, _⟩ := run_append_own (P := prog) w B 116 ty 5 i0 (.int .u8 0) 1 1 underlying116 hi hz0 hz1 hz2 rfl (by decide) v l.length _ hm ad m c (l'.map fun u => .int .u8 (u.toNat : Int))
   (by have := hr.1; simpa using this) (rH hr) (by intro u hu; simp at hu; obtain ⟨x, _, rfl⟩ := hu; rfl) (by unfold maxLen; omega) (by omega) hB
  refine ⟨v', w', h1, ?_, h3⟩;rw [<- List.map_append] at h2;exact Made.yu h2
theorem dS {w : World} {ops : Array Oper} {rest : List Oper} {o : Oper} {a : Act} {Q : Exit -> Act -> World -> Prop} (hgd : o.guard = none) (s x : Operand)
  (ho : o.op = .call { callee := .builtin .append, args := #[s, x], argTypes := #[116, 116] })
  (B N m c : Nat) (v : Value) (l l' : List UInt8) (A : Option Addr) (hs : a.eval s = v) (hx : a.eval x = .slice A m c) (hm : Made w B v l) (hr : Rd w N A m l') (hB : B <= w.heap.size) (hsum : l.length + m <= 140737488355328)
  (h : ∀ v' w', Made w' B v' (l ++ l') -> w.grownBy w' v.ownBlock -> wpList prog ops Q rest (a.put o.dst v') w') : wpList prog ops Q (o :: rest) a w := by
 refine wpList_plain hgd fun K hK => ?_
 obtain ⟨v', w', hrun, h1, h2⟩ := aaO w o.type B N m c v l l' A hm hr hB hsum;unfold Oper.wp;simp [execOp, ho, resolve, invoke, builtin, hs, hx, hrun, Result.andThen];exact hK _ _ (h v' w' h1 h2)
theorem ic (A : Option Addr) (n c N B : Nat) (b : List UInt8) (w : World) (HB : Hid (B = w.heap.size)) (hb : Rd w N A n b) (hN : N <= B) (hn : n <= 140737488351232) :
  Calls prog 99 #[.slice A n c] w fun e w' => ∃ v, e = .returned v /\ Made w' B v b /\ Below B w w' := by
 have hBle := Nat.le_of_eq HB;go_enter func99, ntmps99;go_wp2_with (at_builtin; refine dS rfl _ _ rfl B N n c _ [] b A rfl rfl (World.ownsRow_nil _ _ _ _) hb hBle ?c1 ?_)
 case c1 => simp; omega
 intro v1 w1 hm1 hg1;go_wp2;go_ret;exact ⟨_, rfl, hm1, aj.grown hg1 hBle (by simp [Value.ownBlock])⟩
theorem Made.smn {w : World} {B : Nat} {v : Value} {l : List UInt8} (h : Made w B v l) (h0 : 0 < l.length) : ∃ g c, v = .slice (some ⟨g, 0, none⟩) l.length c /\ B <= g /\ l.length <= c /\ c <= maxLen := by
 rcases h.2 with ⟨_, h1⟩ | ⟨g, cap, cur, rfl, hB, _, h1, h2, _⟩
 ·omega
 ·exact ⟨g, cap, rfl, hB, h1, h2⟩
section
variable {ρ : Operand -> Value} {o : Oper} {x y z : Operand} {w : World} {b off n c t u : Nat}
theorem acY (h : 64 <= c) : (Instr.sliceAt 116 (.slice (some ⟨b, off, none⟩) n c) none (some (.int .i64 52)) none).run prog w = .ok (.slice (some ⟨b, off, none⟩) 52 c) w := wg (t := 52) (by omega)
theorem aca (h : 64 <= c) : (Instr.sliceAt 116 (.slice (some ⟨b, 0, none⟩) n c) (some (.int .i64 8)) (some (.int .i64 52)) none).run prog w = .ok (.slice (some ⟨b, 8, none⟩) 44 (c - 8)) w := by
 have := ra (b := b) (off := 0) (n := n) (w := w) (u := 8) (t := 52) (c := c) (by omega) (by omega) (by omega)
 simpa using this
theorem na (ho : o.op = .slice 116 x none (some (.const (.int .i64 52))) none) (hx : ρ x = .slice (some ⟨b, off, none⟩) n c) (hy : ρ (.const (.int .i64 52)) = .int .i64 52) (h : 64 <= c) : (execOp ρ o).run prog w = .ok (.value (.slice (some ⟨b, off, none⟩) 52 c)) w := by
 unfold execOp;simp only [ho, hx, hy, Option.map_some, Option.map_none, Sem.run_bind, acY h, Result.andThen_ok, Sem.run_pure]
theorem vn (ho : o.op = .slice 116 x (some (.const (.int .i64 8))) (some (.const (.int .i64 52))) none) (hx : ρ x = .slice (some ⟨b, 0, none⟩) n c) (hy : ρ (.const (.int .i64 52)) = .int .i64 52) (hz : ρ (.const (.int .i64 8)) = .int .i64 8) (h : 64 <= c) : (execOp ρ o).run prog w = .ok (.value (.slice (some ⟨b, 8, none⟩) 44 (c - 8))) w := by
 unfold execOp;simp only [ho, hx, hy, hz, Option.map_some, Option.map_none, Sem.run_bind, aca h, Result.andThen_ok, Sem.run_pure]
theorem se : (Instr.sliceAt 29 (.pointer (some ⟨b, 0, none⟩)) none none none).run prog w = .ok (.slice (some ⟨b, 0, none⟩) 64 64) w := by
 simp [Instr.sliceAt, Instr.sliceBounds, Instr.sureAddr, run_underlying pi, Tryz.sizeOf5, Addr.add_mid]
theorem gA (ho : o.op = .slice 29 x none none none) (hx : ρ x = .pointer (some ⟨b, 0, none⟩)) : (execOp ρ o).run prog w = .ok (.value (.slice (some ⟨b, 0, none⟩) 64 64)) w := by
 unfold execOp;simp only [ho, hx, Option.map_none, Sem.run_bind, se, Result.andThen_ok, Sem.run_pure]
end
theorem Rd.piece {w : World} {N g n p k : Nat} {l : List UInt8} (h : Rd w N (some ⟨g, 0, none⟩) n l) (hk : p + k <= n) : Rd w N (some ⟨g, p, none⟩) k (piece l p k) :=
 ⟨co (by have := h.1; omega), fun j hj => by
  obtain ⟨b, off, e, hb, hc⟩ := h.2 (p + j) (by omega);injection e with e;injection e with e1 e2;subst e1 e2;refine ⟨g, p, rfl, hb, ?_⟩;rw [gh hj, <- hc, Nat.zero_add]⟩
theorem uU (b : Blk) (B : Nat) (w : World) (HB : Hid (B = w.heap.size)) (h0 : dF b.toList = 0) :
  Calls prog 106 #[blk b] w fun e w' => ∃ v, e = .returned (.tuple #[.int .u64 (c8 b.toList : Nat), v, .int .i64 (db b.toList : Nat)]) /\ Made w' B v (cH b.toList) /\ Below B w w' := by
 have hA := cr.blk w b 29;have hbA := (Below.refl w.heap.size w).alloc ai (.cells (cel b).toArray 29);have hRA := hA.rd (p := 0) (k := 64) (by simp);rw [fp (cJ b)] at hRA;have HRA := ae hRA;have HBA := ae hbA;have HL := ae (cJ b);have hE := gQ (.inl h0);have HE := ae hE;have HN := ae (iv (l := b.toList) (by omega));have HBB := ae (jE (l := b.toList) (by omega));have HX : Hid (val 8 (piece b.toList 0 8) = 0) := ae h0;obtain ⟨y, hy⟩ : ∃ y, agO b.toList = y := ⟨_, rfl⟩;have HY : Hid (val 8 (piece b.toList 56 8) = y) := ae hy;clear hE h0 hy;clear hA hbA hRA;go_enter func106, ntmps106;go_wp2_with (first | (refine av rfl (bZ rfl rfl) ?_) | (refine av rfl (gA rfl rfl) ?_) | fail);refine (ic _ 64 64 _ _ b.toList _ (ae rfl) HRA ai (by omega)).mono ?_;rintro e w1 ⟨v1, rfl, hm1, hb1⟩;obtain ⟨q, c, rfl, hq, hc1, hc2⟩ := hm1.smn (by rw [HL.out]; omega);rw [HL.out] at hm1 hc1 ⊢;have hrd := hm1.rd;have HBL := ae (HBA.out.trans (hb1.mono (by simp only [World.size_alloc]; omega)));have HR := ae hrd;have HC2 := ae hc2;clear hb1 hrd hm1 HBA HRA hq hc2;generalize hrr : w.heap.size = r at *;have HSZ : Hid (r <= w1.heap.size) := ae (ap (Nat.le_of_eq hrr.symm) HBL.out.size);clear hrr;go_wp2_with fail;refine (dU _ 64 c _ b.toList 0 8 _ HR (by unfold maxLen; omega) (by omega) (by omega) (by omega)).mono ?_;rintro e w2 ⟨rfl, rfl⟩;rw [HX.out];go_wp2_with fail;refine (dU _ 64 c _ b.toList 56 8 _ HR (by unfold maxLen; omega) (by omega) (by omega) (by omega)).mono ?_;rintro e w2 ⟨rfl, rfl⟩;rw [HY.out];go_wp2_with fail;refine bodyPost_ret (v := .tuple #[.int .u64 0, .slice none 0 0, .int .i64 5]) (by simp [results, Tryz.results106, go_sem]) rfl ⟨_, by rw [HE.out, HN.out]; rfl, by rw [HBB.out]; exact World.ownsRow_nil _ _ _ _, by rw [HB.out]; exact HBL⟩
theorem qV (b : Blk) (B : Nat) (w : World) (HB : Hid (B = w.heap.size)) (h0 : dF b.toList ≠ 0) (h1 : dF b.toList ≠ agO b.toList) :
  Calls prog 106 #[blk b] w fun e w' => ∃ v, e = .returned (.tuple #[.int .u64 (c8 b.toList : Nat), v, .int .i64 (db b.toList : Nat)]) /\ Made w' B v (cH b.toList) /\ Below B w w' := by
 have hA := cr.blk w b 29;have hbA := (Below.refl w.heap.size w).alloc ai (.cells (cel b).toArray 29);have hRA := hA.rd (p := 0) (k := 64) (by simp);rw [fp (cJ b)] at hRA;have HRA := ae hRA;have HBA := ae hbA;have HL := ae (cJ b);have hE := gQ (.inr h1);have HE := ae hE;have HN := ae (iv (l := b.toList) (by omega));have HBB := ae (jE (l := b.toList) (by omega));obtain ⟨x, hx⟩ : ∃ x, dF b.toList = x := ⟨_, rfl⟩;have HX : Hid (val 8 (piece b.toList 0 8) = x) := ae hx;obtain ⟨y, hy⟩ : ∃ y, agO b.toList = y := ⟨_, rfl⟩;have HY : Hid (val 8 (piece b.toList 56 8) = y) := ae hy;rw [hx] at h0 h1;rw [hy] at h1;have hz : ((x : Int) == 0) = false := by simp; omega
 have hn : ((x : Int) != (y : Int)) = true := by simp; omega
 clear hE h0 h1 hx hy;clear hA hbA hRA;go_enter func106, ntmps106;go_wp2_with (first | (refine av rfl (bZ rfl rfl) ?_) | (refine av rfl (gA rfl rfl) ?_) | fail);refine (ic _ 64 64 _ _ b.toList _ (ae rfl) HRA ai (by omega)).mono ?_;rintro e w1 ⟨v1, rfl, hm1, hb1⟩;obtain ⟨q, c, rfl, hq, hc1, hc2⟩ := hm1.smn (by rw [HL.out]; omega);rw [HL.out] at hm1 hc1 ⊢;have hrd := hm1.rd;have HBL := ae (HBA.out.trans (hb1.mono (by simp only [World.size_alloc]; omega)));have HR := ae hrd;have HC2 := ae hc2;clear hb1 hrd hm1 HBA HRA hq hc2;generalize hrr : w.heap.size = r at *;have HSZ : Hid (r <= w1.heap.size) := ae (ap (Nat.le_of_eq hrr.symm) HBL.out.size);clear hrr;go_wp2_with fail;refine (dU _ 64 c _ b.toList 0 8 _ HR (by unfold maxLen; omega) (by omega) (by omega) (by omega)).mono ?_;rintro e w2 ⟨rfl, rfl⟩;rw [HX.out];go_wp2_with fail;refine (dU _ 64 c _ b.toList 56 8 _ HR (by unfold maxLen; omega) (by omega) (by omega) (by omega)).mono ?_;rintro e w2 ⟨rfl, rfl⟩;rw [HY.out];go_wp2_with fail;refine bodyPost_ret (v := .tuple #[.int .u64 0, .slice none 0 0, .int .i64 5]) (by simp [results, Tryz.results106, go_sem]) rfl ⟨_, by rw [HE.out, HN.out]; rfl, by rw [HBB.out]; exact World.ownsRow_nil _ _ _ _, by rw [HB.out]; exact HBL⟩
theorem xk (b : Blk) (B : Nat) (w : World) (HB : Hid (B = w.heap.size)) (h0 : dF b.toList ≠ 0) (h1 : dF b.toList = agO b.toList) (h2 : jQ b.toList ≠ jO b.toList) :
  Calls prog 106 #[blk b] w fun e w' => ∃ v, e = .returned (.tuple #[.int .u64 (c8 b.toList : Nat), v, .int .i64 (db b.toList : Nat)]) /\ Made w' B v (cH b.toList) /\ Below B w w' := by
 have hA := cr.blk w b 29;have hbA := (Below.refl w.heap.size w).alloc ai (.cells (cel b).toArray 29);have hRA := hA.rd (p := 0) (k := 64) (by simp);rw [fp (cJ b)] at hRA;have HRA := ae hRA;have HBA := ae hbA;have HL := ae (cJ b);have hE := pU h0 h1 h2;have HE := ae hE;have HN := ae (iv (l := b.toList) (by omega));have HBB := ae (jE (l := b.toList) (by omega));obtain ⟨x, hx⟩ : ∃ x, dF b.toList = x := ⟨_, rfl⟩;have HX : Hid (val 8 (piece b.toList 0 8) = x) := ae hx;have HY : Hid (val 8 (piece b.toList 56 8) = x) := ae (by rw [<- hx]; exact h1.symm);rw [hx] at h0;obtain ⟨s, hs⟩ : ∃ s, jQ b.toList = s := ⟨_, rfl⟩;obtain ⟨k, hk⟩ : ∃ k, jO b.toList = k := ⟨_, rfl⟩;have HSU : Hid (val 8 (piece b.toList 52 4) = s) := ae hs;have HCR : Hid (more 0 (piece b.toList 0 52) = k) := ae hk;have hsl := mz (cJ b);have hkl := mq b.toList;rw [hs] at hsl h2;rw [hk] at hkl h2;have hz : ((x : Int) == 0) = false := by simp; omega
 have hn : ((x : Int) != (x : Int)) = false := by simp
 have hc : ((k : Int) != (s : Int)) = true := by simp; omega
 clear hE h0 h1 hx h2 hs hk;clear hA hbA hRA;go_enter func106, ntmps106;go_wp2_with (first | (refine av rfl (bZ rfl rfl) ?_) | (refine av rfl (gA rfl rfl) ?_) | fail);refine (ic _ 64 64 _ _ b.toList _ (ae rfl) HRA ai (by omega)).mono ?_;rintro e w1 ⟨v1, rfl, hm1, hb1⟩;obtain ⟨q, c, rfl, hq, hc1, hc2⟩ := hm1.smn (by rw [HL.out]; omega);rw [HL.out] at hm1 hc1 ⊢;have hrd := hm1.rd;have HBL := ae (HBA.out.trans (hb1.mono (by simp only [World.size_alloc]; omega)));have HR := ae hrd;have HC2 := ae hc2;clear hb1 hrd hm1 HBA HRA hq hc2;generalize hrr : w.heap.size = r at *;have HSZ : Hid (r <= w1.heap.size) := ae (ap (Nat.le_of_eq hrr.symm) HBL.out.size);clear hrr;go_wp2_with fail;refine (dU _ 64 c _ b.toList 0 8 _ HR (by unfold maxLen; omega) (by omega) (by omega) (by omega)).mono ?_;rintro e w2 ⟨rfl, rfl⟩;rw [HX.out];go_wp2_with fail;refine (dU _ 64 c _ b.toList 56 8 _ HR (by unfold maxLen; omega) (by omega) (by omega) (by omega)).mono ?_;rintro e w2 ⟨rfl, rfl⟩;rw [HY.out];go_wp2_with fail;refine (dU _ 64 c _ b.toList 52 4 _ HR (by unfold maxLen; omega) (by omega) (by omega) (by omega)).mono ?_;rintro e w2 ⟨rfl, rfl⟩;rw [HSU.out];go_wp2_with (first | (refine av rfl (na rfl rfl rfl hc1) ?_) | fail);refine (lz _ 52 c _ (piece b.toList 0 52) _ (HR.out.piece (p := 0) (k := 52) (by omega)) (by unfold maxLen; omega)).mono ?_;rintro e w2 ⟨rfl, rfl⟩;rw [HCR.out];go_wp2_with fail;refine bodyPost_ret (v := .tuple #[.int .u64 0, .slice none 0 0, .int .i64 6]) (by simp [results, Tryz.results106, go_sem]) rfl ⟨_, by rw [HE.out, HN.out]; rfl, by rw [HBB.out]; exact World.ownsRow_nil _ _ _ _, by rw [HB.out]; exact HBL⟩
theorem wJ (b : Blk) (B : Nat) (w : World) (HB : Hid (B = w.heap.size)) (h0 : dF b.toList ≠ 0) (h1 : dF b.toList = agO b.toList) (h2 : jQ b.toList = jO b.toList) :
  Calls prog 106 #[blk b] w fun e w' => ∃ v, e = .returned (.tuple #[.int .u64 (c8 b.toList : Nat), v, .int .i64 (db b.toList : Nat)]) /\ Made w' B v (cH b.toList) /\ Below B w w' := by
 have hA := cr.blk w b 29;have hbA := (Below.refl w.heap.size w).alloc ai (.cells (cel b).toArray 29);have hRA := hA.rd (p := 0) (k := 64) (by simp);rw [fp (cJ b)] at hRA;have HRA := ae hRA;have HBA := ae hbA;have HL := ae (cJ b);have hE := pw h0 h1 h2;have HE := ae hE;have HN := ae (kD hE);have HBB := ae (kt hE);obtain ⟨x, hx⟩ : ∃ x, dF b.toList = x := ⟨_, rfl⟩;have HX : Hid (val 8 (piece b.toList 0 8) = x) := ae hx;have HY : Hid (val 8 (piece b.toList 56 8) = x) := ae (by rw [<- hx]; exact h1.symm);rw [hx] at h0;obtain ⟨s, hs⟩ : ∃ s, jQ b.toList = s := ⟨_, rfl⟩;obtain ⟨k, hk⟩ : ∃ k, jO b.toList = k := ⟨_, rfl⟩;have HSU : Hid (val 8 (piece b.toList 52 4) = s) := ae hs;have HCR : Hid (more 0 (piece b.toList 0 52) = k) := ae hk;have hsl := mz (cJ b);have hkl := mq b.toList;rw [hs] at hsl h2;rw [hk] at hkl h2;have hz : ((x : Int) == 0) = false := by simp; omega
 have hn : ((x : Int) != (x : Int)) = false := by simp
 have hc : ((k : Int) != (s : Int)) = false := by simp; omega
 have HXX := ae hx;clear hE h0 h1 hx h2 hs hk;clear hA hbA hRA;go_enter func106, ntmps106;go_wp2_with (first | (refine av rfl (bZ rfl rfl) ?_) | (refine av rfl (gA rfl rfl) ?_) | fail);refine (ic _ 64 64 _ _ b.toList _ (ae rfl) HRA ai (by omega)).mono ?_;rintro e w1 ⟨v1, rfl, hm1, hb1⟩;obtain ⟨q, c, rfl, hq, hc1, hc2⟩ := hm1.smn (by rw [HL.out]; omega);rw [HL.out] at hm1 hc1 ⊢;have hrd := hm1.rd;have HBL := ae (HBA.out.trans (hb1.mono (by simp only [World.size_alloc]; omega)));have HR := ae hrd;have HC2 := ae hc2;clear hb1 hrd hm1 HBA HRA hq hc2;generalize hrr : w.heap.size = r at *;have HSZ : Hid (r <= w1.heap.size) := ae (ap (Nat.le_of_eq hrr.symm) HBL.out.size);clear hrr;go_wp2_with fail;refine (dU _ 64 c _ b.toList 0 8 _ HR (by unfold maxLen; omega) (by omega) (by omega) (by omega)).mono ?_;rintro e w2 ⟨rfl, rfl⟩;rw [HX.out];go_wp2_with fail;refine (dU _ 64 c _ b.toList 56 8 _ HR (by unfold maxLen; omega) (by omega) (by omega) (by omega)).mono ?_;rintro e w2 ⟨rfl, rfl⟩;rw [HY.out];go_wp2_with fail;refine (dU _ 64 c _ b.toList 52 4 _ HR (by unfold maxLen; omega) (by omega) (by omega) (by omega)).mono ?_;rintro e w2 ⟨rfl, rfl⟩;rw [HSU.out];go_wp2_with (first | (refine av rfl (na rfl rfl rfl hc1) ?_) | fail);refine (lz _ 52 c _ (piece b.toList 0 52) _ (HR.out.piece (p := 0) (k := 52) (by omega)) (by unfold maxLen; omega)).mono ?_;rintro e w2 ⟨rfl, rfl⟩;rw [HCR.out];go_wp2_with (first | (refine av rfl (vn rfl rfl rfl rfl hc1) ?_) | fail);refine (ic _ 44 (c - 8) _ _ (piece b.toList 8 44) _ (ae rfl) (HR.out.piece (p := 8) (k := 44) (by omega)) ai (by omega)).mono ?_;rintro e w2 ⟨v2, rfl, hm2, hb2⟩;have HM2 := ae hm2;have HB2 := ae (HBL.out.trans (hb2.mono HSZ));clear hm2 hb2;go_wp2_with fail;refine bodyPost_ret (v := .tuple #[.int .u64 (x : Int), v2, .int .i64 0]) (by simp [results, Tryz.results106, go_sem]) rfl ⟨_, by rw [HE.out, HN.out, HXX.out]; rfl, by rw [HBB.out, HB.out]; exact HM2.out.base HSZ, by rw [HB.out]; exact HB2⟩
theorem iQ (b : Blk) (B : Nat) (w : World) (HB : Hid (B = w.heap.size)) : Calls prog 106 #[blk b] w fun e w' => ∃ v, e = .returned (.tuple #[.int .u64 (c8 b.toList : Nat), v, .int .i64 (db b.toList : Nat)]) /\ Made w' B v (cH b.toList) /\ Below B w w' := by
 by_cases h0 : dF b.toList = 0
 ·exact uU b B w HB h0
 ·by_cases h1 : dF b.toList = agO b.toList
  ·by_cases h2 : jQ b.toList = jO b.toList
   ·exact wJ b B w HB h0 h1 h2
   ·exact xk b B w HB h0 h1 h2
  ·exact qV b B w HB h0 h1
end Go.Proofs.YtehefifamaofkaaGreatDoor
