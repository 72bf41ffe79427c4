import Derived.Test.YtehefifamaofkaaGreatDoorGfad
import Derived.Deep.DeepCutAuto
namespace Go.Proofs.YtehefifamaofkaaGreatDoor
set_option maxHeartbeats 8000000
open Go.Proofs.Tryz
open Go.RowKit
set_option linter.unusedVariables false
set_option maxRecDepth 100000
def cU (x : Ros) : List Value := [.int .i64 x.m, .int .i64 x.s, .int .i64 x.r]
def aU (x : Ros) : List Value := .int .i64 x.m :: .int .i64 x.s :: .int .i64 x.r :: (vals x.st.toList ++ [.int .i64 x.cur, .bool x.gone])
def ros (x : Ros) : Value := .agg (aU x).toArray
def geo (x : Ros) : Value := .agg (cU x).toArray
theorem aY (x : Ros) : (aU x).length = 21 := by simp [aU, bi]
theorem gl (x : Ros) : ∀ v ∈ aU x, v.oneCell' = true := by
 intro v hv;simp only [aU, List.mem_cons, List.mem_append, List.not_mem_nil, or_false] at hv;rcases hv with rfl | rfl | rfl | hv | rfl | rfl
 ·rfl
 ·rfl
 ·rfl
 ·exact gj _ v hv
 ·rfl
 ·rfl
theorem mW : (prog.info? 35).map (·.size) = some 21 := by kernel_rfl
theorem ab5 : (prog.info? 32).map (·.size) = some 3 := by kernel_rfl
theorem aaC : (prog.info? 33).map (·.size) = some 16 := by kernel_rfl
theorem ri : (prog.info? 35).map (fun i => i.zero) = some (some (ros bO)) := by kernel_rfl
theorem o5 : (prog.info? 33).map (fun i => i.zero) = some (some (arr (List.replicate 16 0))) := by kernel_rfl
section
variable {ρ : Operand -> Value} {o : Oper} {x y : Operand} {w : World} {b off : Nat}
theorem bh {c : Ros} (ho : o.op = .load 35 x) (hx : ρ x = .pointer (some ⟨b, off, none⟩)) (hc : w.rangeAt b off (aU c)) : (execOp ρ o).run prog w = .ok (.value (ros c)) w :=
 dU underlying35 rfl (by rw [aY]; exact mW) ho hx hc
theorem ct {c : Ros} (ho : o.op = .load 32 x) (hx : ρ x = .pointer (some ⟨b, off, none⟩)) (hc : w.rangeAt b off (cU c)) : (execOp ρ o).run prog w = .ok (.value (geo c)) w :=
 dU underlying32 rfl ab5 ho hx hc
theorem dy {l : List UInt8} (hl : l.length = 16) (ho : o.op = .load 33 x) (hx : ρ x = .pointer (some ⟨b, off, none⟩)) (hc : w.rangeAt b off (vals l)) : (execOp ρ o).run prog w = .ok (.value (arr l)) w :=
 dU underlying33 rfl (by rw [bi, hl]; exact aaC) ho hx hc
theorem bf {c : Ros} (ho : o.op = .box 35 x) (hx : ρ x = ros c) : (execOp ρ o).run prog w = .ok (.value (.pointer (some ⟨w.heap.size, 0, none⟩))) (w.alloc (.cells (aU c).toArray 35)) := eI ho hx
theorem cz (ho : o.op = .alloc 35) : (execOp ρ o).run prog w = .ok (.value (.pointer (some ⟨w.heap.size, 0, none⟩))) (w.alloc (.cells (aU bO).toArray 35)) := cX ri ho
theorem ov (ho : o.op = .alloc 33) : (execOp ρ o).run prog w = .ok (.value (.pointer (some ⟨w.heap.size, 0, none⟩))) (w.alloc (.cells (vals (List.replicate 16 0)).toArray 33)) := cX o5 ho
theorem mz {c d : Ros} (ho : o.op = .store 35 x y) (hx : ρ x = .pointer (some ⟨w.heap.size, 0, none⟩)) (hy : ρ y = ros c) : (execOp ρ o).run prog (w.alloc (.cells (aU d).toArray 35)) = .ok .skip (w.alloc (.cells (aU c).toArray 35)) :=
 eW (by rw [aY]; exact mW) (by rw [aY, aY]) (gl c) ho hx hy
end
theorem yG (w : World) (a b : Ros) (d : Nat) : (Op.equalIn (d + 2) 32 (geo a) (geo b)).run prog w = .ok (decide (a.m = b.m /\ a.s = b.s /\ a.r = b.r)) w := by
 have he : ∀ x y : Int, (Op.equalIn (d + 1) 3 (.int .i64 x) (.int .i64 y)).run prog w = .ok (x == y) w := fun x y => run_equalIn_int w d 3 .i64 .i64 x y underlying3
 unfold geo;rw [show d + 2 = (d + 1) + 1 from rfl, run_equalIn_struct w (d + 1) 32 _ _ (by kernel_rfl) (by kernel_rfl)];simp only [Program.fieldsOf, underlying32, Op.eqFields, cU];simp [part, he];by_cases h1 : a.m = b.m <;> by_cases h2 : a.s = b.s <;> by_cases h3 : a.r = b.r <;> simp [h1, h2, h3]
theorem fw (x : Ros) : aU x = cU x ++ (vals x.st.toList ++ [.int .i64 x.cur, .bool x.gone]) := rfl
section
variable {ρ : Operand -> Value} {o : Oper} {x y : Operand} {w : World} {t : TypeId}
theorem zj : prog.eqGuardType prog.depth 33 = false := by kernel_rfl
theorem nz {a b : List UInt8} (c : Bool) (ha : a.length = 16) (hb : b.length = 16) (ho : o.op = .binOp .eql 33 x y t) (hx : ρ x = arr a) (hy : ρ y = arr b) (h : decide (a = b) = c) : (execOp ρ o).run prog w = .ok (.value (.bool c)) w := by
 subst h; exact qj zj (nl underlying33 w a b ha hb 9998) ho hx hy
theorem dI {l : List UInt8} {j : Nat} (hl : l.length = 16) (hj : j < 16) (ho : o.op = .index 33 x y) (hx : ρ x = arr l) (hy : ρ y = .int .i64 (j : Int)) : (execOp ρ o).run prog w = .ok (.value (.int .u8 (bt l j))) w := by
 have hp : (part 5 (vals l).toArray (j * 1)).run prog w = .ok (.int .u8 (bt l j)) w := by
  have := fA (l := l) (j := j) (by omega);simp [part, this]
 have h : (Instr.index 33 (arr l) (.int .i64 (j : Int))).run prog w = .ok (.int .u8 (bt l j)) w := by
  have e : (0 <= (j : Int) /\ (j : Int) < 16) := by omega
  unfold arr;simp [Instr.index, asIntOf, run_underlying underlying33, Tryz.sizeOf5, hj]
  simpa using hp
 unfold execOp;simp only [ho, hx, hy, Sem.run_bind, h, Result.andThen_ok, Sem.run_pure]
end
def bF (w : World) (b : Nat) (x : Ros) : Prop := w.heap[b]? = some (.cells (aU x).toArray 35 (0, 0))
section
variable {w w' : World} {b : Nat} {x : Ros}
theorem bF.range (h : bF w b x) : w.rangeAt b 0 (aU x) := br h
theorem bF.geo (h : bF w b x) : w.rangeAt b 0 (cU x) := dJ (cs := aU x) (ds := []) (k := 0) h.range rfl rfl
theorem bF.sts (h : bF w b x) : w.rangeAt b 3 (vals x.st.toList) := by
 have := dJ (k := 3) h.range (fw x) rfl;rwa [Nat.zero_add] at this
theorem bF.cells (h : bF w b x) : w.cell? ⟨b, 0, none⟩ = some (.int .i64 x.m) /\ w.cell? ⟨b, 1, none⟩ = some (.int .i64 x.s) /\ w.cell? ⟨b, 2, none⟩ = some (.int .i64 x.r) /\ w.cell? ⟨b, 19, none⟩ = some (.int .i64 x.cur) /\ w.cell? ⟨b, 20, none⟩ = some (.bool x.gone) := by
 have hr := dJ (k := 19) (ds := cU x ++ vals x.st.toList) (es := [.int .i64 x.cur, .bool x.gone]) (fs := []) h.range (by simp [fw]) (by simp [cU, bi]);exact ⟨h.range 0 _ rfl, h.range 1 _ rfl, h.range 2 _ rfl, hr 0 _ rfl, hr 1 _ rfl⟩
theorem bF.sta (h : bF w b x) {j : Nat} (hj : j < 16) : w.cell? ⟨b, 3 + j, none⟩ = some (.int .u8 (sta x j)) := h.sts j _ (fA (by simpa using hj))
theorem bF.below {B : Nat} (h : bF w b x) (hB : b < B) (hb : Below B w w') : bF w' b x := kB h hB hb
theorem bF.new (w : World) (x : Ros) : bF (w.alloc (.cells (aU x).toArray 35)) w.heap.size x := heap_alloc_new w _
theorem bF.past (h : bF w b x) (o : Obj) : bF (w.alloc o) b x := bv h o
theorem bF.rd (h : bF w b x) {m : Nat} (hm : m <= 16) : Rd w w.heap.size (some ⟨b, 3, none⟩) m (x.st.toList.take m) :=
 ⟨by simp; omega, fun k hk => ⟨b, 3, rfl, aW h, by
  rw [h.sta (j := k) (by omega)];unfold Proofs.YtehefifamaofkaaGreatDoor.sta bt;simp [List.getD, List.getElem?_take_of_lt hk]⟩⟩
end
theorem cY (w : World) (x : Ros) : bF (w.alloc (.cells (aU x).toArray 35)) w.heap.size x /\ Below w.heap.size w (w.alloc (.cells (aU x).toArray 35)) /\ w.heap.size < (w.alloc (.cells (aU x).toArray 35)).heap.size :=
 ⟨bF.new w x, (Below.refl w.heap.size w).alloc ai _, by simp only [World.size_alloc]; omega⟩
section
variable {w : World} {b off : Nat}
theorem kr : (Instr.fieldAt 35 (.pointer (some ⟨b, 0, none⟩)) 0).run prog w = .ok (.pointer (some ⟨b, 0, none⟩)) w := by kernel_rfl
theorem kU : (Instr.fieldAt 35 (.pointer (some ⟨b, 0, none⟩)) 1).run prog w = .ok (.pointer (some ⟨b, 3, none⟩)) w := by kernel_rfl
theorem o8 : (Instr.fieldAt 32 (.pointer (some ⟨b, 0, none⟩)) 0).run prog w = .ok (.pointer (some ⟨b, 0, none⟩)) w := by kernel_rfl
theorem oG {g off j : Nat} (hj : j < 16) : (Instr.indexAt 33 (.pointer (some ⟨g, off, none⟩)) (.int .i64 (j : Int))).run prog w = .ok (.pointer (some ⟨g, off + j, none⟩)) w := by
 have e : (0 <= (j : Int) /\ (j : Int) < 16) := by omega
 simp [Instr.indexAt, Instr.sureAddr, asIntOf, run_underlying underlying33, Tryz.sizeOf5, Addr.add_mid, e, hj]
theorem uQ {b : Nat} : (Instr.fieldAt 35 (.pointer (some ⟨b, 0, none⟩)) 2).run prog w = .ok (.pointer (some ⟨b, 19, none⟩)) w := by kernel_rfl
theorem wc {b : Nat} : (Instr.fieldAt 32 (.pointer (some ⟨b, 0, none⟩)) 1).run prog w = .ok (.pointer (some ⟨b, 1, none⟩)) w := by kernel_rfl
end
theorem pr (l x : List UInt8) (off : Nat) : splice (vals l) off (vals x) = vals (splice l off x) := by
 unfold splice vals;simp [List.map_take, List.map_drop]
def cl (w : World) (g : Nat) (t : TypeId) (l : List UInt8) : Prop := w.heap[g]? = some (.cells (vals l).toArray t (0, 0))
section
variable {w w' : World} {g : Nat} {t : TypeId} {l : List UInt8}
theorem cl.lt (h : cl w g t l) : g < w.heap.size := (Array.getElem?_eq_some_iff.1 h).1
theorem cl.below {B : Nat} (h : cl w g t l) (hB : g < B) (hb : Below B w w') : cl w' g t l := (hb.block g hB).trans h
theorem cl.grown {k : Nat} (h : cl w g t l) (hk : g ≠ k) (hb : w.grownBy w' (some k)) : cl w' g t l := (hb.block g h.lt (fun e => hk (by injection e))).trans h
theorem cl.draw (h : cl w g t l) : cl w.drew g t l := h
theorem cl.past (h : cl w g t l) (o : Obj) : cl (w.alloc o) g t l := bv h o
theorem cl.cell (h : cl w g t l) {j : Nat} (hj : j < l.length) : w.cell? ⟨g, j, none⟩ = some (.int .u8 (bt l j)) := by
 rw [cell_of_row w g j _ t (0, 0) h, List.getElem?_toArray, fA hj]
theorem cl.rd (h : cl w g t l) {p k : Nat} (hp : p + k <= l.length) : Rd w w.heap.size (some ⟨g, p, none⟩) k (piece l p k) :=
 ⟨cM hp, fun j hj => ⟨g, p, rfl, h.lt, by rw [h.cell (by omega), pC hj]⟩⟩
theorem cl.range (h : cl w g t l) (hl : l.length = 64) : w.rangeAt g 0 (cel (ofL l)) := fun j v hj => by
 have hlt : j < 64 := by have := (List.getElem?_eq_some_iff.1 hj).1; rwa [aF] at this
 rw [Nat.zero_add, h.cell (by omega), <- hj, kj _ hlt, kZ _ hlt]
theorem cl.new (w : World) (l : List UInt8) (t : TypeId) : cl (w.alloc (.cells (vals l).toArray t)) w.heap.size t l := heap_alloc_new w _
theorem cl.blk (w : World) (b : Blk) (t : TypeId) : cl (w.alloc (.cells (cel b).toArray t)) w.heap.size t b.toList := heap_alloc_new w _
theorem cl.row (h : cl w g t l) : w.rowIs g t l.length (fun j => .int .u8 (bt l j)) :=
 ⟨_, h, by simp [bi], fun j hj => by rw [List.getElem?_toArray, fA hj]⟩
end
theorem ef {w : World} {ops : Array Oper} {rest : List Oper} {o : Oper} {a : Act} {Q : Exit -> Act -> World -> Prop} (hgd : o.guard = none) (d s : Operand)
  (ho : o.op = .call { callee := .builtin .copy, args := #[d, s], argTypes := #[116, 116] }) (g off n c m c' N : Nat) (A : Option Addr) (t : TypeId) (l x : List UInt8)
  (hd : a.eval d = .slice (some ⟨g, off, none⟩) n c) (hs : a.eval s = .slice A m c') (hS : cl w g t l) (hr : Rd w N A m x) (hmn : m <= n) (hfit : off + m <= l.length)
  (h : ∀ w', cl w' g t (splice l off x) -> w.grownBy w' (some g) -> wpList prog ops Q rest (a.put o.dst (goInt m)) w') : wpList prog ops Q (o :: rest) a w := by
 have hx := hr.1;rcases A with _ | ad
 ·have h0 : m = 0 := by
   rcases Nat.eq_zero_or_pos m with h | h
   ·exact h
   ·obtain ⟨b, off, e, _⟩ := hr.2 0 h;cases e
  subst h0;obtain rfl : x = [] := List.eq_nil_of_length_eq_zero hx;refine wpList_copy_nothing hgd d s _ _ ho 5 underlying116 (by kernel_rfl) _ _ _ _ _ _ hd hs (Nat.zero_min _) ?_;exact h w (by simpa [splice] using hS) (World.grownBy.refl w _)
 ·have hcl : (vals x).length = m := by rw [bi, hx]
  refine wpList_copy_own hgd d s _ _ ho 5 underlying116 (by kernel_rfl) g off n c ad m c' hd hs _ t hS (vals x) (by rw [hcl]; exact (Nat.min_eq_left hmn).symm) (fun j v hj => ?_) (by simp [hcl, bi]; omega) (gj x) ?_
  ·have hlt : j < m := by have := (List.getElem?_eq_some_iff.1 hj).1; omega
   obtain ⟨b, o2, e, _, hc⟩ := hr.2 j hlt;injection e with e;subst e;rw [Addr.add_mid, hc, <- hj, fA (by omega)]
  ·have hrow := setRow_heap w g (vals l).toArray ((vals l).toArray.toList.take off ++ (vals x ++ (vals l).toArray.toList.drop (off + (vals x).length))).toArray t (0, 0) hS;have e : (vals l).toArray.toList.take off ++ (vals x ++ (vals l).toArray.toList.drop (off + (vals x).length)) = vals (splice l off x) := by
    rw [<- pr]
    rfl
   rw [hcl];rw [hcl] at hrow e;refine h _ ?_ ⟨rfl, rfl, rfl, by simp [World.setRow], fun k hk hne => setRow_other w g k _ (fun e => hne (by rw [e]))⟩;unfold cl;rw [e] at hrow ⊢;exact hrow
theorem max_u32 : IntKind.u32.max = 4294967295 := by decide
theorem jm (r : Nat) (h : r < 4294967296) : bits .xor .u32 IntKind.u32.max (r : Int) = ((neg r : Nat) : Int) := by
 rw [max_u32];exact u32_xor_nat 4294967295 r (by omega) h
theorem pU (r : Nat) (l : List UInt8) {k : Nat} (h : k < l.length) : tak (run r (l.take k)) l[k].toNat = run r (l.take (k + 1)) := by
 rw [List.take_succ_eq_append_getElem h, rB]
 rfl
theorem vU (s : Nat) (A : Option Addr) (n c N : Nat) (b : List UInt8) (w : World) (T : Tab w) (hs : s < 4294967296) (hb : Rd w N A n b) (hn : n <= maxLen) :
  Calls prog 148 #[.int .u32 s, .slice A n c] w fun e w' => e = .returned (.int .u32 (more s b)) /\ w = w' := by
 have hnb := jm s hs;have hnl := og hs;have hlen := hb.1;unfold maxLen at hn;have HL := ae hlen;clear hlen;go_enter func148, ntmps148;go_wp2;clear hnb;have HM : Hid (more s b = neg (run (neg s) b)) := ae rfl;generalize neg s = r0 at *
 go_loop [5, 12] (fun x i => ∃ j : Nat, j <= n /\ i = .int .i64 j /\ x = .int .u32 (run r0 (b.take j))) (fun _ i => n - (intOf i).toNat)
 case atStart => exact ⟨0, by omega, rfl, rfl⟩
 case round =>
  obtain ⟨j, hj, rfl, rfl⟩ := hrel;by_cases hlt : j < n
  ·obtain ⟨bA, oA, rfl, hA, cA⟩ := hb.2 j hlt;have hjl : j < b.length := by have := HL.out; omega
   rw [cP hjl] at cA;have HS := ae (pU r0 b hjl);have hu := UInt8.toNat_lt b[j];generalize b[j].toNat = u at *;have hrl := lC hnl (b.take j);go_wp2_with fail;refine (xA (run r0 (b.take j)) u _ T hrl hu).mono ?_;rintro e w' ⟨rfl, rfl⟩;go_wp2
   go_round
   case rel => exact ⟨j + 1, by omega, by go_num, by rw [HS.out]⟩
   case measure => simp [intOf]; omega
  ·have h : j = n := by omega
   subst h;have ht : b.take j = b := List.take_of_length_le (Nat.le_of_eq HL);rw [ht];have hrl := lC hnl b;have hnb := jm (run r0 b) hrl;clear ht;go_wp2;go_ret;exact ⟨bD (by first | rw [HM.out] | rw [HM.out, hnb]), rfl⟩
theorem oN (s : Nat) (A : Option Addr) (n c N : Nat) (b : List UInt8) (w : World) (hs : s < 4294967296) (hb : Rd w N A n b) (hn : n <= maxLen) :
  Calls prog 115 #[.int .u32 s, .slice A n c] w fun e w' => e = .returned (.int .u32 (more s b)) /\ w = w' := by
 have hnb := jm s hs;have hnl := og hs;have hlen := hb.1;unfold maxLen at hn;have HL := ae hlen;clear hlen;go_enter func115, ntmps115;go_wp2;clear hnb;have HM : Hid (more s b = neg (run (neg s) b)) := ae rfl;generalize neg s = r0 at *
 go_loop [5, 6] (fun x i => ∃ j : Nat, j <= n /\ i = .int .i64 j /\ x = .int .u32 (run r0 (b.take j))) (fun _ i => n - (intOf i).toNat)
 case atStart => exact ⟨0, by omega, rfl, rfl⟩
 case round =>
  obtain ⟨j, hj, rfl, rfl⟩ := hrel;by_cases hlt : j < n
  ·obtain ⟨bA, oA, rfl, hA, cA⟩ := hb.2 j hlt;have hjl : j < b.length := by have := HL.out; omega
   rw [cP hjl] at cA;have HS := ae (pU r0 b hjl);have hu := UInt8.toNat_lt b[j];generalize b[j].toNat = u at *;have hrl := lC hnl (b.take j);go_wp2_with fail;refine (qv (run r0 (b.take j)) u _ hrl hu).mono ?_;rintro e w' ⟨rfl, rfl⟩;go_wp2
   go_round
   case rel => exact ⟨j + 1, by omega, by go_num, by rw [HS.out]⟩
   case measure => simp [intOf]; omega
  ·have h : j = n := by omega
   subst h;have ht : b.take j = b := List.take_of_length_le (Nat.le_of_eq HL);rw [ht];have hrl := lC hnl b;have hnb := jm (run r0 b) hrl;clear ht;go_wp2;go_ret;exact ⟨bD (by first | rw [HM.out] | rw [HM.out, hnb]), rfl⟩
theorem vI (A : Option Addr) (n c N : Nat) (b : List UInt8) (w : World) (T : Tab w) (hb : Rd w N A n b) (hn : n <= maxLen) :
  Calls prog 133 #[.slice A n c] w fun e w' => e = .returned (.int .u32 (more 0 b)) /\ w = w' := by
 go_enter func133, ntmps133;go_wp2_with fail;refine (vU 0 A n c N b _ T (by omega) hb hn).mono ?_;rintro e w' ⟨rfl, rfl⟩;go_wp2;go_ret;exact ⟨rfl, rfl⟩
theorem uf (A : Option Addr) (n c N : Nat) (b : List UInt8) (w : World) (hb : Rd w N A n b) (hn : n <= maxLen) :
  Calls prog 100 #[.slice A n c] w fun e w' => e = .returned (.int .u32 (more 0 b)) /\ w = w' := by
 go_enter func100, ntmps100;go_wp2_with fail;refine (oN 0 A n c N b _ (by omega) hb hn).mono ?_;rintro e w' ⟨rfl, rfl⟩;go_wp2;go_ret;exact ⟨rfl, rfl⟩
section
variable {ρ : Operand -> Value} {o : Oper} {x y z u : Operand} {w : World} {t : TypeId} {p q a b c : Value}
theorem fC (ho : o.op = .slice t x (some y) (some z) (some u)) (hx : ρ x = p) (hy : ρ y = a) (hz : ρ z = b) (hu : ρ u = c) (h : (Instr.sliceAt t p (some a) (some b) (some c)).run prog w = .ok q w) : (execOp ρ o).run prog w = .ok (.value q) w := by
 unfold execOp;simp only [ho, hx, hy, hz, hu, Option.map_some, Sem.run_bind, h, Result.andThen_ok, Sem.run_pure]
end
section
variable (g : Nat) (w : World)
theorem jv {i j k : Nat} (h1 : i <= j) (h2 : j <= k) (h3 : k <= 64) (h4 : i < k) : (Instr.sliceAt 29 (.pointer (some ⟨g, 0, none⟩)) (some (.int .i64 (i : Int))) (some (.int .i64 (j : Int))) (some (.int .i64 (k : Int)))).run prog w = .ok (.slice (some ⟨g, i, none⟩) (j - i) (k - i)) w := by
 have e1 : (0 <= (k : Int) /\ (k : Int) <= 64) := by omega
 have e2 : (0 <= (j : Int) /\ (j : Int) <= (k : Int)) := by omega
 have e3 : (0 <= (i : Int) /\ (i : Int) <= (j : Int)) := by omega
 have e4 : k ≠ i := by omega
 simp [Instr.sliceAt, Instr.sliceBounds, Instr.sliceBound, Instr.sureAddr, asIntOf, run_underlying qY, Tryz.sizeOf5, Addr.add_mid, e1, e2, e3, e4, h1, h2, h3]
theorem abV : (Instr.sliceAt 29 (.pointer (some ⟨g, 0, none⟩)) (some (.int .i64 0)) (some (.int .i64 8)) (some (.int .i64 8))).run prog w = .ok (.slice (some ⟨g, 0, none⟩) 8 8) w := jv g w (i := 0) (j := 8) (k := 8) (by omega) (by omega) (by omega) (by omega)
theorem abO : (Instr.sliceAt 29 (.pointer (some ⟨g, 0, none⟩)) (some (.int .i64 8)) (some (.int .i64 52)) (some (.int .i64 52))).run prog w = .ok (.slice (some ⟨g, 8, none⟩) 44 44) w := jv g w (i := 8) (j := 52) (k := 52) (by omega) (by omega) (by omega) (by omega)
theorem aci : (Instr.sliceAt 29 (.pointer (some ⟨g, 0, none⟩)) (some (.int .i64 52)) (some (.int .i64 56)) (some (.int .i64 56))).run prog w = .ok (.slice (some ⟨g, 52, none⟩) 4 4) w := jv g w (i := 52) (j := 56) (k := 56) (by omega) (by omega) (by omega) (by omega)
theorem abW : (Instr.sliceAt 29 (.pointer (some ⟨g, 0, none⟩)) (some (.int .i64 56)) (some (.int .i64 64)) (some (.int .i64 64))).run prog w = .ok (.slice (some ⟨g, 56, none⟩) 8 8) w := jv g w (i := 56) (j := 64) (k := 64) (by omega) (by omega) (by omega) (by omega)
theorem acw : (Instr.sliceAt 29 (.pointer (some ⟨g, 0, none⟩)) (some (.int .i64 0)) (some (.int .i64 52)) (some (.int .i64 52))).run prog w = .ok (.slice (some ⟨g, 0, none⟩) 52 52) w := jv g w (i := 0) (j := 52) (k := 52) (by omega) (by omega) (by omega) (by omega)
end
section
variable {ρ : Operand -> Value} {o : Oper} {x y : Operand} {w : World} {t : TypeId} {old cs : Array Value}
theorem rM (hz : (prog.info? t).map (·.size) = some cs.size) (he : old.size = cs.size) (h1 : cs.toList.all Value.oneCell' = true) (ho : o.op = .store t x y) (hx : ρ x = .pointer (some ⟨w.heap.size, 0, none⟩)) (hy : ρ y = .agg cs) :
  (execOp ρ o).run prog (w.alloc (.cells old t)).drew = .ok .skip (w.alloc (.cells cs t)).drew := jh (w := w.drew) hz he h1 ho hx hy
end
theorem t0 {ρ : Operand -> Value} {o : Oper} {w : World} {t : TypeId} {v : Value} {x0 x1 x2 x3 x4 : Operand} {y0 y1 y2 y3 y4 : Value} (ho : o.op = .build t #[(0, x0), (1, x1), (2, x2), (3, x3), (4, x4)]) (h0 : ρ x0 = y0) (h1 : ρ x1 = y1) (h2 : ρ x2 = y2) (h3 : ρ x3 = y3) (h4 : ρ x4 = y4)
  (h : (Instr.build t #[(0, y0), (1, y1), (2, y2), (3, y3), (4, y4)]).run prog w = .ok v w) : (execOp ρ o).run prog w = .ok (.value v) w := by
 subst h0 h1 h2 h3 h4;unfold execOp;simp only [ho, List.map_toArray, List.map_cons, List.map_nil, Sem.run_bind, h, Result.andThen_ok, Sem.run_pure]
theorem yi {fn : Func} {p : Tmp} {t : TypeId} {cs : Array Value} {d : TypeDesc} (h0 : fn.results = #[.cell p t]) (tmps : Array Value) (w : World) (b : Nat) (hp : tmps.getD p undef = .pointer (some ⟨b, 0, none⟩)) (h : w.heap[b]? = some (.cells cs t (0, 0))) (hu : prog.underlying t = some d) (hd : d.isRow = true) (hz : (prog.info? t).map (·.size) = some cs.size) :
  (results fn tmps).run prog w = .ok (.agg cs) w := by
 have hr : w.rangeAt b 0 cs.toList := fun j v hj => by
  rw [cell_of_row w b (0 + j) cs t (0, 0) h, Nat.zero_add]
  simpa using hj
 have hl : (loadVar t ⟨b, 0, none⟩).run prog w = .ok (.agg cs) w := by
  have := run_loadVar_mid (P := prog) w b 0 t cs.toList d hr hu hd (by simpa using hz)
  simpa using this
 have hp' : tmps[p]?.getD undef = .pointer (some ⟨b, 0, none⟩) := by simpa using hp
 simp [results, h0, hp', asAddr, hl]
theorem mh {w w' : World} {row : Option Nat} (hb : Below w.heap.size w w') : w.grownBy w' row := ⟨hb.os, hb.tape, hb.output, hb.size, fun k hk _ => hb.block k hk⟩
def eR (g : Nat) : Array Value := #[.slice (some ⟨g, 0, none⟩) 8 8, .slice (some ⟨g, 8, none⟩) 44 44, .slice (some ⟨g, 52, none⟩) 4 4, .slice (some ⟨g, 56, none⟩) 8 8, .slice (some ⟨g, 0, none⟩) 52 52]
theorem abu (g : Nat) (w : World) : (Instr.build 171 #[(0, .slice (some ⟨g, 0, none⟩) 8 8), (1, .slice (some ⟨g, 8, none⟩) 44 44), (2, .slice (some ⟨g, 52, none⟩) 4 4), (3, .slice (some ⟨g, 56, none⟩) 8 8), (4, .slice (some ⟨g, 0, none⟩) 52 52)]).run prog w = .ok (.agg (eR g)) w := by kernel_rfl
theorem js (g : Nat) (w : World) : Calls prog 131 #[.pointer (some ⟨g, 0, none⟩)] w fun e w' => e = .returned (.agg #[.slice (some ⟨g, 0, none⟩) 8 8, .slice (some ⟨g, 8, none⟩) 44 44, .slice (some ⟨g, 52, none⟩) 4 4, .slice (some ⟨g, 56, none⟩) 8 8, .slice (some ⟨g, 0, none⟩) 52 52]) /\ Below w.heap.size w w' := by
 go_enter func131, ntmps131;go_wp2_with fail;refine wp_region_still_tail 15 (by kernel_rfl) (by kernel_rfl) ?_;simp only [ac];refine aJ rfl (aL rfl adh) ?_;simp only [aa];refine aJ rfl (cm rfl adh) ?_;simp only [aa];refine aJ rfl (fC rfl adh evk evk evk (abV g _)) ?_;simp only [aa];refine aJ rfl (aL rfl adh) ?_;simp only [aa];refine aJ rfl (cm rfl adh) ?_;simp only [aa];refine aJ rfl (fC rfl adh evk evk evk (abO g _)) ?_;simp only [aa];refine aJ rfl (aL rfl adh) ?_;simp only [aa];refine aJ rfl (cm rfl adh) ?_;simp only [aa];refine aJ rfl (fC rfl adh evk evk evk (aci g _)) ?_;simp only [aa];refine aJ rfl (aL rfl adh) ?_;simp only [aa];refine aJ rfl (cm rfl adh) ?_;simp only [aa];refine aJ rfl (fC rfl adh evk evk evk (abW g _)) ?_;simp only [aa];refine aJ rfl (aL rfl adh) ?_;simp only [aa];refine aJ rfl (cm rfl adh) ?_;simp only [aa];refine aJ rfl (fC rfl adh evk evk evk (acw g _)) ?_;simp only [aa];refine wpStill_nil ?_;change wpList _ _ _ _ _ (World.drew _);refine ac7 rfl (t0 (v := .agg (eR g)) rfl adh adh adh adh adh (abu g _)) ?_;refine aZ rfl (rM (w := w) (cs := eR g) ?s1 ?s2 ?s3 rfl (ev rfl) (ev rfl)) ?_
 case s1 => kernel_rfl
 case s2 => rfl
 case s3 => rfl
 refine ag ?_;go_wp2_with fail;refine bodyPost_ret (yi (cs := eR g) (t := 171) rfl _ _ w.heap.size rfl ?h1 underlying171 rfl ?h2) rfl ⟨rfl, ?h3⟩
 case h1 => exact heap_alloc_new w.drew _
 case h2 => kernel_rfl
 case h3 => exact bd ((Below.refl _ w).alloc ai _)
theorem jQ {b : List UInt8} {n : Nat} (h : b.length = n) : piece b 0 n = b := by
 subst h;simp [piece]
theorem fh (A : Option Addr) (n c N : Nat) (b : List UInt8) (w : World) (hb : Rd w N A n b) (h1 : 1 <= n) (h2 : n <= 8) :
  Calls prog 135 #[.slice A n c] w fun e w' => e = .returned (.int .u64 (val 8 b)) /\ w = w' := by
 have hp := jQ hb.1;have HP := ae hp;clear hp;go_enter func135, ntmps135;go_wp2_with fail;refine (vZ A n c N b 0 n _ hb (by unfold maxLen; omega) h1 h2 (by omega)).mono ?_;rintro e w' ⟨rfl, rfl⟩;rw [HP.out];go_wp2;go_ret;exact ⟨rfl, rfl⟩
theorem n6 (g off k n : Nat) (t : TypeId) (l : List UInt8) (w : World) (hs : cl w g t l) (h1 : 1 <= k) (h2 : k <= 8) (ho : off + k <= l.length) (hn : n < 256 ^ k) :
  Calls prog 132 #[.slice (some ⟨g, off, none⟩) k k, .int .u64 n] w fun e w' => e = .returned (.tuple #[]) /\ cl w' g t (splice l off (aN 8 k n)) /\ w.grownBy w' (some g) := by
 have HS := ae hs;have HL := ae (aA 8 k n);clear hs;go_enter func132, ntmps132;go_wp2_with fail;refine (vH n k w h1 h2 hn).mono ?_;rintro e w1 ⟨v, rfl, hv, hb⟩;obtain ⟨A, c, rfl, hrd, _, _⟩ := hv.made.open_ HL;have HR := ae hrd;have HS1 := ae (HS.out.below HS.out.lt hb);have HB := ae hb;clear hv hrd hb;go_wp2_with (with_reducible refine ef rfl _ _ rfl g off k k k c _ A t l (aN 8 k n) rfl rfl HS1.out HR.out (Nat.le_refl _) ho ?_);intro w2 hr2 hg2;have HR2 := ae hr2;have HG2 := ae hg2;clear hr2 hg2;go_wp2
 go_end0
 exact ⟨rfl, HR2, (mh HB).trans HG2⟩
theorem aal {b : List UInt8} {j : Nat} : bt (dw b) j = if j < b.length then bt b j else 0 := by
 unfold dw
 split
 ·rename_i h; exact dZ h
 ·rename_i h; rw [eg (by omega), jg]
theorem td {n : Nat} {b : List UInt8} {j : Nat} : bt (cR n b) j = if j < 8 then bt (aN 8 8 n) j else if j < 8 + b.length then bt b (j - 8) else 0 := by
 unfold cR
 split
 ·rename_i h; exact dZ (by rw [aA]; exact h)
 ·rename_i h
  rw [eg (by rw [aA]; omega), aA, aal];by_cases h2 : j < 8 + b.length
  ·rw [if_pos (by omega), if_pos h2]
  ·rw [if_neg (by omega), if_neg h2]
theorem y9 {n : Nat} {b : List UInt8} {j : Nat} (hb : b.length <= 44) : bt (cD n b) j = if j < 52 then bt (cR n b) j else if j < 56 then bt (aN 8 4 (more 0 (cR n b))) (j - 52) else bt (aN 8 8 n) (j - 56) := by
 have h52 := dD n hb;unfold cD
 split
 ·rename_i h; exact dZ (by omega)
 ·rename_i h
  rw [eg (by omega), h52]
  split
  ·rename_i h2; exact dZ (by rw [aA]; omega)
  ·rename_i h2; rw [eg (by rw [aA]; omega), aA, show j - 52 - 4 = j - 56 from by omega]
def jH (n : Nat) (b : List UInt8) : List UInt8 := splice (splice (splice aB.toList 0 (aN 8 8 n)) 56 (aN 8 8 n)) 8 b
theorem lg (n : Nat) : (splice aB.toList 0 (aN 8 8 n)).length = 64 := by rw [length_splice _ _ _ (by simp [aA])]; simp
theorem lr (n : Nat) : (splice (splice aB.toList 0 (aN 8 8 n)) 56 (aN 8 8 n)).length = 64 := by rw [length_splice _ _ _ (by rw [lg, aA]; omega), lg]
section
variable {n : Nat} {b : List UInt8} (hb : b.length <= 44)
include hb
theorem fB : (jH n b).length = 64 := by unfold jH; rw [length_splice _ _ _ (by rw [lr]; omega), lr]
theorem qd {j : Nat} : bt (jH n b) j = if 8 <= j /\ j < 8 + b.length then bt b (j - 8) else if 56 <= j /\ j < 64 then bt (aN 8 8 n) (j - 56) else if j < 8 then bt (aN 8 8 n) j else 0 := by
 unfold jH;have hz : bt aB.toList j = 0 := by
  have : aB.toList = List.replicate 64 0 := by decide
  rw [this, jg]
 rw [ge (by rw [lr]; omega), ge (by rw [lg, aA]; omega), ge (by simp [aA]), aA, hz]
 congr 2
 by_cases h : j < 8
 ·rw [if_pos (by omega), if_pos h, Nat.sub_zero]
 ·rw [if_neg (by omega), if_neg h]
theorem sn : piece (jH n b) 0 52 = cR n b := by
 refine fK (by rw [cM (by rw [fB hb]; omega), dD n hb]) fun j hj => ?_
 rw [cM (by rw [fB hb]; omega)] at hj;rw [pC hj, Nat.zero_add, qd hb, td];by_cases h8 : j < 8
 ·rw [if_neg (by omega), if_neg (by omega), if_pos h8, if_pos h8]
 ·by_cases h2 : j < 8 + b.length
  ·rw [if_pos (by omega), if_neg h8, if_pos h2]
  ·rw [if_neg (by omega), if_neg (by omega), if_neg h8, if_neg h8, if_neg h2]
theorem qH : splice (jH n b) 52 (aN 8 4 (more 0 (cR n b))) = cD n b := by
 have h64 := fB (n := n) hb;refine fK (by rw [length_splice _ _ _ (by rw [h64, aA]; omega), h64, fx n hb]) fun j hj => ?_
 rw [length_splice _ _ _ (by rw [h64, aA]; omega), h64] at hj;rw [ge (by rw [h64, aA]; omega), y9 hb, aA, qd hb, td];by_cases h52 : j < 52
 ·rw [if_neg (by omega), if_pos h52];by_cases h8 : j < 8
  ·rw [if_neg (by omega), if_neg (by omega), if_pos h8, if_pos h8]
  ·by_cases h2 : j < 8 + b.length
   ·rw [if_pos (by omega), if_neg h8, if_pos h2]
   ·rw [if_neg (by omega), if_neg (by omega), if_neg h8, if_neg h8, if_neg h2]
 ·by_cases h56 : j < 56
  ·rw [if_pos (by omega), if_neg h52, if_pos h56]
  ·rw [if_neg (by omega), if_neg h52, if_neg h56, if_neg (by omega), if_pos (by omega)]
end
theorem cells5 {w : World} {b : Nat} {t : TypeId} {x y z u v : Value} (h : w.heap[b]? = some (.cells #[x, y, z, u, v] t (0, 0))) : w.cell? ⟨b, 0, none⟩ = some x /\ w.cell? ⟨b, 1, none⟩ = some y /\ w.cell? ⟨b, 2, none⟩ = some z /\ w.cell? ⟨b, 3, none⟩ = some u /\ w.cell? ⟨b, 4, none⟩ = some v := by
 refine ⟨?_, ?_, ?_, ?_, ?_⟩
 ·rw [cell_of_row w b 0 _ t (0, 0) h]; rfl
 ·rw [cell_of_row w b 1 _ t (0, 0) h]; rfl
 ·rw [cell_of_row w b 2 _ t (0, 0) h]; rfl
 ·rw [cell_of_row w b 3 _ t (0, 0) h]; rfl
 ·rw [cell_of_row w b 4 _ t (0, 0) h]; rfl
def PartsAt (w : World) (p g : Nat) : Prop := w.heap[p]? = some (.cells (eR g) 171 (0, 0))
theorem PartsAt.cells {w : World} {p g : Nat} (h : PartsAt w p g) : w.cell? ⟨p, 0, none⟩ = some (.slice (some ⟨g, 0, none⟩) 8 8) /\ w.cell? ⟨p, 1, none⟩ = some (.slice (some ⟨g, 8, none⟩) 44 44) /\ w.cell? ⟨p, 2, none⟩ = some (.slice (some ⟨g, 52, none⟩) 4 4) /\ w.cell? ⟨p, 3, none⟩ = some (.slice (some ⟨g, 56, none⟩) 8 8) /\ w.cell? ⟨p, 4, none⟩ = some (.slice (some ⟨g, 0, none⟩) 52 52) := cells5 h
theorem PartsAt.grown {w w' : World} {p g k : Nat} (h : PartsAt w p g) (hk : p ≠ k) (hb : w.grownBy w' (some k)) : PartsAt w' p g := (hb.block p (aW h) (fun e => hk (by injection e))).trans h
theorem PartsAt.below {w w' : World} {p g B : Nat} (h : PartsAt w p g) (hB : p < B) (hb : Below B w w') : PartsAt w' p g := kB h hB hb
structure mi (B : Nat) (w w' : World) (r g p : Nat) (l : List UInt8) : Prop where
 res : cl w' r 29 aB.toList
 row : cl w' g 29 l
 par : PartsAt w' p g
 bel : Below B w w'
 r0 : B <= r
 g0 : B <= g
 rg : r ≠ g
 pg : p ≠ g
theorem mi.turn {B : Nat} {w w1 w2 : World} {r g p : Nat} {l l' : List UInt8} (h : mi B w w1 r g p l) (hr : cl w2 g 29 l') (hg : w1.grownBy w2 (some g)) (hB : B <= w.heap.size) : mi B w w2 r g p l' :=
 ⟨h.res.grown h.rg hg, hr, h.par.grown h.pg hg, h.bel.grown hg (ap hB h.bel.size) (fun k hk => by injection hk with e; have := h.g0; omega), h.r0, h.g0, h.rg, h.pg⟩
theorem mi.draw {B : Nat} {w w1 : World} {r g p : Nat} {l : List UInt8} (h : mi B w w1 r g p l) : mi B w w1.drew r g p l := ⟨h.res, h.row, h.par, bd h.bel, h.r0, h.g0, h.rg, h.pg⟩
section
variable {ρ : Operand -> Value} {o : Oper} {x y z : Operand} {w : World} {t : TypeId} {n : Nat} {a : Value} {ad : Addr} {A : Option Addr} {m c : Nat}
theorem kC (ho : o.op = .convert 59 30 x) (hx : ρ x = .int .u32 (n : Int)) (hn : n < 4294967296) : (execOp ρ o).run prog w = .ok (.value (.int .u64 (n : Int))) w := by
 have h : IntKind.u64.wrap (n : Int) = (n : Int) := IntWalk.u64_in _ ⟨by omega, by omega⟩;have hc : (convert 59 30 (.int .u32 (n : Int))).run prog w = .ok (.int .u64 (n : Int)) w := by simp [convert, go_sem, h]
 unfold execOp;simp only [ho, hx, Sem.run_bind, hc, Result.andThen_ok, Sem.run_pure]
theorem ldS (h : w.cell? ad = some (.slice A m c)) : (Instr.loadAt 116 (.pointer (some ad))).run prog w = .ok (.slice A m c) w := by simp [go_sem, h]
theorem aaI {b : Nat} : (Instr.fieldAt 171 (.pointer (some ⟨b, 0, none⟩)) 2).run prog w = .ok (.pointer (some ⟨b, 2, none⟩)) w := by kernel_rfl
theorem aa2 {b : Nat} : (Instr.fieldAt 171 (.pointer (some ⟨b, 0, none⟩)) 4).run prog w = .ok (.pointer (some ⟨b, 4, none⟩)) w := by kernel_rfl
end
theorem ze (m c : Nat) (A : Option Addr) (b : List UInt8) (w : World) (hb : b.length = m) :
  Calls prog 121 #[.int .u64 0, .slice A m c] w fun e w' => e = .returned (.tuple #[blk (dO 0 b), .int .i64 (dL 0 b : Nat)]) /\ Below w.heap.size w w' := by
 have hA := (Below.refl w.heap.size w).alloc ai (.cells (cel aB).toArray 29);have HT := ae (dG w aB 29);have HA := ae hA;clear hA;rw [show dO 0 b = aB from rfl, show dL 0 b = 2 from rfl];go_enter func121, ntmps121;go_wp2_with (first | (refine av rfl (bq rfl) ?_) | (refine av rfl (cr (c := aB) (parts := []) rfl rfl) ?_) | (refine aZ rfl (bc rfl rfl rfl HT.out) ?_));refine bodyPost_ret (cp rfl _ _ _ rfl (World.rangeAt_setCells_same _ _ _ _ (by rw [aF]; exact HT))) rfl ⟨rfl, below_setCells HA ai _⟩
theorem xy (n m c : Nat) (A : Option Addr) (b : List UInt8) (w : World) (hb : b.length = m) (h0 : 0 < n) (hm : 44 < m) (hm2 : m <= maxLen) :
  Calls prog 121 #[.int .u64 n, .slice A m c] w fun e w' => e = .returned (.tuple #[blk (dO n b), .int .i64 (dL n b : Nat)]) /\ Below w.heap.size w w' := by
 have hA := (Below.refl w.heap.size w).alloc ai (.cells (cel aB).toArray 29);have HT := ae (dG w aB 29);have HA := ae hA;have hE : dL n b = 3 := by unfold dL; rw [if_neg (by omega), if_pos (by omega)]
 have hB : dO n b = aB := by unfold dO; rw [hE]; rfl
 rw [hE, hB];unfold maxLen at hm2;clear hA hE hB hb;have hz : ((n : Int) == 0) = false := by simp; omega
 go_enter func121, ntmps121;go_wp2_with (first | (refine av rfl (bq rfl) ?_) | (refine av rfl (cr (c := aB) (parts := []) rfl rfl) ?_) | (refine aZ rfl (bc rfl rfl rfl HT.out) ?_));refine bodyPost_ret (cp rfl _ _ _ rfl (World.rangeAt_setCells_same _ _ _ _ (by rw [aF]; exact HT))) rfl ⟨rfl, below_setCells HA ai _⟩
theorem mo {a x : List UInt8} (h : a.length + x.length <= 44) : splice (dw a) a.length x = dw (a ++ x) := by
 unfold splice dw;rw [List.take_append_of_le_length ai, List.take_length, List.drop_append];rw [List.drop_of_length_le (by omega), List.nil_append, List.drop_replicate, List.append_assoc, List.length_append]
 congr 3
 omega
def z44 : List UInt8 := List.replicate 44 0
theorem rI : z44.length = 44 := rfl
def aV (x : Sup) : List Value := .int .u64 x.id :: .int .i64 x.self :: aU x.ros
def sup (x : Sup) : Value := .agg (aV x).toArray
theorem aH (x : Sup) : (aV x).length = 23 := by simp [aV, aY]
theorem jw (x : Sup) : ∀ v ∈ aV x, v.oneCell' = true := by
 intro v hv;simp only [aV, List.mem_cons] at hv;rcases hv with rfl | rfl | hv
 ·rfl
 ·rfl
 ·exact gl _ v hv
theorem ft : (prog.info? 37).map (·.size) = some 23 := by kernel_rfl
theorem kz : (prog.info? 162).map (·.size) = some 44 := by kernel_rfl
theorem rz : (prog.info? 37).map (fun i => i.zero) = some (some (sup bp)) := by kernel_rfl
theorem ql : (prog.info? 162).map (fun i => i.zero) = some (some (arr z44)) := by kernel_rfl
section
variable {ρ : Operand -> Value} {o : Oper} {x y : Operand} {w : World} {b off : Nat}
theorem ce {c : Sup} (ho : o.op = .load 37 x) (hx : ρ x = .pointer (some ⟨b, off, none⟩)) (hc : w.rangeAt b off (aV c)) : (execOp ρ o).run prog w = .ok (.value (sup c)) w :=
 dU underlying37 rfl (by rw [aH]; exact ft) ho hx hc
theorem fT {l : List UInt8} (hl : l.length = 44) (ho : o.op = .load 162 x) (hx : ρ x = .pointer (some ⟨b, off, none⟩)) (hc : w.rangeAt b off (vals l)) : (execOp ρ o).run prog w = .ok (.value (arr l)) w :=
 dU underlying162 rfl (by rw [bi, hl]; exact kz) ho hx hc
theorem ed {c : Sup} (ho : o.op = .box 37 x) (hx : ρ x = sup c) : (execOp ρ o).run prog w = .ok (.value (.pointer (some ⟨w.heap.size, 0, none⟩))) (w.alloc (.cells (aV c).toArray 37)) := eI ho hx
theorem bH (ho : o.op = .alloc 37) : (execOp ρ o).run prog w = .ok (.value (.pointer (some ⟨w.heap.size, 0, none⟩))) (w.alloc (.cells (aV bp).toArray 37)) := cX rz ho
theorem jl (ho : o.op = .alloc 162) : (execOp ρ o).run prog w = .ok (.value (.pointer (some ⟨w.heap.size, 0, none⟩))) (w.alloc (.cells (vals z44).toArray 162)) := cX ql ho
theorem cG {c d : Sup} (ho : o.op = .store 37 x y) (hx : ρ x = .pointer (some ⟨w.heap.size, 0, none⟩)) (hy : ρ y = sup c) : (execOp ρ o).run prog (w.alloc (.cells (aV d).toArray 37)) = .ok .skip (w.alloc (.cells (aV c).toArray 37)) :=
 eW (by rw [aH]; exact ft) (by rw [aH, aH]) (jw c) ho hx hy
theorem cH {c : Sup} (ho : o.op = .store 37 x y) (hx : ρ x = .pointer (some ⟨b, off, none⟩)) (hy : ρ y = sup c) (ht : w.there b off 23) : (execOp ρ o).run prog w = .ok .skip (w.setCells b off (aV c)) :=
 eH (by rw [aH]; exact ft) (jw c) ho hx hy (by rw [aH]; exact ht)
theorem xc (w : World) : (Instr.build 37 #[]).run prog w = .ok (sup bp) w := by kernel_rfl
theorem eX (ho : o.op = .build 37 #[]) : (execOp ρ o).run prog w = .ok (.value (sup bp)) w := iJ ho (xc w)
end
theorem zV (x : Sup) : aV x = [.int .u64 x.id, .int .i64 x.self] ++ aU x.ros := rfl
section
variable {ρ : Operand -> Value} {o : Oper} {x y : Operand} {w : World} {t : TypeId}
theorem zq : prog.eqGuardType prog.depth 162 = false := by kernel_rfl
theorem nC {a b : List UInt8} (c : Bool) (ha : a.length = 44) (hb : b.length = 44) (ho : o.op = .binOp .neq 162 x y t) (hx : ρ x = arr a) (hy : ρ y = arr b) (h : decide (a = b) = c) : (execOp ρ o).run prog w = .ok (.value (.bool (!c))) w := by
 subst h; exact xw zq (nl underlying162 w a b ha hb 9998) ho hx hy
end
def bS (w : World) (b : Nat) (x : Sup) : Prop := w.heap[b]? = some (.cells (aV x).toArray 37 (0, 0))
section
variable {w w' : World} {b : Nat} {x : Ros} {y : Sup}
theorem bS.range (h : bS w b y) : w.rangeAt b 0 (aV y) := br h
theorem bS.i4 (h : bS w b y) : w.rangeAt b 2 (aU y.ros) := by
 have := dJ (k := 2) (ds := [.int .u64 y.id, .int .i64 y.self]) (es := aU y.ros) (fs := []) h.range (by simp [zV]) rfl;rwa [Nat.zero_add] at this
theorem bS.sts (h : bS w b y) : w.rangeAt b 5 (vals y.ros.st.toList) := dJ (k := 3) h.i4 (fw y.ros) rfl
theorem bS.cells (h : bS w b y) : w.cell? ⟨b, 0, none⟩ = some (.int .u64 y.id) /\ w.cell? ⟨b, 1, none⟩ = some (.int .i64 y.self) /\ w.cell? ⟨b, 2, none⟩ = some (.int .i64 y.ros.m) /\ w.cell? ⟨b, 3, none⟩ = some (.int .i64 y.ros.s) /\ w.cell? ⟨b, 4, none⟩ = some (.int .i64 y.ros.r) /\ w.cell? ⟨b, 21, none⟩ = some (.int .i64 y.ros.cur) /\ w.cell? ⟨b, 22, none⟩ = some (.bool y.ros.gone) := by
 have hr := dJ (k := 19) (ds := cU y.ros ++ vals y.ros.st.toList) (es := [.int .i64 y.ros.cur, .bool y.ros.gone]) (fs := []) h.i4 (by simp [fw]) (by simp [cU, bi]);exact ⟨h.range 0 _ rfl, h.range 1 _ rfl, h.range 2 _ rfl, h.range 3 _ rfl, h.range 4 _ rfl, hr 0 _ rfl, hr 1 _ rfl⟩
theorem bS.sta (h : bS w b y) {j : Nat} (hj : j < 16) : w.cell? ⟨b, 5 + j, none⟩ = some (.int .u8 (sta y.ros j)) := h.sts j _ (fA (by simpa using hj))
theorem bS.below {B : Nat} (h : bS w b y) (hB : b < B) (hb : Below B w w') : bS w' b y := kB h hB hb
theorem bS.new (w : World) (y : Sup) : bS (w.alloc (.cells (aV y).toArray 37)) w.heap.size y := heap_alloc_new w _
theorem bS.past (h : bS w b y) (o : Obj) : bS (w.alloc o) b y := bv h o
theorem bS.rd (h : bS w b y) : Rd w w.heap.size (some ⟨b, 5, none⟩) 16 y.ros.st.toList :=
 ⟨by simp, fun k hk => ⟨b, 5, rfl, aW h, h.sta hk⟩⟩
end
theorem aah (x : Ros) (w : World) : Calls prog 90 #[geo x] w fun e w' => e = .returned (.bool (ei x)) /\ Below w.heap.size w w' := by
 have h1 := gY (x := x);have h2 := pR (x := x);generalize ei x = g at *;obtain ⟨m, s, r, st, cur, gone⟩ := x;simp only at h1 h2;have H1 := ae h1;have H2 := ae h2;clear h1 h2
 show Calls prog 90 #[.agg #[.int .i64 m, .int .i64 s, .int .i64 r]] w _
 go_enter func90, ntmps90;go_wp2
 all_goals
  go_ret;refine ⟨a9 ?_, aj.alloc ai _⟩
  first
   |(refine Eq.symm (H2.out.2 ?_); omega)
   |(rw [Bool.eq_iff_iff, H1.out, decide_eq_true_iff]; omega)
theorem ab9 (x : Ros) (w : World) : Calls prog 89 #[geo x] w fun e w' => e = .returned (.bool (ei x)) /\ Below w.heap.size w w' := by
 have h1 := gY (x := x);have h2 := pR (x := x);generalize ei x = g at *;obtain ⟨m, s, r, st, cur, gone⟩ := x;simp only at h1 h2;have H1 := ae h1;have H2 := ae h2;clear h1 h2
 show Calls prog 89 #[.agg #[.int .i64 m, .int .i64 s, .int .i64 r]] w _
 go_enter func89, ntmps89;go_wp2
 all_goals
  go_ret;refine ⟨a9 ?_, aj.alloc ai _⟩
  first
   |(refine Eq.symm (H2.out.2 ?_); omega)
   |(rw [Bool.eq_iff_iff, H1.out, decide_eq_true_iff]; omega)
theorem gn (w : World) (x : Sup) : bS (w.alloc (.cells (aV x).toArray 37)) w.heap.size x /\ Below w.heap.size w (w.alloc (.cells (aV x).toArray 37)) /\ w.heap.size < (w.alloc (.cells (aV x).toArray 37)).heap.size :=
 ⟨bS.new w x, (Below.refl w.heap.size w).alloc ai _, by simp only [World.size_alloc]; omega⟩
theorem xz (n : Nat) (w : World) : Calls prog 118 #[.int .u64 n] w fun e w' => e = .returned (.bool (evB n)) /\ w = w' := by
 by_cases h : 1 <= n
 ·go_enter func118, ntmps118;go_wp2;go_ret;refine ⟨a9 ?_, rfl⟩;unfold evB;rw [decide_eq_decide];omega
 ·have h0 : n = 0 := by omega
  subst h0;go_enter func118, ntmps118;go_wp2;go_ret;exact ⟨rfl, rfl⟩
theorem aaj (x : Ros) (w : World) : Calls prog 149 #[ros x] w fun e w' => e = .returned (.int .i64 (cF x : Nat)) /\ Below w.heap.size w w' := by
 obtain ⟨h1, h2, h3⟩ := cY w x;have HR := ae h1;have HB := ae h2;clear h1 h2 h3;have HL := ae (gO x.st);have HH : Hid (cF x = fi x.st.toList 16) := ae rfl;go_enter func149, ntmps149;go_wp2_with (first | (refine au rfl (bf rfl rfl) ?_) | (refine au rfl (dy HL.out rfl rfl ?_) ?_; (with_reducible exact HR.out.sts)) | fail);generalize w.alloc (.cells (aU x).toArray 35) = w1 at *;generalize x.st.toList = l at *
 go_loop [3, 8] (fun n i => ∃ j : Nat, j <= 16 /\ i = .int .i64 j /\ n = .int .i64 (fi l j : Nat)) (fun _ i => 16 - (intOf i).toNat)
 case atStart => exact ⟨0, Nat.zero_le _, rfl, rfl⟩
 case round =>
  obtain ⟨j, hj, rfl, rfl⟩ := hrel;by_cases hlt : j < 16
  ·have hs := ae (gC l j);have hle := lQ l j;generalize fi l j = n at *;by_cases h2 : bt l j = 2
   ·rw [if_pos h2] at hs;have hd : (bt l j == 2) = true := by rw [h2]; rfl
    clear h2;go_wp2_with (first | (refine au rfl (dI (l := l) (j := j) HL hlt rfl rfl rfl) ?_) | fail)
    go_round
    case rel => exact ⟨j + 1, by omega, by go_num, by rw [hs.out]; go_num⟩
    case measure => simp [intOf]; omega
   ·rw [if_neg h2] at hs;have hd : (bt l j == 2) = false := by simpa using h2
    clear h2;go_wp2_with (first | (refine au rfl (dI (l := l) (j := j) HL hlt rfl rfl rfl) ?_) | fail)
    go_round
    case rel => exact ⟨j + 1, by omega, by go_num, by rw [hs.out, Nat.add_zero]⟩
    case measure => simp [intOf]; omega
  ·have e : j = 16 := by omega
   subst e;go_wp2;go_ret;exact ⟨by rw [HH.out]; rfl, HB⟩
theorem acP (x : Ros) (w : World) : Calls prog 140 #[ros x] w fun e w' => e = .returned (.bool (pS x)) /\ Below w.heap.size w w' := by
 obtain ⟨h1, h2, h3⟩ := cY w x;have HR := ae h1;have HB := ae h2;have HZ := ae h3;clear h1 h2 h3;have HC : Hid (pS x = if cF x = 0 then decide (x.cur = 0) else decide (0 <= x.cur /\ x.cur < x.s)) := ae rfl;go_enter func140, ntmps140;go_wp2_with (first | (refine au rfl (bf rfl rfl) ?_) | (refine au rfl (bh (c := x) rfl rfl ?_) ?_; (with_reducible exact HR.out.range)) | fail);generalize w.alloc (.cells (aU x).toArray 35) = w1 at *;refine (aaj x w1).mono ?_;rintro e w2 ⟨rfl, hb⟩;obtain ⟨c0, c1, c2, c3, c4⟩ := (HR.out.below HZ hb).cells;have HB2 := ae (HB.out.trans (hb.mono (Nat.le_of_lt HZ)));clear hb;generalize x.cur = c at *;generalize x.s = s at *;by_cases h0 : cF x = 0
 ·rw [if_pos h0] at HC;rw [h0];go_wp2;go_ret;exact ⟨a9 (by rw [HC.out, Bool.eq_iff_iff]; simp), HB2⟩
 ·rw [if_neg h0] at HC;have hd : ((cF x : Int) == 0) = false := by simp; omega
  by_cases hc : 0 <= c
  ·go_wp2;go_ret;exact ⟨a9 (by rw [HC.out, decide_eq_decide]; omega), HB2⟩
  ·have hlt : c < 0 := by omega
   go_wp2;go_ret;exact ⟨a9 (by rw [HC.out]; simp; omega), HB2⟩
set_option linter.unusedSimpArgs false
def gd (x : Ros) : List UInt8 := splice (List.replicate 16 0) 0 (x.st.toList.take x.m.toNat)
theorem ix {x : Ros} : (gd x).length = 16 := by
 unfold gd;rw [length_splice _ _ _ (by simp; omega)];simp
theorem nZ {x : Ros} (h0 : 0 <= x.m) (h16 : x.m <= 16) {k : Nat} (hk : k < 16) : bt (gd x) k = if (k : Int) < x.m then sta x k else 0 := by
 unfold gd;have hl : (x.st.toList.take x.m.toNat).length = x.m.toNat := by simp; omega
 rw [ge (by rw [hl]; simp; omega), hl, jg];by_cases h : (k : Int) < x.m
 ·rw [if_pos (by omega), if_pos h];unfold sta bt;simp only [List.getD, Nat.sub_zero, List.getElem?_take_of_lt (show k < x.m.toNat by omega)]
 ·rw [if_neg (by omega), if_neg h]
theorem xf {x : Ros} (h0 : 0 <= x.m) (h16 : x.m <= 16) {k : Nat} (hk : k < 16) (hb : 2 < bt (gd x) k) : eN x = false := by
 rw [Bool.eq_false_iff];intro h;have := (gF h).1 k hk;rw [nZ h0 h16 hk] at hb
 split at hb <;> omega
theorem xH {x : Ros} (h0 : 0 <= x.m) (h16 : x.m <= 16) (h : ∀ k, k < 16 -> bt (gd x) k <= 2) : eN x = decide (gd x = x.st.toList) := by
 rw [Bool.eq_iff_iff, decide_eq_true_iff, gp]
 constructor
 ·rintro ⟨h1, h2⟩;refine fK (by rw [ix]; simp) fun k hk => ?_
  rw [ix] at hk;rw [nZ h0 h16 hk]
  split
  ·rfl
  ·exact (h2 k hk (by omega)).symm
 ·intro e;have h3 : ∀ k, k < 16 -> sta x k = bt (gd x) k := fun k hk => by rw [e]; rfl
  refine ⟨fun k hk => by rw [h3 k hk]; exact h k hk, fun k hk hm => ?_⟩;rw [h3 k hk, nZ h0 h16 hk, if_neg (by omega)]
section
variable {ρ : Operand -> Value} {o : Oper} {x z : Operand} {w : World} {g off : Nat}
theorem eU (ho : o.op = .slice 33 x none none none) (hx : ρ x = .pointer (some ⟨g, off, none⟩)) : (execOp ρ o).run prog w = .ok (.value (.slice (some ⟨g, off, none⟩) 16 16)) w := by
 have h : (Instr.sliceAt 33 (.pointer (some ⟨g, off, none⟩)) none none none).run prog w = .ok (.slice (some ⟨g, off, none⟩) 16 16) w := by
  simp [Instr.sliceAt, Instr.sliceBounds, Instr.sliceBound, Instr.sureAddr, asIntOf, run_underlying underlying33, Tryz.sizeOf5, Addr.add_mid]
 unfold execOp;simp only [ho, hx, Option.map_none, Sem.run_bind, h, Result.andThen_ok, Sem.run_pure]
theorem ob {m : Int} (h0 : 0 < m) (h16 : m <= 16) (ho : o.op = .slice 33 x none (some z) none) (hx : ρ x = .pointer (some ⟨g, off, none⟩)) (hz : ρ z = .int .i64 m) : (execOp ρ o).run prog w = .ok (.value (.slice (some ⟨g, off, none⟩) m.toNat 16)) w := by
 obtain ⟨n, rfl⟩ := Int.eq_ofNat_of_zero_le (Int.le_of_lt h0);have h : (Instr.sliceAt 33 (.pointer (some ⟨g, off, none⟩)) none (some (.int .i64 (n : Int))) none).run prog w = .ok (.slice (some ⟨g, off, none⟩) n 16) w := by
  have e1 : (0 <= (n : Int) /\ (n : Int) <= 16) := by omega
  have e2 : n <= 16 := by omega
  simp [Instr.sliceAt, Instr.sliceBounds, Instr.sliceBound, Instr.sureAddr, asIntOf, run_underlying underlying33, Tryz.sizeOf5, Addr.add_mid, e1, e2]
 unfold execOp;simp only [ho, hx, hz, Option.map_none, Option.map_some, Sem.run_bind, h, Result.andThen_ok, Sem.run_pure, Int.toNat_natCast]
end
theorem zX (x : Ros) (w : World) (h0 : 0 < x.m) (h16 : x.m <= 16) : Calls prog 139 #[ros x] w fun e w' => e = .returned (.bool (eN x && decide (cF x <= 1))) /\ Below w.heap.size w w' := by
 obtain ⟨h1, h2, h3⟩ := cY w x;have HR := ae (h1.past (.cells (vals (List.replicate 16 0)).toArray 33));have HB := ae (h2.alloc h2.size (.cells (vals (List.replicate 16 0)).toArray 33));have HM : Hid (cl ((w.alloc (.cells (aU x).toArray 35)).alloc (.cells (vals (List.replicate 16 0)).toArray 33)) (w.heap.size + 1) 33 (List.replicate 16 0)) := by
  have := cl.new (w.alloc (.cells (aU x).toArray 35)) (List.replicate 16 0) 33;rw [World.size_alloc] at this;exact ae this
 clear h1 h2 h3;have HML := ae (ix (x := x));have HSL := ae (gO x.st);have HBIG : Hid (∀ k, k < 16 -> 2 < bt (gd x) k -> eN x = false) := ae fun k hk hb => xf (by omega) h16 hk hb
 have HALL : Hid ((∀ k, k < 16 -> bt (gd x) k <= 2) -> eN x = decide (gd x = x.st.toList)) := ae fun h => xH (by omega) h16 h
 have HDEF : Hid (splice (List.replicate 16 0) 0 (x.st.toList.take x.m.toNat) = gd x) := ae rfl;go_enter func139, ntmps139;go_wp2_with (first | (refine au rfl (bf rfl rfl) ?_) | (refine au rfl (ov rfl) ?_) | fail);simp only [World.size_alloc];generalize (w.alloc (.cells (aU x).toArray 35)).alloc (.cells (vals (List.replicate 16 0)).toArray 33) = w1 at *;have c0 := HR.out.cells.1;have HRD := ae (HR.out.rd (m := x.m.toNat) (by omega));refine wp_region_still_tail 6 (by kernel_rfl) (by kernel_rfl) ?_;simp only [ac];refine aJ rfl (eU rfl adh) ?_;simp only [aa];refine aJ rfl (ax rfl adh kU) ?_;simp only [aa];refine aJ rfl (ax rfl adh kr) ?_;simp only [aa];refine aJ rfl (ax rfl adh o8) ?_;simp only [aa];refine aJ rfl (aE rfl adh (cv c0)) ?_;simp only [aa];refine aJ rfl (ob h0 h16 rfl adh adh) ?_;simp only [aa];refine wpStill_nil ?_;change wpList _ _ _ _ _ (World.drew _);refine ef rfl _ _ rfl (w.heap.size + 1) 0 16 16 x.m.toNat 16 _ _ 33 (List.replicate 16 0) (x.st.toList.take x.m.toNat) adh adh HM.out.draw HRD (by omega) (by simp; omega) ?_;intro w2 hr2 hg2;rw [HDEF.out] at hr2;have HR2 : Hid (bF w2 w.heap.size x) := ae ((hg2.block w.heap.size (aW HR) (fun e => by injection e with e; omega)).trans HR);have HM2 := ae hr2;have HM2R := ae (br hr2);have HB2 : Hid (Below w.heap.size w w2) := ae ((bd HB).grown hg2 HB.out.size (fun k hk => by injection hk with e; omega));have HZ2 : Hid (w.heap.size < w2.heap.size) := ae (aW HR2);clear hr2 hg2 HR HM HB HRD c0;simp only [aa];refine ag ?_;go_wp2_with (first | (refine au rfl (dy HML.out rfl rfl ?_) ?_; (with_reducible exact HM2R.out)) | fail);have HW2 := ae (show w2 = w2 from rfl)
 go_loop [14] (fun i => ∃ j : Nat, j <= 16 /\ i = .int .i64 j /\ ∀ k, k < j -> bt (gd x) k <= 2) (fun i => 16 - (intOf i).toNat)
 case atStart => exact ⟨0, Nat.zero_le _, rfl, fun k hk => absurd hk (by omega)⟩
 case round =>
  obtain ⟨j, hj, rfl, hall⟩ := hrel;have HA := ae hall;clear hall;by_cases hlt : j < 16
  ·by_cases h2 : 2 < bt (gd x) j
   ·have HF := ae (HBIG.out j hlt h2);go_wp2_with (first | (refine au rfl (dI (l := gd x) (j := j) HML hlt rfl rfl rfl) ?_) | fail);go_ret;exact ⟨a9 (by rw [HF.out]; rfl), HB2⟩
   ·have h2' : bt (gd x) j <= 2 := by omega
    have HN : Hid (∀ k, k < j + 1 -> bt (gd x) k <= 2) := ae fun k hk => by
     by_cases e : k = j
     ·rw [e]; exact h2'
     ·exact HA.out k (by omega)
    go_wp2_with (first | (refine au rfl (dI (l := gd x) (j := j) HML hlt rfl rfl rfl) ?_) | fail)
    go_round
    case rel => exact ⟨j + 1, by omega, by go_num, HN⟩
    case measure => simp [intOf]; omega
  ·have e : j = 16 := by omega
   subst e;have HE := ae (HALL.out HA);cases hs : eN x
   ·rw [hs] at HE;have HD : Hid (decide (gd x = x.st.toList) = false) := ae HE.out.symm;have HS := ae hs;clear hs HE;go_wp2_with (first | (refine au rfl (dy HML.out rfl rfl ?_) ?_; (with_reducible exact HM2R.out)) | (refine au rfl (dy HSL.out rfl rfl ?_) ?_; (with_reducible exact HR2.out.sts)) | (refine au rfl (nz false HML.out HSL.out rfl rfl rfl HD.out) ?_) | fail);go_ret;exact ⟨a9 (by rw [HS.out]; rfl), HB2⟩
   ·rw [hs] at HE;have HD : Hid (decide (gd x = x.st.toList) = true) := ae HE.out.symm;have HS := ae hs;clear hs HE;go_wp2_with (first | (refine au rfl (dy HML.out rfl rfl ?_) ?_; (with_reducible exact HM2R.out)) | (refine au rfl (dy HSL.out rfl rfl ?_) ?_; (with_reducible exact HR2.out.sts)) | (refine au rfl (nz true HML.out HSL.out rfl rfl rfl HD.out) ?_) | (refine av (by rfl) (bh (c := x) rfl rfl ?_) ?_; (with_reducible exact HR2.out.range)) | fail);refine (aaj x w2).mono ?_;rintro e w3 ⟨rfl, hb⟩;have HB3 := ae (HB2.out.trans (hb.mono (Nat.le_of_lt HZ2)));clear hb;go_wp2;go_ret;exact ⟨a9 (by rw [HS.out, Bool.true_and, decide_eq_decide]; omega), HB3⟩
theorem yU (x : Ros) (w : World) : Calls prog 126 #[ros x] w fun e w' => e = .returned (.bool (a8 x)) /\ Below w.heap.size w w' := by
 have HF := ae (mC x);obtain ⟨h1, h2, h3⟩ := cY w x;have HR := ae h1;have HB := ae h2;have HZ := ae h3;clear h1 h2 h3;go_enter func126, ntmps126;go_wp2_with (first | (refine au rfl (bf rfl rfl) ?_) | (refine au rfl (ct (c := x) rfl rfl ?_) ?_; (with_reducible exact HR.out.geo)) | fail);generalize w.alloc (.cells (aU x).toArray 35) = w1 at *;refine (aah x w1).mono ?_;rintro e w2 ⟨rfl, hb⟩;have HR2 := ae (HR.out.below HZ hb);have HB2 := ae (HB.out.trans (hb.mono (Nat.le_of_lt HZ)));have HZ2 := ae (aW HR2);clear hb HR HB HZ;cases hg : ei x
 ·rw [hg] at HF;go_wp2_with fail;go_ret;exact ⟨a9 (by rw [HF.out]; rfl), HB2⟩
 ·rw [hg] at HF;have hgg := gY.1 hg;clear hg;go_wp2_with (first | (refine av (by rfl) (bh (c := x) rfl rfl ?_) ?_; (with_reducible exact HR2.out.range)) | fail);refine (zX x w2 (by omega) (by omega)).mono ?_;rintro e w3 ⟨rfl, hb⟩;have HR3 := ae (HR2.out.below HZ2 hb);have HB3 := ae (HB2.out.trans (hb.mono (Nat.le_of_lt HZ2)));have HZ3 := ae (aW HR3);clear hb HR2 HB2 HZ2 hgg;generalize (eN x && decide (cF x <= 1)) = p at *;cases p
  ·go_wp2_with fail;go_ret;exact ⟨a9 (by rw [HF.out]; rfl), HB3⟩
  ·go_wp2_with (first | (refine av (by rfl) (bh (c := x) rfl rfl ?_) ?_; (with_reducible exact HR3.out.range)) | fail);refine (acP x w3).mono ?_;rintro e w4 ⟨rfl, hb⟩;have HB4 := ae (HB3.out.trans (hb.mono (Nat.le_of_lt HZ3)));clear hb;generalize pS x = q at *;go_wp2_with fail;go_ret;exact ⟨a9 (by rw [HF.out]; rfl), HB4⟩
theorem mY (x : Sup) : dW x = (decide (x.id ≠ 0) && (a8 x.ros && decide (0 <= x.self /\ x.self < x.ros.m))) := by unfold dW; rw [Bool.and_assoc]
theorem z7 (x : Sup) (w : World) : Calls prog 119 #[sup x] w fun e w' => e = .returned (.bool (dW x)) /\ Below w.heap.size w w' := by
 have HF := ae (mY x);obtain ⟨h1, h2, h3⟩ := gn w x;have HR := ae h1;have HB := ae h2;have HZ := ae h3;obtain ⟨c0, c1, c2, c3, c4, c5, c6⟩ := h1.cells;clear h1 h2 h3;go_enter func119, ntmps119;by_cases hid : x.id = 0
 ·rw [al (by simpa using hid)] at HF;have hd : ((x.id : Int) != 0) = false := by rw [hid]; rfl
  go_wp2_with (first | (refine au rfl (ed rfl rfl) ?_) | fail);go_ret;exact ⟨a9 (by rw [HF.out]; rfl), HB⟩
 ·rw [am (by simpa using hid)] at HF;have hd : ((x.id : Int) != 0) = true := by simp; omega
  go_wp2_with (first | (refine au rfl (ed rfl rfl) ?_) | (refine av (by rfl) (bh (c := x.ros) rfl rfl ?_) ?_; (with_reducible exact HR.out.i4)) | fail);generalize w.alloc (.cells (aV x).toArray 37) = w1 at *;clear c0 c1 c2 c3 c4 c5 c6;refine (yU x.ros w1).mono ?_;rintro e w2 ⟨rfl, hb⟩;obtain ⟨c0, c1, c2, c3, c4, c5, c6⟩ := (HR.out.below HZ hb).cells;have HB2 := ae (HB.out.trans (hb.mono (Nat.le_of_lt HZ)));clear hb HR HB HZ hd hid;generalize a8 x.ros = p at *;generalize x.self = a at *;generalize x.ros.m = m at *;cases p
  ·go_wp2_with fail;go_ret;exact ⟨a9 (by rw [HF.out]; rfl), HB2⟩
  ·by_cases ha : 0 <= a
   ·go_wp2;go_ret;exact ⟨a9 (by rw [HF.out]; simp [ha]), HB2⟩
   ·have ha' : a < 0 := by omega
    go_wp2;go_ret;exact ⟨a9 (by rw [HF.out]; simp; omega), HB2⟩
def unw (ops : Array Oper) : List Oper -> Act -> Bool
 |[], _ => true
 |r :: rs, a => !(Region.wanted r (yielded ops a.tmps)) && unw ops rs (a.put r.dst undef)
def bj : List Oper -> Act -> Act
 |[], a => a
 |r :: rs, a => bj rs (a.put r.dst undef)
section
variable {P : Program} {ops : Array Oper} {rest l : List Oper} {o : Oper} {a : Act} {w w' : World} {Q : Exit -> Act -> World -> Prop} {v : Value}
theorem mH : ∀ (rs : List Oper) (a : Act), unw ops rs a = true -> wpList P ops Q rest (bj rs a) w -> wpList P ops Q (rs ++ rest) a w
 |[], _, _, h => h
 |r :: rs, a, hu, h => by
  simp only [unw, Bool.and_eq_true, Bool.not_eq_true'] at hu;refine wpList_step fun K hK => ?_
  rw [if_neg (by rw [hu.1]; exact Bool.false_ne_true)];exact hK _ _ (mH rs _ hu.2 h)
theorem aI (n : Nat) (hw : Region.wanted o (yielded ops a.tmps) = true) (h : (execOp a.eval o).run P w = .ok (.value v) w') (hu : unw ops (l.take n) (a.put o.dst v) = true) (hr : wpList P ops Q (l.drop n) (bj (l.take n) (a.put o.dst v)) w') : wpList P ops Q (o :: l) a w :=
 av hw h (by have := mH (P := P) (Q := Q) (l.take n) _ hu hr; rwa [List.take_append_drop] at this)
end
theorem wn (x : Ros) (w : World) : Calls prog 65 #[ros x] w fun e w' => e = .returned (.bool (a8 x)) /\ Below w.heap.size w w' := by
 have HGE : Hid (ei x = false -> a8 x = false) := ae fun h => by unfold a8; rw [h]; rfl
 have HOK : Hid (ei x = true -> eN x = true -> a8 x = (decide (cF x <= 1) && decide (0 <= x.cur /\ x.cur < x.s /\ (cF x = 1 \/ x.cur = 0)))) := ae fun h h' => by unfold a8; rw [h, h', Bool.true_and, Bool.true_and]
 have HNO : Hid (∀ j, j < 16 -> (2 < sta x j \/ (x.m <= (j : Int) /\ sta x j ≠ 0)) -> a8 x = false) := ae fun j => abH
 have HSTA := ae (gp (x := x));obtain ⟨h1, h2, h3⟩ := cY w x;have HR := ae h1;have HB := ae h2;have HZ := ae h3;clear h1 h2 h3;have HH : Hid (cF x = fi x.st.toList 16) := ae rfl;have HST : Hid (∀ j, sta x j = bt x.st.toList j) := ae fun _ => rfl
 go_enter func65, ntmps65;go_wp2_with (first | (refine au rfl (bf rfl rfl) ?_) | (refine au rfl (ct (c := x) rfl rfl ?_) ?_; (with_reducible exact HR.out.geo)) | fail);generalize w.alloc (.cells (aU x).toArray 35) = w1 at *;refine (ab9 x w1).mono ?_;rintro e w2 ⟨rfl, hb⟩;have HR2 := ae (HR.out.below HZ hb);have HB2 := ae (HB.out.trans (hb.mono (Nat.le_of_lt HZ)));clear hb HR HB HZ;cases hg : ei x
 ·have HF := ae (HGE.out hg);clear hg;go_wp2_with fail;go_ret;exact ⟨by rw [HF.out]; rfl, HB2⟩
 ·have HOK2 := ae (HOK.out hg);clear hg HOK HGE;have HM := ae HR2.out.cells.1;have HSS := ae HR2.out.cells.2.1;have HCU := ae HR2.out.cells.2.2.2.1;go_wp2_with fail
  go_loop [3, 4] (fun n i => ∃ j : Nat, j <= 16 /\ i = .int .i64 j /\ n = .int .i64 (fi x.st.toList j : Nat) /\ (∀ k, k < j -> sta x k <= 2) /\ (∀ k : Nat, k < j -> x.m <= (k : Int) -> sta x k = 0)) (fun _ i => 16 - (intOf i).toNat)
  case atStart => exact ⟨0, Nat.zero_le _, rfl, rfl, fun k hk => absurd hk (by omega), fun k hk => absurd hk (by omega)⟩
  case round =>
   obtain ⟨j, hj, rfl, rfl, ha1, ha2⟩ := hrel;have HA1 := ae ha1;have HA2 := ae ha2;clear ha1 ha2;by_cases hlt : j < 16
   ·have HC := ae (HR2.out.sta hlt);have HS := ae (gC x.st.toList j);have hle := lQ x.st.toList j;generalize fi x.st.toList j = n at *;go_upto_region 7 with fail;refine bn 1 ?_;refine ac6 (ax rfl adh kU) ?_;refine ac6 (cN rfl adh adh (oG hlt)) ?_;refine ac6 (aE rfl adh (pK HC)) ?_;by_cases g2 : 2 < sta x j
    ·have HF := ae (HNO.out j hlt (.inl g2));have H17 : Hid (decide ((2 : Int) < sta x j) = true) := ae (am g2);clear g2;refine ac6 (dN true rfl adh evk H17) ?_;refine aI 12 rfl (aL rfl adh) (by kernel_rfl) ?_;simp only [bj, ac, aa];refine aP 1 ?_;go_wp2_with fail;go_ret;exact ⟨by rw [HF.out]; rfl, HB2⟩
    ·have H17 : Hid (decide ((2 : Int) < sta x j) = false) := ae (al g2);have HLE : Hid (sta x j <= 2) := ae (by omega);refine ac6 (dN false rfl adh evk H17) ?_;refine runs 2 ?_;refine ade (ax rfl adh kr) ?_;refine ade (ax rfl adh o8) ?_;refine ade (aE rfl adh (cv HM)) ?_;by_cases gm : x.m <= (j : Int)
     ·have H23 : Hid (decide (x.m <= (j : Int)) = true) := ae (am gm);refine ade (cn true rfl adh adh H23) ?_;refine runs 2 ?_;refine ade (ax rfl adh kU) ?_;refine ade (cN rfl adh adh (oG hlt)) ?_;refine ade (aE rfl adh (pK HC)) ?_;by_cases g0 : sta x j = 0
      ·have H29 : Hid ((sta x j != 0) = false) := ae (by rw [g0]; rfl);have HEQ := ae g0;clear g2 gm g0;refine ade (aO false rfl adh evk H29) ?_;refine aP 2 ?_;have cs := HC.out;rw [HEQ.out] at cs;go_wp2_with fail
       go_round
       case rel =>
        refine ⟨j + 1, by omega, by go_num, ?_, fun k hk => ?_, fun k hk hm => ?_⟩
        ·rw [HS.out, if_neg (by rw [<- HST.out, HEQ.out]; omega), Nat.add_zero]
        ·by_cases e : k = j
         ·rw [e]; exact HLE
         ·exact HA1.out k (by omega)
        ·by_cases e : k = j
         ·rw [e]; exact HEQ
         ·exact HA2.out k (by omega) hm
       case measure => simp [intOf]; omega
      ·have HF := ae (HNO.out j hlt (.inr ⟨gm, g0⟩));have H29 : Hid ((sta x j != 0) = true) := ae (by simpa using g0);clear g2 gm g0;refine ade (aO true rfl adh evk H29) ?_;refine aP 2 ?_;go_wp2_with fail;go_ret;exact ⟨by rw [HF.out]; rfl, HB2⟩
     ·have H23 : Hid (decide (x.m <= (j : Int)) = false) := ae (al gm);have HGM := ae gm;clear g2 gm;refine ade (cn false rfl adh adh H23) ?_;refine aI 5 ac1 (aL rfl adh) (by kernel_rfl) ?_;simp only [bj, ac, aa];refine aP 2 ?_;have cs := HC.out;have HN1 : Hid (∀ k, k < j + 1 -> sta x k <= 2) := ae fun k hk => by
       by_cases e : k = j
       ·rw [e]; exact HLE
       ·exact HA1.out k (by omega)
      have HN2 : Hid (∀ k : Nat, k < j + 1 -> x.m <= (k : Int) -> sta x k = 0) := ae fun k hk hm => by
       by_cases e : k = j
       ·rw [e] at hm; exact absurd hm HGM
       ·exact HA2.out k (by omega) hm
      by_cases h2 : sta x j = 2
      ·have hd : (sta x j == 2) = true := by rw [h2]; rfl
       have HEQ := ae h2;clear h2;go_wp2_with fail
       go_round
       case rel => exact ⟨j + 1, by omega, by go_num, by rw [HS.out, if_pos (by rw [<- HST.out, HEQ.out])]; go_num, HN1, HN2⟩
       case measure => simp [intOf]; omega
      ·have hd : (sta x j == 2) = false := by simpa using h2
       have HEQ := ae h2;clear h2;go_wp2_with fail
       go_round
       case rel => exact ⟨j + 1, by omega, by go_num, by rw [HS.out, if_neg (by rw [<- HST.out]; exact HEQ.out), Nat.add_zero], HN1, HN2⟩
       case measure => simp [intOf]; omega
   ·have e : j = 16 := by omega
    subst e;have HF := ae (HOK2.out (HSTA.out.2 ⟨HA1, HA2⟩));rw [HH.out] at HF;have hle := lQ x.st.toList 16;generalize fi x.st.toList 16 = n at *;clear HA1 HA2 HNO HSTA hlt hj HST HOK2;obtain ⟨c, hc⟩ : ∃ c, x.cur = c := ⟨_, rfl⟩;obtain ⟨s, hs⟩ : ∃ s, x.s = s := ⟨_, rfl⟩;rw [hc, hs] at HF;rw [hc] at HCU;rw [hs] at HSS;clear hc hs;go_upto_region 11 with fail;refine bn 1 ?_;by_cases q1 : n <= 1
    ·have H40 : Hid (decide ((n : Int) <= 1) = true) := ae (am (by omega));refine ac6 (dF true rfl adh evk H40) ?_;refine runs 1 ?_;refine ade (ax rfl adh uQ) ?_;refine ade (aE rfl adh (cv HCU)) ?_;by_cases q2 : 0 <= c
     ·have H44 : Hid (decide ((0 : Int) <= c) = true) := ae (am q2);refine ade (cn true rfl adh evk H44) ?_;refine runs 2 ?_;refine ade (ax rfl adh uQ) ?_;refine ade (aE rfl adh (cv HCU)) ?_;refine ade (ax rfl adh kr) ?_;refine ade (ax rfl adh wc) ?_;refine ade (aE rfl adh (cv HSS)) ?_;by_cases q3 : c < s
      ·have H52 : Hid (decide (c < s) = true) := ae (am q3);refine ade (bw true rfl adh adh H52) ?_;refine runs 3 ?_;by_cases q4 : n = 1
       ·have H56 : Hid (((n : Int) == 1) = true) := ae (by rw [q4]; rfl);refine ade (aG true rfl adh evk H56) ?_;refine aI 3 ac1 (aL rfl adh) (by kernel_rfl) ?_;simp only [bj, ac, aa];refine aP 3 ?_;go_wp2_with fail;go_ret;exact ⟨a9 (by rw [HF.out]; rw [am q1, am (by omega)]; rfl), HB2⟩
       ·have H56 : Hid (((n : Int) == 1) = false) := ae (by simp; omega);refine ade (aG false rfl adh evk H56) ?_;refine runs 1 ?_;refine ade (ax rfl adh uQ) ?_;refine ade (aE rfl adh (cv HCU)) ?_;by_cases q5 : c = 0
        ·have H60 : Hid ((c == 0) = true) := ae (by simpa using q5);refine ade (aG true rfl adh evk H60) ?_;refine aP 3 ?_;go_wp2_with fail;go_ret;exact ⟨a9 (by rw [HF.out]; rw [am q1, am (by omega)]; rfl), HB2⟩
        ·have H60 : Hid ((c == 0) = false) := ae (by simpa using q5);refine ade (aG false rfl adh evk H60) ?_;refine aP 3 ?_;go_wp2_with fail;go_ret;exact ⟨a9 (by rw [HF.out]; rw [am q1, al (by omega)]; rfl), HB2⟩
      ·have H52 : Hid (decide (c < s) = false) := ae (al q3);refine ade (bw false rfl adh adh H52) ?_;refine runs 1 ?_;refine aI 7 rfl (aL rfl adh) (by kernel_rfl) ?_;simp only [bj, ac, aa];refine aP 2 ?_;go_wp2_with fail;go_ret;exact ⟨a9 (by rw [HF.out]; rw [am q1, al (by omega)]; rfl), HB2⟩
     ·have H44 : Hid (decide ((0 : Int) <= c) = false) := ae (al q2);refine ade (cn false rfl adh evk H44) ?_;refine runs 1 ?_;refine aI 6 rfl (aL rfl adh) (by kernel_rfl) ?_;simp only [bj, ac, aa];refine runs 1 ?_;refine aI 7 rfl (aL rfl adh) (by kernel_rfl) ?_;simp only [bj, ac, aa];refine aP 2 ?_;go_wp2_with fail;go_ret;exact ⟨a9 (by rw [HF.out]; rw [am q1, al (by omega)]; rfl), HB2⟩
    ·have H40 : Hid (decide ((n : Int) <= 1) = false) := ae (al (by omega));refine ac6 (dF false rfl adh evk H40) ?_;refine aI 3 rfl (aL rfl adh) (by kernel_rfl) ?_;simp only [bj, ac, aa];refine runs 1 ?_;refine aI 6 rfl (aL rfl adh) (by kernel_rfl) ?_;simp only [bj, ac, aa];refine runs 1 ?_;refine aI 7 rfl (aL rfl adh) (by kernel_rfl) ?_;simp only [bj, ac, aa];refine aP 2 ?_;go_wp2_with fail;go_ret;exact ⟨a9 (by rw [HF.out]; rw [al q1]; rfl), HB2⟩
theorem abm (n : Nat) (w : World) : Calls prog 74 #[.int .u64 n] w fun e w' => e = .returned (.bool (evB n)) /\ w = w' := by
 by_cases h : 1 <= n
 ·go_enter func74, ntmps74;go_wp2;go_ret;refine ⟨a9 ?_, rfl⟩;unfold evB;rw [decide_eq_decide];omega
 ·have h0 : n = 0 := by omega
  subst h0;go_enter func74, ntmps74;go_wp2;go_ret;exact ⟨rfl, rfl⟩
theorem ab6 (x : Sup) (w : World) : Calls prog 75 #[sup x] w fun e w' => e = .returned (.bool (dW x)) /\ Below w.heap.size w w' := by
 have HF := ae (mY x);obtain ⟨h1, h2, h3⟩ := gn w x;have HR := ae h1;have HB := ae h2;have HZ := ae h3;obtain ⟨c0, c1, c2, c3, c4, c5, c6⟩ := h1.cells;clear h1 h2 h3;go_enter func75, ntmps75;by_cases hid : x.id = 0
 ·rw [al (by simpa using hid)] at HF;have hd : ((x.id : Int) != 0) = false := by rw [hid]; rfl
  go_wp2_with (first | (refine au rfl (ed rfl rfl) ?_) | fail);go_ret;exact ⟨a9 (by rw [HF.out]; rfl), HB⟩
 ·rw [am (by simpa using hid)] at HF;have hd : ((x.id : Int) != 0) = true := by simp; omega
  go_wp2_with (first | (refine au rfl (ed rfl rfl) ?_) | (refine av (by rfl) (bh (c := x.ros) rfl rfl ?_) ?_; (with_reducible exact HR.out.i4)) | fail);generalize w.alloc (.cells (aV x).toArray 37) = w1 at *;clear c0 c1 c2 c3 c4 c5 c6;refine (wn x.ros w1).mono ?_;rintro e w2 ⟨rfl, hb⟩;obtain ⟨c0, c1, c2, c3, c4, c5, c6⟩ := (HR.out.below HZ hb).cells;have HB2 := ae (HB.out.trans (hb.mono (Nat.le_of_lt HZ)));clear hb HR HB HZ hd hid;generalize a8 x.ros = p at *;generalize x.self = a at *;generalize x.ros.m = m at *;cases p
  ·go_wp2_with fail;go_ret;exact ⟨a9 (by rw [HF.out]; rfl), HB2⟩
  ·by_cases ha : 0 <= a
   ·go_wp2;go_ret;exact ⟨a9 (by rw [HF.out]; simp [ha]), HB2⟩
   ·have ha' : a < 0 := by omega
    go_wp2;go_ret;exact ⟨a9 (by rw [HF.out]; simp; omega), HB2⟩
theorem qp {w : World} {N n : Nat} {ad : Addr} {l : List UInt8} (h : Rd w N (some ad) n l) : ∀ (j : Nat) (u : Value), (l.map fun u => Value.int .u8 (u.toNat : Int))[j]? = some u -> w.cell? (ad.add j) = some u := by
 intro j u hu;have hj : j < l.length := by
  rcases Nat.lt_or_ge j l.length with hlt | hge
  ·exact hlt
  ·rw [List.getElem?_eq_none (by simpa using hge)] at hu;cases hu
 obtain ⟨b, off, e, _, hc⟩ := h.2 j (by have := h.1; omega);injection e with e;subst e;have hadd : (⟨b, off, none⟩ : Addr).add j = ⟨b, off + j, none⟩ := by unfold Addr.add; split <;> simp_all
 rw [hadd, hc, cP hj];rw [List.getElem?_map, List.getElem?_eq_getElem hj] at hu
 simpa using hu
theorem zv (w : World) (ty B N m c : Nat) (v : Value) (l l' : List UInt8) (A : Option Addr) (hm : Made w B v l) (hr : Rd w N A m l') (hB : B <= w.heap.size) (hsum : l.length + m <= 140737488355328) :
  ∃ v' w', (Builtin.append_ #[116, 116] ty #[v, .slice A m c]).run prog w = .ok v' w' /\ Made w' B v' (l ++ l') /\ w.grownBy w' v.ownBlock := by
 obtain ⟨i0, hi, hz0, hz1, hz2⟩ := info_parts kf;rcases A with _ | ad
 ·have h0 : m = 0 := by
   rcases Nat.eq_zero_or_pos m with h | h
   ·exact h
   ·obtain ⟨b, off, e, _⟩ := hr.2 0 h;cases e
  subst h0;have hn : l' = [] := List.eq_nil_of_length_eq_zero hr.1;subst hn;refine ⟨v, w, ?_, by rw [List.append_nil]; exact hm, World.grownBy.refl w _⟩;rcases hm.2 with ⟨rfl, _⟩ | ⟨g, cap, cur, rfl, _, _, hnc, _⟩
  ·simp [Builtin.append_, run_underlying underlying116, sizeOf, typeInfo, hi, Builtin.lenOf, Builtin.firstCells]
  ·simp [Builtin.append_, run_underlying underlying116, sizeOf, typeInfo, hi, Builtin.lenOf, Builtin.firstCells, hnc, storeCells]
 ·obtain ⟨v', w', h1, h2, h3, _⟩ := run_append_own (P := prog) w B 116 ty 5 i0 (.int .u8 0) 1 1 underlying116 hi hz0 hz1 hz2 rfl (by decide) v l.length _ hm ad m c (l'.map fun u => .int .u8 (u.toNat : Int))
   (by have := hr.1; simpa using this) (qp hr) (by intro u hu; simp at hu; obtain ⟨x, _, rfl⟩ := hu; rfl) (by unfold maxLen; omega) (by omega) hB
  refine ⟨v', w', h1, ?_, h3⟩;rw [<- List.map_append] at h2;exact Made.wR h2
theorem dA {w : World} {ops : Array Oper} {rest : List Oper} {o : Oper} {a : Act} {Q : Exit -> Act -> World -> Prop} (hgd : o.guard = none) (s x : Operand)
  (ho : o.op = .call { callee := .builtin .append, args := #[s, x], argTypes := #[116, 116] })
  (B N m c : Nat) (v : Value) (l l' : List UInt8) (A : Option Addr) (hs : a.eval s = v) (hx : a.eval x = .slice A m c) (hm : Made w B v l) (hr : Rd w N A m l') (hB : B <= w.heap.size) (hsum : l.length + m <= 140737488355328)
  (h : ∀ v' w', Made w' B v' (l ++ l') -> w.grownBy w' v.ownBlock -> wpList prog ops Q rest (a.put o.dst v') w') : wpList prog ops Q (o :: rest) a w := by
 refine wpList_plain hgd fun K hK => ?_
 obtain ⟨v', w', hrun, h1, h2⟩ := zv w o.type B N m c v l l' A hm hr hB hsum;unfold Oper.wp;simp [execOp, ho, resolve, invoke, builtin, hs, hx, hrun, Result.andThen];exact hK _ _ (h v' w' h1 h2)
theorem xM (A : Option Addr) (n c N B : Nat) (b : List UInt8) (w : World) (HB : Hid (B = w.heap.size)) (hb : Rd w N A n b) (hN : N <= B) (hn : n <= 140737488351232) :
  Calls prog 99 #[.slice A n c] w fun e w' => ∃ v, e = .returned v /\ Made w' B v b /\ Below B w w' := by
 have hBle := Nat.le_of_eq HB;go_enter func99, ntmps99;go_wp2_with (at_builtin; refine dA rfl _ _ rfl B N n c _ [] b A rfl rfl (World.ownsRow_nil _ _ _ _) hb hBle ?c1 ?_)
 case c1 => simp; omega
 intro v1 w1 hm1 hg1;go_wp2;go_ret;exact ⟨_, rfl, hm1, aj.grown hg1 hBle (by simp [Value.ownBlock])⟩
theorem Made.smn {w : World} {B : Nat} {v : Value} {l : List UInt8} (h : Made w B v l) (h0 : 0 < l.length) : ∃ g c, v = .slice (some ⟨g, 0, none⟩) l.length c /\ B <= g /\ l.length <= c /\ c <= maxLen := by
 rcases h.2 with ⟨_, h1⟩ | ⟨g, cap, cur, rfl, hB, _, h1, h2, _⟩
 ·omega
 ·exact ⟨g, cap, rfl, hB, h1, h2⟩
theorem ul (m c : Nat) (A : Option Addr) (b : List UInt8) (w : World) :
  Calls prog 76 #[.int .u64 0, .slice A m c] w fun e w' => e = .returned (.tuple #[blk (dO 0 b), .int .i64 (dL 0 b : Nat)]) /\ Below w.heap.size w w' := by
 have hA := (Below.refl w.heap.size w).alloc ai (.cells (cel aB).toArray 29);have HT := ae (dG w aB 29);have HA := ae hA;clear hA;rw [show dO 0 b = aB from rfl, show dL 0 b = 2 from rfl];go_enter func76, ntmps76;go_wp2_with (first | (refine av rfl (bq rfl) ?_) | (refine av rfl (cr (c := aB) (parts := []) rfl rfl) ?_) | (refine aZ rfl (bc rfl rfl rfl HT.out) ?_));refine bodyPost_ret (cp rfl _ _ _ rfl (World.rangeAt_setCells_same _ _ _ _ (by rw [aF]; exact HT))) rfl ⟨rfl, below_setCells HA ai _⟩
theorem qS (n m c : Nat) (A : Option Addr) (b : List UInt8) (w : World) (hb : b.length = m) (h0 : 0 < n) (hm : 44 < m) (hm2 : m <= maxLen) :
  Calls prog 76 #[.int .u64 n, .slice A m c] w fun e w' => e = .returned (.tuple #[blk (dO n b), .int .i64 (dL n b : Nat)]) /\ Below w.heap.size w w' := by
 have hA := (Below.refl w.heap.size w).alloc ai (.cells (cel aB).toArray 29);have HT := ae (dG w aB 29);have HA := ae hA;have hE : dL n b = 3 := by unfold dL; rw [if_neg (by omega), if_pos (by omega)]
 have hB : dO n b = aB := by unfold dO; rw [hE]; rfl
 rw [hE, hB];unfold maxLen at hm2;clear hA hE hB hb;have hz : ((n : Int) == 0) = false := by simp; omega
 go_enter func76, ntmps76;go_wp2_with (first | (refine av rfl (bq rfl) ?_) | (refine av rfl (cr (c := aB) (parts := []) rfl rfl) ?_) | (refine aZ rfl (bc rfl rfl rfl HT.out) ?_));refine bodyPost_ret (cp rfl _ _ _ rfl (World.rangeAt_setCells_same _ _ _ _ (by rw [aF]; exact HT))) rfl ⟨rfl, below_setCells HA ai _⟩
theorem oE (n k B : Nat) (w : World) (HB : Hid (B = w.heap.size)) (hn : n < 18446744073709551616) (h1 : 1 <= k) (h2 : k <= 8) (hk : n < 2 ^ (8 * k)) :
  Calls prog 98 #[.int .u64 n, .int .i64 k] w fun e w' => ∃ v, e = .returned (.tuple #[v, .int .i64 0]) /\ Made w' B v (aN 8 k n) /\ Below B w w' :=
 (xF n k B w HB hn h1 h2).mono fun e w' ⟨⟨hy, _⟩, hb⟩ => by
  obtain ⟨v, he, hm⟩ := hy hk;exact ⟨v, he, hm, hb⟩
def lL (n : Nat) (b : List UInt8) (k : Nat) : List UInt8 := aN 8 8 n ++ b ++ List.replicate k 0
theorem ij (n : Nat) (b : List UInt8) (k : Nat) : (lL n b k).length = 8 + b.length + k := by simp [lL, aA]; omega
theorem t6 (n : Nat) (b : List UInt8) : lL n b 0 = aN 8 8 n ++ b := by simp [lL]
theorem uq (n : Nat) (b : List UInt8) (k : Nat) : lL n b k ++ [0] = lL n b (k + 1) := by simp [lL, List.replicate_succ']
theorem uP (n : Nat) (b : List UInt8) (k : Nat) (h : 8 + b.length + k = 52) : lL n b k = cR n b := by
 unfold lL cR dw;rw [show 44 - b.length = k from by omega, List.append_assoc]
def acc : Value -> Nat
 |.slice _ n _ => n
 |_ => 0
def acx (n m : Nat) (b : List UInt8) (B : Nat) (w1 : World) (v : Value) (wr : World) : Prop := ∃ k : Nat, 8 + m + k <= 52 /\ Made wr B v (lL n b k) /\ Below B w1 wr
theorem zz (w : World) : Rd (w.alloc (.cells #[.int .u8 0] 5)) (w.heap.size + 1) (some ⟨w.heap.size, 0, none⟩) 1 [0] := rr w [0] #[.int .u8 0] rfl
theorem uc (n m c N : Nat) (A : Option Addr) (b : List UInt8) (w : World) (hn : n < 18446744073709551616) (h0 : 0 < n) (hb : Rd w N A m b) (hN : N <= w.heap.size) (hm : m <= 44) :
  Calls prog 76 #[.int .u64 n, .slice A m c] w fun e w' => e = .returned (.tuple #[blk (dO n b), .int .i64 (dL n b : Nat)]) /\ Below w.heap.size w w' := by
 have hl := hb.1;have hbl : b.length <= 44 := by omega
 have hE : dL n b = 0 := kY (by omega) hbl;have hB : dO n b = ofL (cD n b) := jK hE;rw [hE, hB];have hA := (Below.refl w.heap.size w).alloc ai (.cells (cel aB).toArray 29);have HA := ae hA;have HR := ae (hb.below (hA.mono hN));have HRES := ae (cl.blk w aB 29);have HLB := ae hl;have HN := ae hn;have HNN := ae hN;have HL64 := ae (fx n hbl);have HH52 := ae (dD n hbl);have HC := ae (ls (s := 0) (by omega) (cR n b));clear hl hbl hE hB hA hn hb hN;have hz : ((n : Int) == 0) = false := by simp; omega
 go_enter func76, ntmps76;go_wp2_with (first | (refine av rfl (bq rfl) ?_) | fail);have hn := HN.out;refine (oE n 8 _ _ (ae rfl) hn (by omega) (by omega) hn).mono ?_;rintro e w1 ⟨v1, rfl, hm1, hb1⟩;obtain ⟨A1, c1, rfl, hr1, hcc1, hcc2⟩ := hm1.open_ (aA 8 8 n);clear hn hm1 hcc1 hcc2;have hs1 := hb1.size;have HRES1 := ae (cl.below HRES (by simp only [World.size_alloc]; omega) hb1);have HR1 := ae (HR.out.below (hb1.mono (by have := HNN.out; simp only [World.size_alloc]; omega)));have HB1 := ae (HA.out.trans (hb1.mono (by simp only [World.size_alloc]; omega)));have HD1 := ae hr1;have HS1 : Hid (w.heap.size + 1 <= w1.heap.size) := ae (by simpa only [World.size_alloc] using hs1);clear hr1 hb1 hs1 HR HRES HA;obtain ⟨r, hr⟩ : ∃ r, w.heap.size = r := ⟨_, rfl⟩;have HRR := ae hr;rw [hr] at HRES1 HS1 HNN;rw [hr];clear hr;go_wp2_with fail;obtain ⟨B, hB⟩ : ∃ B, B = w1.heap.size := ⟨_, rfl⟩;have HB := ae hB;rw [<- hB] at HD1 HS1;clear hB;refine (xM A1 8 c1 B B (aN 8 8 n) _ HB HD1 ai (by omega)).mono ?_;rintro e w2 ⟨v2, rfl, hm2, hb2⟩;have hR2 := HR1.out.below (hb2.mono (by have := HNN.out; have := HS1.out; omega));have HBle := ae (show B <= w2.heap.size from ap (Nat.le_of_eq HB) hb2.size);go_wp2_with (at_builtin; refine dA rfl _ _ rfl B N m c _ (aN 8 8 n) b A rfl rfl hm2 hR2 HBle ?c1 ?_)
 case c1 => rw [aA]; omega
 intro v3 w3 hm3 hg3;have hb3 : Below B w1 w3 := hb2.grown hg3 HBle (fun k hk => (hm2.lt k hk).1);rw [<- t6] at hm3;have HM3 := ae hm3;have HB3 := ae hb3;clear hm2 hb2 hR2 hm3 hg3 hb3 HBle;go_wp2
 go_loopw [8] (fun v wr => acx n m b B w1 v wr) (fun v _ => 52 - acc v)
 case atStart => exact ⟨0, by omega, HM3, HB3⟩
 case round =>
  obtain ⟨k, hk, hmr, hbr⟩ := hrel;obtain ⟨A', c', rfl, hr', hc1, hc2⟩ := hmr.open_ (n := 8 + m + k) (by rw [ij, HLB.out]);unfold maxLen at hc2;have hBr : B <= wr.heap.size := ap (Nat.le_of_eq HB) hbr.size;have HMR := ae hmr;have HBR := ae hbr;have HRR' := ae hr';by_cases hlt : 8 + m + k < 52
  ·have hma := hmr.below ((Below.refl wr.heap.size wr).alloc ai (.cells #[.int .u8 0] 5));have hba : Below B w1 (wr.alloc (.cells #[.int .u8 0] 5)) := hbr.alloc hBr _;have hra := zz wr;clear hmr hbr hr';go_wp2_with (at_builtin; refine dA rfl _ _ rfl B _ 1 1 _ (lL n b k) [0] _ rfl rfl hma hra ?c2 ?c3 ?_)
   case c2 => simp only [World.size_alloc]; omega
   case c3 => rw [ij, HLB.out]; omega
   intro v4 w4 hm4 hg4;rw [uq] at hm4;have HM4 := ae hm4;have HB4 := ae (hba.grown hg4 (by simp only [World.size_alloc]; omega) (fun k hk => (hma.lt k hk).1));obtain ⟨A5, c5, rfl, _, _, _⟩ := hm4.open_ (n := 8 + m + (k + 1)) (by rw [ij, HLB.out]);clear hm4 hg4 hma hba hra;go_wp2;go_roundw
   case rel => exact ⟨k + 1, by omega, HM4, HB4⟩
   case measure => simp [acc]; omega
  ·have hk52 : 8 + m + k = 52 := by omega
   have HPK := ae (uP n b k (by rw [HLB.out]; exact hk52));rw [hk52] at HMR HRR' hc1 ⊢;rw [HPK.out] at HMR HRR';clear hmr hbr hr' hlt hk hk52 HPK;go_wp2_with fail;refine (uf A' 52 c' _ (cR n b) _ HRR' (by unfold maxLen; omega)).mono ?_;rintro e w5 ⟨rfl, rfl⟩;obtain ⟨s, hs⟩ : ∃ s, more 0 (cR n b) = s := ⟨_, rfl⟩;have hs32 := HC.out;rw [hs] at hs32 ⊢;have HSS := ae hs;clear hs;go_wp2_with fail;refine (oE s 4 _ _ (ae rfl) (by omega) (by omega) (by omega) (by omega)).mono ?_;rintro e w5 ⟨v5, rfl, hm5, hb5⟩;obtain ⟨A5, c5, rfl, hr5, hcc1, hcc2⟩ := hm5.open_ (aA 8 4 s);have hmr5 := HMR.out.below hb5;have hbr5 : Below B w1 w5 := HBR.out.trans (hb5.mono hBr);have hB5 : B <= w5.heap.size := ap hBr hb5.size;clear hm5 hb5 hcc1 hcc2 hs32;go_wp2_with (at_builtin; refine dA rfl _ _ rfl B _ 4 c5 _ (cR n b) (aN 8 4 s) A5 rfl rfl hmr5 hr5 hB5 ?c4 ?_)
   case c4 => rw [HH52.out]; omega
   intro v6 w6 hm6 hg6;have HM6 := ae hm6;have HB6 := ae (hbr5.grown hg6 hB5 (fun k hk => (hmr5.lt k hk).1));clear hmr5 hbr5 hm6 hg6 hr5;have hB6 : B <= w6.heap.size := ap (Nat.le_of_eq HB) HB6.out.size;have hm6 := HM6.out;have hr6 := HD1.out.below HB6;go_wp2_with (at_builtin; refine dA rfl _ _ rfl B B 8 c1 _ (cR n b ++ aN 8 4 s) (aN 8 8 n) A1 rfl rfl hm6 hr6 hB6 ?c5 ?_)
   case c5 => rw [List.length_append, HH52.out, aA]; omega
   intro v7 w7 hm7 hg7;have hseal : cR n b ++ (aN 8 4 s ++ aN 8 8 n) = cD n b := by rw [<- HSS.out]; rfl
   rw [hseal] at hm7;obtain ⟨q, c7, rfl, hq7, hc71, hc72⟩ := hm7.smn (by rw [HL64.out]; omega);rw [HL64.out] at hm7 hc71 ⊢;unfold maxLen at hc72;have hrd7 := hm7.rd;have HB7 := ae (HB6.out.grown hg7 hB6 (fun k hk => (hm6.lt k hk).1));have HRD7 := ae hrd7;clear hm7 hg7 hm6 hr6 hseal hrd7 HM6 HB6 HMR HRR' HBR;have hO := y8 w7 aB 29;have hb8 := (Below.refl w7.heap.size w7).alloc ai (.cells (cel aB).toArray 29);go_wp2_with (first | (refine av rfl (bq rfl) ?_) | fail);generalize hg2 : w7.heap.size = g2 at *;have HG2 := ae hg2;have HB8 := ae hb8;have HO := ae hO;clear hg2 hb8 hO
   go_loopw [12] (fun i wr => ∃ (j : Nat) (f : Nat -> Int), j <= 64 /\ i = .int .i64 j /\ wr.rowIs g2 29 64 (fun j => .int .u8 (f j)) /\ (∀ m, m < j -> f m = bt (cD n b) m) /\ Below g2 w7 wr) (fun i _ => 64 - (intOf i).toNat)
   case atStart => exact ⟨0, byt aB, by omega, rfl, HO, fun m hm => absurd hm (by omega), HB8⟩
   case round =>
    clear HO HB8;obtain ⟨j, f, hj, rfl, hrow, hf, hbl⟩ := hrel;have HF := ae hf;clear hf;by_cases hlt : j < 64
    ·have hc1 := hrow.cell (i := j) (by omega);have hfr := hrow.frozen j;have hrd := (HRD7.out.below hbl).2 j hlt;obtain ⟨bA, oA, hA1, hA2, hA3⟩ := hrd;injection hA1 with hA1;injection hA1 with e1 e2;subst e1 e2;rw [Nat.zero_add] at hA3;go_wp2_with fail;go_roundw
     case rel =>
      refine ⟨j + 1, upd f j (bt (cD n b) j), by omega, by go_num, oD hrow _, ?_, hbl.setCell (by simp) _⟩;intro m hm;by_cases e : m = j
      ·subst e; exact mg _ _ _
      ·rw [jt _ _ e]; exact HF.out m (by omega)
     case measure => simp [intOf]; omega
    ·have hj64 : j = 64 := by omega
     subst hj64;have hr := un (c := ofL (cD n b)) (o := 0) hrow (by omega) (fun m hm => by rw [Nat.zero_add, HF.out m hm, kZ _ hm]);have HR2 := ae hr;have hBX : Below B w1 wr := HB7.out.trans (hbl.mono (by rw [<- HG2.out]; exact ap (Nat.le_of_eq HB) HB7.out.size));have HRX := HRES1.out.below (by have := HS1.out; omega) hBX;have HTH : Hid (wr.there r 0 64) := ae (nr HRX.row (by simp));have HBB : Hid (Below w.heap.size w wr) := ae (HB1.out.trans (hBX.mono (by rw [HRR.out]; have := HS1.out; omega)));clear hr hbl hrow hBX HRX;go_wp2_with (first | (refine av rfl (bk rfl rfl HR2.out) ?_) | (refine aZ rfl (bc rfl rfl rfl HTH.out) ?_) | fail);refine bodyPost_ret (cp rfl _ _ _ rfl (World.rangeAt_setCells_same _ _ _ _ (by rw [aF]; exact HTH))) rfl ⟨rfl, below_setCells HBB (Nat.le_of_eq HRR) _⟩
theorem vd (n m c N : Nat) (A : Option Addr) (b : List UInt8) (w : World) (hn : n < 18446744073709551616) (hb : Rd w N A m b) (hN : N <= w.heap.size) (hm : m <= maxLen) :
  Calls prog 76 #[.int .u64 n, .slice A m c] w fun e w' => e = .returned (.tuple #[blk (dO n b), .int .i64 (dL n b : Nat)]) /\ Below w.heap.size w w' := by
 by_cases h0 : n = 0
 ·subst h0;exact ul m c A b w
 ·by_cases h44 : m <= 44
  ·exact uc n m c N A b w hn (by omega) hb hN h44
  ·exact qS n m c A b w hb.1 (by omega) (by omega) hm
theorem jI (s : Int) (w : World) (h1 : 1 <= s) (h2 : s <= 8) : Calls prog 144 #[.int .i64 s] w fun e w' => e = .returned (.bool true) /\ w = w' := by
 go_enter func144, ntmps144;go_wp2;go_ret;exact ⟨rfl, rfl⟩
theorem sf {d : Nat} (h1 : 1 <= d) (h2 : d <= 8) : d = 1 \/ d = 2 \/ d = 3 \/ d = 4 \/ d = 5 \/ d = 6 \/ d = 7 \/ d = 8 := by omega
def bytesOf (m d : Nat) : Nat := (m * d + 7) / 8
theorem nD (m d : Nat) (w : World) (h1 : 1 <= d) (h2 : d <= 8) (hm : m <= 4611686018427387904) : Calls prog 145 #[.int .i64 m, .int .i64 d] w fun e w' => e = .returned (.int .i64 (bytesOf m d)) /\ w = w' := by
 rcases sf h1 h2 with rfl | rfl | rfl | rfl | rfl | rfl | rfl | rfl
 all_goals
  clear h1 h2;go_enter func145, ntmps145;go_wp2;go_ret;exact ⟨bD (by unfold bytesOf; omega), rfl⟩
theorem nB (m d : Nat) (w : World) (h1 : 1 <= d) (h2 : d <= 8) (hm : m <= 4611686018427387904) : Calls prog 146 #[.int .i64 m, .int .i64 d] w fun e w' => e = .returned (.tuple #[.int .i64 (m * d / 8 : Nat), .int .i64 (m * d % 8 : Nat)]) /\ w = w' := by
 rcases sf h1 h2 with rfl | rfl | rfl | rfl | rfl | rfl | rfl | rfl
 all_goals
  clear h1 h2;go_enter func146, ntmps146;go_wp2;go_ret2;exact ⟨p9 (by omega) (by omega), rfl⟩
theorem lD (a d : Nat) (w : World) (ha : a <= 8) (h2 : d <= 8) (h : 8 < a + d) : Calls prog 147 #[.int .i64 a, .int .i64 d] w fun e w' => e = .returned (.bool true) /\ w = w' := by
 go_enter func147, ntmps147;go_wp2;go_ret;exact ⟨a9 (by simp; omega), rfl⟩
theorem nF (a d : Nat) (w : World) (ha : a <= 8) (h2 : d <= 8) (h : ¬ 8 < a + d) : Calls prog 147 #[.int .i64 a, .int .i64 d] w fun e w' => e = .returned (.bool false) /\ w = w' := by
 go_enter func147, ntmps147;go_wp2;go_ret;exact ⟨a9 (by simp; omega), rfl⟩
theorem fits_int (n c : Int) (w : World) (hn : 0 <= n) (h0 : 0 <= c) (h64 : c <= 64) : Calls prog 143 #[.int .u64 n, .int .i64 c] w fun e w' => e = .returned (.bool (rn n.toNat c.toNat)) /\ w = w' := by
 obtain ⟨m, rfl⟩ := Int.eq_ofNat_of_zero_le hn;rw [Int.toNat_natCast];exact qh m c w h0 h64
def narrow (d : Nat) (l : List UInt8) : Bool := l.all fun u => decide (u.toNat < 2 ^ d)
theorem dQ {d : Nat} {l : List UInt8} (h : narrow d l = true) : ∀ u ∈ l, u.toNat < 2 ^ d := by
 intro u hu;have := List.all_eq_true.1 h u hu
 simpa using this
theorem nh {d : Nat} {l : List UInt8} (h : ∀ j, j < l.length -> bt l j < 2 ^ d) : narrow d l = true := by
 apply List.all_eq_true.2;intro u hu;obtain ⟨j, hj, rfl⟩ := List.getElem_of_mem hu;have := h j hj;rw [cP hj] at this;rw [decide_eq_true_eq];have e : ((2 : Int) ^ d) = ((2 ^ d : Nat) : Int) := by push_cast; rfl
 rw [e] at this;omega
theorem xY {l : List UInt8} {d j : Nat} (hall : narrow d l = true) (hj : j < l.length) : rn (bt l j).toNat (d : Int).toNat = true := by
 unfold rn;rw [Int.toNat_natCast, decide_eq_true_eq, cP hj, Int.toNat_natCast];exact dQ hall _ (List.getElem_mem hj)
theorem vn {X ab : Nat} (hX : X < 256) (hab : ab <= 7) : IntKind.u16.wrap ((X : Int) * 2 ^ ab) = ((X * 2 ^ ab : Nat) : Int) := by
 have h2 : 2 ^ ab <= 2 ^ 7 := Nat.pow_le_pow_right (by omega) hab;have h3 : X * 2 ^ ab <= 255 * 2 ^ 7 := Nat.mul_le_mul (by omega) h2;have e : ((X : Int) * 2 ^ ab) = ((X * 2 ^ ab : Nat) : Int) := by push_cast; rfl
 rw [e];exact IntWalk.u16_in _ ⟨by omega, by omega⟩
theorem tn {x1 X ab : Nat} (h1 : x1 < 256) (hX : X < 256) (hab : ab <= 7) : bits .or .u8 (x1 : Int) (IntKind.u16.wrap ((X : Int) * 2 ^ ab) % 256) = ((x1 ||| (X * 2 ^ ab % 2 ^ 8) : Nat) : Int) := by
 rw [vn hX hab];exact u8_or_nat x1 (X * 2 ^ ab % 256) h1 (Nat.mod_lt _ (by decide))
theorem zp {x2 X ab : Nat} (h1 : x2 < 256) (hX : X < 256) (hab : ab <= 7) : bits .or .u8 (x2 : Int) (IntKind.u16.wrap ((X : Int) * 2 ^ ab) / 256 % 256) = ((x2 ||| (X * 2 ^ ab / 2 ^ 8) : Nat) : Int) := by
 rw [vn hX hab];have h2 : 2 ^ ab <= 2 ^ 7 := Nat.pow_le_pow_right (by omega) hab;have h3 : X * 2 ^ ab <= 255 * 2 ^ 7 := Nat.mul_le_mul (by omega) h2;have e : (((X * 2 ^ ab : Nat) : Int) / 256 % 256) = ((X * 2 ^ ab / 256 : Nat) : Int) := by omega
 rw [e];exact u8_or_nat x2 (X * 2 ^ ab / 256) h1 (by omega)
theorem xW {w : World} {g t q ab i d V X : Nat} {e : TypeId} (hrow : w.rowIs g e t (fun k => .int .u8 (dg V k : Nat))) (hV : V < 2 ^ (i * d)) (hX : X < 2 ^ d) (hd : d <= 8) (hq : i * d / 8 = q) (hab : i * d % 8 = ab) :
  ((w.setCell ⟨g, q, none⟩ (.int .u8 (bits .or .u8 (dg V q : Nat) (IntKind.u16.wrap ((X : Int) * 2 ^ ab) % 256)))).setCell ⟨g, q + 1, none⟩ (.int .u8 (bits .or .u8 (dg V (q + 1) : Nat) (IntKind.u16.wrap ((X : Int) * 2 ^ ab) / 256 % 256)))).rowIs g e t
   (fun k => .int .u8 (dg (V + 2 ^ (i * d) * X) k : Nat)) := by
 have hX8 : X < 256 := aq hX (Nat.pow_le_pow_right (by omega) hd);have h7 : ab <= 7 := by omega
 refine ((hrow.set q _).set (q + 1) _).congr fun k hk => ?_
 rw [tn (i1 _ _) hX8 h7, zp (i1 _ _) hX8 h7, yh hV hX hd hq hab]
 show (if k = q + 1 then _ else if k = q then _ else _) = _
 split
 ·rfl
 ·split <;> rfl
theorem rJ {w : World} {g t q ab i d V X : Nat} {e : TypeId} (hrow : w.rowIs g e t (fun k => .int .u8 (dg V k : Nat))) (hV : V < 2 ^ (i * d)) (hX : X < 2 ^ d) (hd : d <= 8) (hs : ab + d <= 8) (hq : i * d / 8 = q) (hab : i * d % 8 = ab) :
  (w.setCell ⟨g, q, none⟩ (.int .u8 (bits .or .u8 (dg V q : Nat) (IntKind.u16.wrap ((X : Int) * 2 ^ ab) % 256)))).rowIs g e t
   (fun k => .int .u8 (dg (V + 2 ^ (i * d) * X) k : Nat)) := by
 have hX8 : X < 256 := aq hX (Nat.pow_le_pow_right (by omega) hd);refine (hrow.set q _).congr fun k hk => ?_
 rw [tn (i1 _ _) hX8 (by omega), rC hV hX hs hq hab]
 show (if k = q then _ else _) = _
 split <;> rfl
theorem yH (A : Option Addr) (n c N d B : Nat) (l : List UInt8) (w : World) (HB : Hid (B = w.heap.size)) (hl : Rd w N A n l) (hN : N <= B) (hn : n <= 140737488351232) (h1 : 1 <= d) (h2 : d <= 8) (hall : narrow d l = true) :
  Calls prog 130 #[.slice A n c, .int .i64 d] w fun e w' => ∃ v, e = .returned (.tuple #[v, .int .i64 0]) /\ Own w' B v (aN 8 (bytesOf n d) (val d l)) /\ Below B w w' := by
 have HA := ae hall;clear hall;have hBle : B <= w.heap.size := Nat.le_of_eq HB;have htot : bytesOf n d <= 140737488355328 := by unfold bytesOf; have := Nat.mul_le_mul_left n h2; omega
 have hmk := run_make_row' (P := prog) 116 5 (.int .u8 0) 1 underlying116 kf rfl .i64 .i64 (bytesOf n d) (by omega) (by omega);go_enter func130, ntmps130;go_wp2_with (first | (go_at_call 144; refine (jI _ _ (by omega) (by omega)).mono ?_; rintro e w' ⟨rfl, rfl⟩))
 go_loop [18] (fun i => ∃ j : Nat, j <= n /\ i = .int .i64 j) (fun i => n - (intOf i).toNat)
 case atStart => exact ⟨0, Nat.zero_le _, rfl⟩
 case round =>
  obtain ⟨j, hj, rfl⟩ := hrel;by_cases hlt : j < n
  ·obtain ⟨bA, oA, rfl, hA, cA⟩ := hl.2 j hlt;have hlo := iY l j;have hhi := kG l j;go_wp2_with fail;refine (fits_int _ _ _ hlo (by omega) (by omega)).mono ?_;rintro e w' ⟨rfl, rfl⟩;rw [xY HA.out (by have := hl.1; omega)];go_wp2
   go_round
   case rel => exact ⟨j + 1, by omega, by go_num⟩
   case measure => simp [intOf]; omega
  ·have e : j = n := by omega
   subst e;go_wp2_with fail;refine (nD _ _ _ h1 h2 (by omega)).mono ?_;rintro e w' ⟨rfl, rfl⟩;go_wp2;clear hmk;have hr0 := World.rowIs_made w (Value.int .u8 0) (bytesOf j d) 5;have hbl0 : Below B w (w.alloc (.cells (madeCells #[Value.int .u8 0] (bytesOf j d)) 5)) := aj.alloc hBle _;generalize w.heap.size = g at hr0 hBle ⊢
   go_loopw [35] (fun i wr => ∃ i' : Nat, i' <= j /\ i = .int .i64 i' /\ wr.rowIs g 5 (bytesOf j d) (fun k => .int .u8 (dg (val d (l.take i')) k : Nat)) /\ Below B w wr) (fun i _ => j - (intOf i).toNat)
   case atStart => exact ⟨0, Nat.zero_le _, rfl, hr0.congr fun k _ => by simp [val, dg], hbl0⟩
   case round =>
    clear hbl0 hr0;obtain ⟨i, hi, rfl, hrow, hbl⟩ := hrel;by_cases hlt : i < j
    ·go_wp2_with fail;refine (nB _ _ _ h1 h2 (by omega)).mono ?_;rintro e w' ⟨rfl, rfl⟩;have hab : i * d % 8 <= 7 := by omega
     have hq1 : i * d / 8 < bytesOf j d := by
      unfold bytesOf;have h3 : (i + 1) * d <= j * d := Nat.mul_le_mul_right d hlt;rw [Nat.succ_mul] at h3;omega
     have hq2 : 8 < i * d % 8 + d -> i * d / 8 + 1 < bytesOf j d := by
      unfold bytesOf;have h3 : (i + 1) * d <= j * d := Nat.mul_le_mul_right d hlt;rw [Nat.succ_mul] at h3;omega
     generalize hq : i * d / 8 = q at *;generalize ha : i * d % 8 = ab at *;have HQ := ae hq;have HAB := ae ha;clear hq ha;obtain ⟨bA, oA, rfl, hA, cA⟩ := (hl.below (hbl.mono hN)).2 i hlt;have hlo := iY l i;have hhi := kG l i;have hc1 := hrow.cell hq1;have hf1 := hrow.frozen q;have hf2 := hrow.frozen (q + 1);generalize hV : val d (l.take i) = V at *;have HV := ae hV;clear hV;have hd1 := i1 V q;generalize hx : dg V q = x1 at *;have HX := ae hx;clear hx;by_cases hsp : 8 < ab + d
     ·have hq3 := hq2 hsp;have hc2 := hrow.cell hq3;have hd2 := i1 V (q + 1);generalize hx : dg V (q + 1) = x2 at *;have HX2 := ae hx;clear hx hq2;go_wp2_with fail;refine (lD _ _ _ (by omega) h2 hsp).mono ?_;rintro e w' ⟨rfl, rfl⟩;go_wp2;go_roundw
      case rel =>
       refine ⟨i + 1, by omega, by go_num, ?_, (hbl.setCell hBle _).setCell hBle _⟩;have hl' : i < l.length := by have := hl.1; omega
       rw [fX hl', HV.out, <- HX.out, <- HX2.out, cP hl'];exact xW hrow (by rw [<- HV.out]; exact kF (dQ HA.out) (by omega)) (dQ HA.out _ (List.getElem_mem hl')) h2 HQ.out HAB.out
      case measure => simp [intOf]; omega
     ·clear hq2;go_wp2_with fail;refine (nF _ _ _ (by omega) h2 hsp).mono ?_;rintro e w' ⟨rfl, rfl⟩;go_wp2;go_roundw
      case rel =>
       refine ⟨i + 1, by omega, by go_num, ?_, hbl.setCell hBle _⟩;have hl' : i < l.length := by have := hl.1; omega
       rw [fX hl', HV.out, <- HX.out, cP hl'];exact rJ hrow (by rw [<- HV.out]; exact kF (dQ HA) (by omega)) (dQ HA _ (List.getElem_mem hl')) h2 (by omega) HQ HAB
      case measure => simp [intOf]; omega
    ·have e : i = j := by omega
     subst e;go_wp2;go_ret2;refine ⟨_, rfl, Own.qQ (aA _ _ _) hBle hrow ai (by unfold maxLen; omega) ?_ ?_, hbl⟩
     ·intro k hk;have hk' : k < (aN 8 (bytesOf i d) (val d l)).length := by rw [aA]; exact hk
      rw [cP hk', fv (by omega) hk', List.take_of_length_le (by have := hl.1; omega)]
      rfl
     ·intro k;have := i1 (val d (l.take i)) k;omega
end Go.Proofs.YtehefifamaofkaaGreatDoor
