import Derived.Test.YtbbcdhkinbmdnaaGreatDoorLoaj
import Derived.Test.YtbbcdhkinbmdnaaGreatDoorLoai
import Derived.Test.YtbbcdhkinbmdnaaGreatDoorLoam
import Derived.Test.YtbbcdhkinbmdnaaGreatDoorLoah
import Derived.Deep.DeepCutAuto
import Derived.Test.YtbbcdhkinbmdnaaGreatDoorLoZ
namespace Go.Proofs.YtbbcdhkinbmdnaaGreatDoor
open Go.RowKit
set_option linter.unusedVariables false
set_option linter.unusedSimpArgs false
set_option maxRecDepth 100000
section
variable {α : Type} {E : Elt α} {w : World} {b n c t u : Nat}
theorem run_cutEH (h : t ≤ c) : (Instr.sliceAt E.s (.slice (some ⟨b, 0, none⟩) n c) none (some (.int .i64 (t : Int))) none).run Tryz.prog w = .ok (.slice (some ⟨b, 0, none⟩) t c) w := by
 have hs := eP E w
 simp [Instr.sliceAt, Instr.slice, Instr.sliceBounds, Instr.sliceBound, asIntOf, run_underlying E.und, hs, add_mid]
 intro hh; omega
theorem run_cutET (h : t ≤ n) (hn : n ≤ c) : (Instr.sliceAt E.s (.slice (some ⟨b, 0, none⟩) n c) (some (.int .i64 (t : Int))) none none).run Tryz.prog w = .ok (.slice (some ⟨b, if c = t then 0 else t * E.n, none⟩) (n - t) (c - t)) w := by
 have hs := eP E w
 have e1 : (0 ≤ (t : Int) ∧ (t : Int) ≤ (n : Int)) := by omega
 simp [Instr.sliceAt, Instr.slice, Instr.sliceBounds, Instr.sliceBound, asIntOf, run_underlying E.und, hs, add_mid, e1, h]
 by_cases hct : c = t
 ·rw [if_pos hct, if_pos hct]
 ·rw [if_neg hct, if_neg hct]
theorem run_cutEM (h1 : u < t) (h : t ≤ c) : (Instr.sliceAt E.s (.slice (some ⟨b, 0, none⟩) n c) (some (.int .i64 (u : Int))) (some (.int .i64 (t : Int))) none).run Tryz.prog w = .ok (.slice (some ⟨b, u * E.n, none⟩) (t - u) (c - u)) w := by
 have hs := eP E w
 have e1 : (0 ≤ (t : Int) ∧ (t : Int) ≤ (c : Int)) := by omega
 have e2 : (0 ≤ (u : Int) ∧ (u : Int) ≤ (t : Int)) := by omega
 have e3 : c ≠ u := by omega
 simp [Instr.sliceAt, Instr.slice, Instr.sliceBounds, Instr.sliceBound, asIntOf, run_underlying E.und, hs, add_mid, e1, e2, e3, h, Nat.le_of_lt h1]
theorem run_cutE3 (h1 : t ≤ n) (h : n ≤ c) : (Instr.sliceAt E.s (.slice (some ⟨b, 0, none⟩) n c) (some (.int .i64 0)) (some (.int .i64 (t : Int))) (some (.int .i64 (n : Int)))).run Tryz.prog w = .ok (.slice (some ⟨b, 0, none⟩) t n) w := by
 have hs := eP E w
 have e1 : (0 ≤ (n : Int) ∧ (n : Int) ≤ (c : Int)) := by omega
 have e2 : (0 ≤ (t : Int) ∧ (t : Int) ≤ (n : Int)) := by omega
 simp [Instr.sliceAt, Instr.slice, Instr.sliceBounds, Instr.sliceBound, asIntOf, run_underlying E.und, hs, add_mid, e1, e2, h, h1]
end
section
variable {ρ : Operand → Value} {o : Oper} {x y z u : Operand} {w : World} {p q a b c : Value} {t : TypeId}
theorem exec_sl1 (ho : o.op = .slice t x none (some y) none) (hx : ρ x = p) (hy : ρ y = a) (h : (Instr.sliceAt t p none (some a) none).run Tryz.prog w = .ok q w) : (execOp ρ o).run Tryz.prog w = .ok (.value q) w := by
 unfold execOp
 simp only [ho, hx, hy, Option.map_some, Option.map_none, Sem.run_bind, h, Result.andThen_ok, Sem.run_pure]
theorem exec_sl2 (ho : o.op = .slice t x (some y) none none) (hx : ρ x = p) (hy : ρ y = a) (h : (Instr.sliceAt t p (some a) none none).run Tryz.prog w = .ok q w) : (execOp ρ o).run Tryz.prog w = .ok (.value q) w := by
 unfold execOp
 simp only [ho, hx, hy, Option.map_some, Option.map_none, Sem.run_bind, h, Result.andThen_ok, Sem.run_pure]
theorem exec_sl3 (ho : o.op = .slice t x (some y) (some z) none) (hx : ρ x = p) (hy : ρ y = a) (hz : ρ z = b) (h : (Instr.sliceAt t p (some a) (some b) none).run Tryz.prog w = .ok q w) : (execOp ρ o).run Tryz.prog w = .ok (.value q) w := by
 unfold execOp
 simp only [ho, hx, hy, hz, Option.map_some, Option.map_none, Sem.run_bind, h, Result.andThen_ok, Sem.run_pure]
theorem exec_sl4 (ho : o.op = .slice t x (some y) (some z) (some u)) (hx : ρ x = p) (hy : ρ y = a) (hz : ρ z = b) (hu : ρ u = c) (h : (Instr.sliceAt t p (some a) (some b) (some c)).run Tryz.prog w = .ok q w) : (execOp ρ o).run Tryz.prog w = .ok (.value q) w := by
 unfold execOp
 simp only [ho, hx, hy, hz, hu, Option.map_some, Option.map_none, Sem.run_bind, h, Result.andThen_ok, Sem.run_pure]
theorem exec_clear {ac : Act} {w' : World} {v : Value} (ho : o.op = .call { callee := .builtin .clear, args := #[x], argTypes := #[t] }) (hx : ac.eval x = v) (hrun : (Builtin.clear_ #[t] o.type #[v]).run Tryz.prog w = .ok (.tuple #[]) w') : (execOp ac.eval o).run Tryz.prog w = .ok (.value (.tuple #[])) w' := by
 simp [execOp, ho, resolve, invoke, builtin, hx, hrun, Result.andThen]
end
def zerE {α : Type} (E : Elt α) (k : Nat) : List Value := (Builtin.zeroCells E.z.cells k).toList
theorem zerE_len {α : Type} (E : Elt α) (k : Nat) : (zerE E k).length = k * E.n := by simp [zerE, Builtin.zeroCells, E.zc]
theorem zerE_one {α : Type} (E : Elt α) (k : Nat) (h : ∀ u ∈ E.z.cells, u.oneCell' = true) : ∀ u ∈ zerE E k, u.oneCell' = true := by
 intro u hu
 have hp := E.pos
 have hz := E.zc
 simp only [zerE, Builtin.zeroCells, Array.toList_map, List.mem_map, Array.toList_range] at hu
 obtain ⟨i, _, rfl⟩ := hu
 have hlt : i % E.z.cells.size < E.z.cells.size := Nat.mod_lt _ (by omega)
 rw [getElem!_pos E.z.cells (i % E.z.cells.size) hlt]
 exact h _ (Array.getElem_mem hlt)
theorem run_clearE {α : Type} (E : Elt α) (h1 : ∀ u ∈ E.z.cells, u.oneCell' = true) (w : World) (ty b off k c : Nat) (hk : 0 < k) (hc : ∀ j, j < k * E.n → (w.cell? ⟨b, off + j, none⟩).isSome = true) (hf : ∀ j, j < k * E.n → w.frozen? ⟨b, off + j, none⟩ = false) :
  (Builtin.clear_ #[E.s] ty #[.slice (some ⟨b, off, none⟩) k c]).run Tryz.prog w = .ok (.tuple #[]) (w.setCells b off (zerE E k)) := by
 have hst := run_storeCells_cells (P := Tryz.prog) b off (zerE E k) 0 w (by simpa [zerE_len] using hc) (by simpa [zerE_len] using hf) (zerE_one E k h1)
 simp only [Nat.add_zero] at hst
 obtain ⟨m, rfl⟩ : ∃ m, k = m + 1 := ⟨k - 1, by omega⟩
 have hz := run_zeroE E w
 unfold zerE at hst ⊢
 simp [Builtin.clear_, run_underlying E.und, hz, hst]
theorem run_cutE3n {w : World} : (Instr.sliceAt 78 (.slice none 0 0) (some (.int .i64 0)) (some (.int .i64 0)) (some (.int .i64 0))).run Tryz.prog w = .ok (.slice none 0 0) w := by
 have hs := eP aY w
 have hu : Tryz.prog.underlying 78 = some (.slice 35) := Tryz.underlying78
 have hs' : (sizeOf 35).run Tryz.prog w = .ok 4 w := hs
 simp [Instr.sliceAt, Instr.slice, Instr.sliceBounds, Instr.sliceBound, asIntOf, run_underlying hu, hs']
section
variable {w : World} {B : Nat} {v : Value} {l : List Nte}
theorem pdel_0n (hm : aH aY w B (.slice none 0 0) []) : Calls Tryz.prog 97 #[.slice none 0 0, .int .i64 0, .int .i64 0] w fun e w' => e = .returned (.slice none 0 0) ∧ w = w' := by
 clear hm
 go_enter Tryz.func97, Tryz.ntmps97
 go_upto_region 1 with fail
 refine ag ?_
 iterate 4 (refine ai rfl (aj rfl (ev rfl)) ?_;simp only [aa])
 refine ai rfl (cD Tryz.underlying78 rfl (ev rfl)) ?_;simp only [aa]
 refine ai rfl (exec_sl4 rfl (ev rfl) (ev rfl) (ev rfl) (ev rfl) run_cutE3n) ?_;simp only [aa]
 refine ah ?_
 go_wp2_with fail
 go_ret
 exact ⟨rfl, rfl⟩
theorem pdel_0s {g n c : Nat} (h : n ≤ c) : Calls Tryz.prog 97 #[.slice (some ⟨g, 0, none⟩) n c, .int .i64 0, .int .i64 0] w fun e w' => e = .returned (.slice (some ⟨g, 0, none⟩) n c) ∧ w = w' := by
 go_enter Tryz.func97, Tryz.ntmps97
 go_upto_region 1 with fail
 refine ag ?_
 iterate 4 (refine ai rfl (aj rfl (ev rfl)) ?_;simp only [aa])
 refine ai rfl (cD Tryz.underlying78 rfl (ev rfl)) ?_;simp only [aa]
 refine ai rfl (exec_sl4 rfl (ev rfl) (ev rfl) (ev rfl) (ev rfl) (run_cutE3 (E := aY) (t := 0) (by omega) h)) ?_;simp only [aa]
 refine ah ?_
 go_wp2_with fail
 go_ret
 exact ⟨rfl, rfl⟩
theorem del_row {g n c k : Nat} {cur : Array Value} (hl : l.length = n) (hk : k ≤ n) (hB : B ≤ g) (hg : w.heap[g]? = some (.cells cur aY.t (0, 0))) (hnc : n ≤ c) (hcm : c ≤ maxLen) (hcs : cur.size = c * aY.n) (ht : cur.toList.take (n * aY.n) = bC aY l) :
  let w2 := w.setRow g (bC aY (l.drop k) ++ cur.toList.drop ((n - k) * aY.n)).toArray
  (∀ j, j < k * aY.n → (w2.cell? ⟨g, (n - k) * aY.n + j, none⟩).isSome = true) ∧ (∀ j, j < k * aY.n → w2.frozen? ⟨g, (n - k) * aY.n + j, none⟩ = false) ∧
   aH aY (w2.setCells g ((n - k) * aY.n) (zerE aY k)) B (.slice (some ⟨g, 0, none⟩) (n - k) c) (l.drop k) ∧ Only (fun b => b = g) w (w2.setCells g ((n - k) * aY.n) (zerE aY k)) := by
 intro w2
 have hfl : (bC aY (l.drop k)).length = (n - k) * aY.n := by rw [bM, List.length_drop, hl]
 have hcl : cur.toList.length = c * aY.n := by simpa using hcs
 have hp := aY.pos
 have hmul : (n - k) * aY.n + k * aY.n = n * aY.n := by rw [← Nat.add_mul]; congr 1; omega
 have hle : n * aY.n ≤ c * aY.n := Nat.mul_le_mul_right _ hnc
 have h2 : w2.heap[g]? = some (.cells (bC aY (l.drop k) ++ cur.toList.drop ((n - k) * aY.n)).toArray aY.t (0, 0)) := setRow_heap w g cur _ _ _ hg
 have h3 : (bC aY (l.drop k) ++ cur.toList.drop ((n - k) * aY.n)).length = c * aY.n := by rw [List.length_append, hfl, List.length_drop, hcl]; omega
 have hcell : ∀ j, j < c * aY.n → (w2.cell? ⟨g, j, none⟩).isSome = true := fun j hj => by
  rw [cell_of_row w2 g j _ _ _ h2, List.getElem?_toArray, List.getElem?_eq_getElem (by rw [h3]; exact hj)]
  rfl
 refine ⟨fun j hj => hcell _ (by omega), fun j hj => frozen_of_row w2 g _ _ _ h2, ?_, ?_⟩
 ·have hsp : bC aY (l.drop k) ++ cur.toList.drop ((n - k) * aY.n) = bC aY (l.drop k) ++ (cur.toList.drop ((n - k) * aY.n)).take (k * aY.n) ++ (cur.toList.drop ((n - k) * aY.n)).drop (k * aY.n) := by
   rw [List.append_assoc, List.take_append_drop]
  rw [hsp] at h2
  have hmid : ((cur.toList.drop ((n - k) * aY.n)).take (k * aY.n)).length = (zerE aY k).length := by rw [zerE_len, List.length_take, List.length_drop, hcl]; omega
  have h4 := heap_put g aY.t _ (zerE aY k) _ (bC aY (l.drop k)) w2 hmid h2
  rw [hfl, List.append_assoc] at h4
  refine aH.of_parts (by rw [List.length_drop, hl]) hB h4 (by omega) hcm ?_
  rw [List.length_append, List.length_append, hfl, zerE_len, List.length_drop, List.length_drop, hcl]
  omega
 ·obtain ⟨e1, e2, e3, e4⟩ := ft g (zerE aY k) ((n - k) * aY.n) w2
  refine ⟨e2, e3, e4, by rw [e1]; exact Nat.le_of_eq (size_setRow w g _).symm, fun b hb hne => ?_⟩
  rw [cY g (zerE aY k) _ w2 b hne]
  exact setRow_other w g b _ hne
theorem nteZ_one : ∀ u ∈ aY.z.cells, u.oneCell' = true := by
 intro u hu
 have : u ∈ aQ aM := by
  have e : aY.z.cells = (aQ aM).toArray := rfl
  rw [e] at hu
  simpa using hu
 exact celNt_one aM u this
set_option maxHeartbeats 1600000 in
theorem pdel_s {g n c k : Nat} (hm : aH aY w B (.slice (some ⟨g, 0, none⟩) n c) l) (hk : k ≤ n) (h0 : 0 < k) (h8 : n ≤ 1000) : Calls Tryz.prog 97 #[.slice (some ⟨g, 0, none⟩) n c, .int .i64 0, .int .i64 (k : Int)] w fun e w' => ∃ v', e = .returned v' ∧ aH aY w' B v' (l.drop k) ∧ (∀ b, v'.ownBlock = some b → b = g) ∧ Only (fun b => b = g) w w' := by
 obtain ⟨cur, hl, hB, hg, hnc, hcm, hcs, ht⟩ : ∃ cur : Array Value, l.length = n ∧ B ≤ g ∧ w.heap[g]? = some (.cells cur aY.t (0, 0)) ∧ n ≤ c ∧ c ≤ maxLen ∧ cur.size = c * aY.n ∧ cur.toList.take (n * aY.n) = bC aY l := by
  rcases hm.2 with ⟨hv, _⟩ | ⟨g', cap, cur, hv, hbg, hg, h1, h2, h3, ht⟩
  ·cases hv
  ·injection hv with e1 e2 e3
   injection e1 with e1
   injection e1 with e1
   subst e1 e2 e3
   exact ⟨cur, rfl, hbg, hg, h1, h2, h3, ht⟩
 have hrd := hm.rd
 obtain ⟨i0, hi, hz0, hz1, hz2⟩ := info_parts aY.info
 have hcl : cur.toList.length = c * aY.n := by simpa using hcs
 have hmul : (n - k) * aY.n + k * aY.n = n * aY.n := by rw [← Nat.add_mul]; congr 1; omega
 have hle : n * aY.n ≤ c * aY.n := Nat.mul_le_mul_right _ hnc
 have hfl : (bC aY (l.drop k)).length = (n - k) * aY.n := by rw [bM, List.length_drop, hl]
 have hsrc : ∀ j u, (bC aY (l.drop k))[j]? = some u → w.drew.cell? ((⟨g, if c = k then 0 else k * aY.n, none⟩ : Addr).add j) = some u := fun j u hj => by
  have hjl : j < (n - k) * aY.n := by have := (List.getElem?_eq_some_iff.1 hj).1; rwa [hfl] at this
  have hck : c ≠ k := by
   rintro rfl
   have : n - c = 0 := by omega
   rw [this] at hjl
   omega
  rw [if_neg hck, add_mid]
  show w.cell? _ = _
  have hd : bC aY l = bC aY (l.take k) ++ bC aY (l.drop k) := by rw [← fI, List.take_append_drop]
  have hlt : (bC aY (l.take k)).length = k * aY.n := by rw [bM, List.length_take, hl, Nat.min_eq_left hk]
  rw [cell_of_row w g _ cur aY.t (0, 0) hg, ← Array.getElem?_toList]
  have hx : (bC aY l)[k * aY.n + j]? = some u := by rw [hd, List.getElem?_append_right (by omega), hlt, Nat.add_sub_cancel_left]; exact hj
  rw [← ht, List.getElem?_take_of_lt (by omega)] at hx
  exact hx
 have hap := run_append_room (P := Tryz.prog) (w := w.drew) aY.s 78 aY.t i0 aY.und hi g 0 c cur hg ⟨g, if c = k then 0 else k * aY.n, none⟩ (n - k) (c - k) (bC aY (l.drop k)) (by rw [hfl, hz1]) hsrc (flatE_one aY _) (by omega) (by rw [hfl]; omega)
 rw [Nat.zero_add, Nat.zero_mul, Nat.zero_add, List.take_zero, List.nil_append, hfl] at hap
 obtain ⟨of, hof⟩ : ∃ of, (if c = k then 0 else k * aY.n) = of := ⟨_, rfl⟩
 have HCUT : Hid (∀ w : World, (Instr.sliceAt aY.s (.slice (some ⟨g, 0, none⟩) n c) (some (.int .i64 (k : Int))) none none).run Tryz.prog w = .ok (.slice (some ⟨g, of, none⟩) (n - k) (c - k)) w) := af (fun w => by rw [← hof]; exact run_cutET hk hnc)
 rw [hof] at hap
 obtain ⟨d1, d2, d3, d4⟩ := del_row (w := w.drew) hl hk hB hg hnc hcm hcs ht
 have HAP := af hap
 have HCL := af (fun ty => run_clearE aY nteZ_one _ ty g ((n - k) * aY.n) k (c - (n - k)) h0 d1 d2)
 have HM := af d3
 have HO := af ((Only.of_below (fun b => b = g) (bd (Below.refl w.heap.size w))).trans d4 fun _ e => .inl e)
 have HNE : Hid (((0 : Int) == (k : Int)) = false) := af (by simp; omega)
 have HCT := af hnc
 have HSUB : Hid (n - (n - k) = k) := af (by omega)
 clear hap d1 d2 d3 d4 hm hrd hi hz0 hz1 hz2 hcl hmul hle hfl hsrc hg hcm hcs ht hl hB hnc hof
 go_enter Tryz.func97, Tryz.ntmps97
 go_upto_region 1 with fail
 refine ag ?_
 iterate 4 (refine ai rfl (aj rfl (ev rfl)) ?_;simp only [aa])
 refine ai rfl (cD Tryz.underlying78 rfl (ev rfl)) ?_;simp only [aa]
 refine ai rfl (exec_sl4 rfl (ev rfl) (ev rfl) (ev rfl) (ev rfl) (run_cutE3 (E := aY) (t := k) hk HCT.out)) ?_;simp only [aa]
 refine ah ?_
 go_upto_region 2 with fail
 refine ag ?_
 refine ai rfl (aj rfl (ev rfl)) ?_;simp only [aa]
 refine ai rfl (aj rfl (ev rfl)) ?_;simp only [aa]
 refine ai (v := .bool false) rfl (aP false rfl (ev rfl) (ev rfl) HNE.out) ?_;simp only [aa]
 refine ah ?_
 go_upto_region 5 with fail
 refine bH (fun _ => True) 7 (by kernel_rfl) ?_
 change cF _ _ _ _ _ _ 8 _ _ w.drew
 refine gu 0 rfl (fun w' hw => aj rfl (ev rfl)) trivial ?_;simp only [aa]
 refine gu 1 rfl (fun w' hw => aj rfl (ev rfl)) trivial ?_;simp only [aa]
 refine gu 2 rfl (fun w' hw => exec_sl1 rfl (ev rfl) (ev rfl) (run_cutEH (E := aY) (t := 0) (by omega))) trivial ?_;simp only [aa]
 refine gu 3 rfl (fun w' hw => aj rfl (ev rfl)) trivial ?_;simp only [aa]
 refine gu 4 rfl (fun w' hw => aj rfl (ev rfl)) trivial ?_;simp only [aa]
 refine gu 5 rfl (fun w' hw => exec_sl2 rfl (ev rfl) (ev rfl) (HCUT.out _)) trivial ?_;simp only [aa]
 refine bl 6 rfl (by kernel_rfl) rfl (fP (E := aY) rfl (ev rfl) (ev rfl) HAP.out) (fun _ => trivial) ?_;simp only [aa]
 refine bl 7 rfl (by kernel_rfl) rfl (aq rfl (ev rfl)) (fun e => absurd rfl e) ?_;simp only [aa]
 refine cm (by kernel_rfl) ?_ _
 go_upto_region 6 with fail
 refine ag ?_
 refine ai rfl (aj rfl (ev rfl)) ?_;simp only [aa]
 refine ai rfl (aj rfl (ev rfl)) ?_;simp only [aa]
 refine ai rfl (cD Tryz.underlying78 rfl (ev rfl)) ?_;simp only [aa]
 refine ai rfl (aj rfl (ev rfl)) ?_;simp only [aa]
 refine ai rfl (exec_sl3 rfl (ev rfl) (ev rfl) (ev rfl) (run_cutEM (E := aY) (by omega) HCT.out)) ?_;simp only [aa]
 refine ai rfl (exec_clear rfl (ev rfl) (by rw [HSUB.out]; exact HCL.out _)) ?_;simp only [aa]
 refine ah ?_
 go_wp2_with fail
 go_ret
 exact ⟨_, rfl, HM.out, fun b hb => by injection hb with hb; exact hb.symm, HO.out⟩
theorem pdel (k : Nat) (hm : aH aY w B v l) (hk : k ≤ l.length) (h8 : l.length ≤ 1000) : Calls Tryz.prog 97 #[v, .int .i64 0, .int .i64 (k : Int)] w fun e w' => ∃ v', e = .returned v' ∧ aH aY w' B v' (l.drop k) ∧ (∀ b, v'.ownBlock = some b → v.ownBlock = some b) ∧ Only (fun b => v.ownBlock = some b) w w' := by
 rcases Nat.eq_zero_or_pos k with rfl | h0
 ·have hpost : ∃ v', Ending.returned v = .returned v' ∧ aH aY w B v' (l.drop 0) ∧ (∀ b, v'.ownBlock = some b → v.ownBlock = some b) ∧ Only (fun b => v.ownBlock = some b) w w := ⟨v, rfl, hm, fun b e => e, Only.refl _ _⟩
  obtain ⟨A, c, rfl, h1, h2⟩ := hm.form
  rcases hm.2 with ⟨hv, hl0⟩ | ⟨g, cap, cur, hv, _⟩
  ·have hl : l = [] := List.eq_nil_of_length_eq_zero hl0
   subst hl
   injection hv with e1 e2 e3
   subst e1 e3
   exact (pdel_0n hm).mono fun e w' ⟨he, hw⟩ => by subst he hw; exact hpost
  ·injection hv with e1 e2 e3
   subst e1 e3
   exact (pdel_0s h1).mono fun e w' ⟨he, hw⟩ => by subst he hw; exact hpost
 ·obtain ⟨g, c, rfl, _, _, h1, h2⟩ := show ∃ g c, v = .slice (some ⟨g, 0, none⟩) l.length c ∧ B ≤ g ∧ g < w.heap.size ∧ l.length ≤ c ∧ c ≤ maxLen from by
   rcases hm.2 with ⟨rfl, hl0⟩ | ⟨g, cap, cur, rfl, hbg, hg, h1, h2, _⟩
   ·omega
   ·exact ⟨g, cap, rfl, hbg, aK hg, h1, h2⟩
  exact (pdel_s hm hk h0 h8).mono fun e w' ⟨v', he, k1, k2, k3⟩ => ⟨v', he, k1, fun b hb => by rw [k2 b hb]; rfl, ⟨k3.os, k3.tape, k3.output, k3.size, fun b hb hne => k3.block b hb fun e => hne (by rw [e]; rfl)⟩⟩
end
section
variable {P : Program} {ops : Array Oper} {Q : Exit → Act → World → Prop} {md : Region.Mode} {S T : World → Prop} {z : Nat}
def condW (S T : World → Prop) (z : Nat) (listed : Array Bool) (w : World) : Prop := (listed.getD z false = false → S w) ∧ (listed.getD z false = true → T w)
def eG (P : Program) (md : Region.Mode) (ops : Array Oper) (Q : Exit → Act → World → Prop) (S T : World → Prop) (z : Nat) : Nat → Array Bool → Act → World → Prop
 | 0, listed, a, w => Region.ready md ops listed = [] ∧ Q .normal a w
 | fuel + 1, listed, a, w =>
  (Region.ready md ops listed = [] → Q .normal a w) ∧
  ∀ i ∈ Region.ready md ops listed, wpOp P ops Q i (fun a' w' => condW S T z (listed.setIfInBounds i true) w' ∧ eG P md ops Q S T z fuel (listed.setIfInBounds i true) a' w') a w
theorem wpAny_of_W : ∀ (fuel : Nat) (listed : Array Bool) (a : Act) (w : World), eG P md ops Q S T z fuel listed a w → wpAny P md ops Q fuel listed a w
 | 0, _, _, _, h => h
 | fuel + 1, _, _, _, h => ⟨h.1, fun i hi => wpOp_mono (fun a' w' h' => wpAny_of_W fuel _ a' w' h'.2) (h.2 i hi)⟩
theorem gq {l : Array Bool} {i j : Nat} (h : j ≠ i) : (l.setIfInBounds i true).getD j false = l.getD j false := by
 by_cases hj : j < l.size
 ·simp [hj, Array.getElem_setIfInBounds, Ne.symm h]
 ·simp [Array.getElem?_eq_none (Nat.le_of_not_lt hj), hj]
theorem condW_set {listed : Array Bool} {w : World} {i : Nat} (h : condW S T z listed w) (hi : i ≠ z) : condW S T z (listed.setIfInBounds i true) w := by
 unfold condW at *
 rw [gq (Ne.symm hi)]
 exact h
theorem condW_un {listed : Array Bool} {w : World} {i : Nat} (h : condW S T z (listed.setIfInBounds i true) w) (hi : i ≠ z) : condW S T z listed w := by
 unfold condW at *
 rw [gq (Ne.symm hi)] at h
 exact h
theorem wpAnyW_first {i : Nat} {oi : Oper} {v : Value} (hi : ops[i]? = some oi) (hsel : ∀ (j : Nat) (o : Oper) cs b, ops[j]? = some o → o.op ≠ .select cs b)
  (hQ : ∀ c a w, Q (.panic c) (a.put oi.dst v) w → Q (.panic c) a w) (hiz : i ≠ z) {U : World → Prop} (hS : ∀ w, S w → U w) (hT : waitsB md ops z i = true ∨ ∀ w, T w → U w) :
  ∀ (fuel : Nat) (listed : Array Bool) (a : Act) (w : World),
   (∀ j oj, ops[j]? = some oj → j ≠ i → listed.getD j true = false → (∀ e ∈ oj.after, Region.binds md e = true → e.on ≠ i) → oi.apart ops oj = true) →
   i ∈ Region.ready md ops listed → (waitsB md ops z i = true → listed.getD z false = false) → YieldsIf P ops U oi v a → condW S T z listed w →
   eG P md ops Q S T z fuel (listed.setIfInBounds i true) (a.put oi.dst v) w → eG P md ops Q S T z (fuel + 1) listed a w := by
 intro fuel
 have key : ∀ (listed : Array Bool) (w : World), (waitsB md ops z i = true → listed.getD z false = false) → condW S T z listed w → U w := fun listed w hz hc => by
  by_cases hl : listed.getD z false = false
  ·exact hS w (hc.1 hl)
  ·rcases hT with h | h
   ·exact absurd (hz h) hl
   ·exact h w (hc.2 (by simpa using hl))
 induction fuel with
 | zero =>
  intro listed a w _ hr hz hy hc H
  refine ⟨fun h => (by rw [h] at hr; cases hr), fun j hj => ?_⟩
  by_cases hji : j = i
  ·subst hji; exact hy.wpOp hi (key listed w hz hc) ⟨condW_set hc hiz, H⟩
  ·have := ready_mono hj hji
   rw [H.1] at this
   cases this
 | succ fuel ih =>
  intro listed a w hfree hr hz hy hc H
  refine ⟨fun h => (by rw [h] at hr; cases hr), fun j hj => ?_⟩
  by_cases hji : j = i
  ·subst hji; exact hy.wpOp hi (key listed w hz hc) ⟨condW_set hc hiz, H⟩
  ·have h1 := H.2 j (ready_mono hj hji)
   obtain ⟨hjun, oj, hoj, hall⟩ := mem_ready.1 hj
   have hnot : ∀ e ∈ oj.after, Region.binds md e = true → e.on ≠ i := fun e he hb heq => by
    have h1 := hall e he hb
    rw [heq, un_of (mem_ready.1 hr).1] at h1
    cases h1
   have h2 := wpOp_putIf hoj (hfree j oj hoj hji hjun hnot) (fun cs b => hsel i oi cs b hi) (fun cs b => hsel j oj cs b hoj) hQ hy h1
   have hfree' : ∀ k ok, ops[k]? = some ok → k ≠ i → (listed.setIfInBounds j true).getD k true = false →
     (∀ e ∈ ok.after, Region.binds md e = true → e.on ≠ i) → oi.apart ops ok = true := fun k ok hk hki hun hno => by
    refine hfree k ok hk hki ?_ hno
    by_cases hjk : j = k
    ·subst hjk; exact hjun
    ·rw [getD_set_ne true hjk] at hun; exact hun
   have hz' : waitsB md ops z i = true → (listed.setIfInBounds j true).getD z false = false := fun hw => by
    have hjz : j ≠ z := fun e => by
     subst e
     exact waits_spec hw (un_of (mem_ready.1 hr).1) hj
    rw [gq (Ne.symm hjz)]
    exact hz hw
   refine wpOp_mono (fun a' w' h3 => ?_) h2
   have hc' : condW S T z (listed.setIfInBounds j true) w' := by
    have h4 := h3.2.1
    rw [Array.setIfInBounds_comm _ _ (Ne.symm hji)] at h4
    exact condW_un h4 hiz
   refine ⟨hc', ih (listed.setIfInBounds j true) a' w' hfree' (ready_mono hr (Ne.symm hji)) hz' h3.1 hc' ?_⟩
   rw [Array.setIfInBounds_comm _ _ hji]
   exact h3.2.2
theorem wpAnyW_all {rs : List Nat} {fuel : Nat} {listed : Array Bool} {a : Act} {w : World} (hr : Region.ready md ops listed = rs) (hne : rs ≠ [])
  (h : ∀ i ∈ rs, wpOp P ops Q i (fun a' w' => condW S T z (listed.setIfInBounds i true) w' ∧ eG P md ops Q S T z fuel (listed.setIfInBounds i true) a' w') a w) : eG P md ops Q S T z (fuel + 1) listed a w :=
 ⟨fun h0 => absurd (hr ▸ h0) hne, hr ▸ h⟩
theorem wpAnyW_done {listed : Array Bool} {a : Act} {w : World} (hr : Region.ready md ops listed = []) (h : Q .normal a w) :
  ∀ fuel, eG P md ops Q S T z fuel listed a w
 | 0 => ⟨hr, h⟩
 | _ + 1 => ⟨fun _ => h, by rw [hr]; simp⟩
theorem wp_region_two {id : Nat} {a : Act} {w : World} (S T : World → Prop) (z : Nat) (hm : P.follows .mixedOrders = true)
  (h : eG P .any ops Q S T z ops.size (Array.replicate ops.size false) a w.drew) : (Code.region id ops true).wp P Q a w :=
 wp_region_any hm (wpAny_of_W _ _ _ _ h)
end
section
variable {P : Program} {md : Region.Mode} {l : List Oper} {Q : Exit → Act → World → Prop} {S T : World → Prop} {z fuel : Nat} {listed : Array Bool} {a : Act} {w w' : World} {o : Oper} {v : Value}
theorem two_val (i : Nat) (hi : l[i]? = some o) (hs : Region.noSelect l.toArray = true) (hf : Region.free md l.toArray listed i = true) (hr : (Region.ready md l.toArray listed).contains i = true) (hiz : i ≠ z) (hwz : waitsB md l.toArray z i = true) (hlz : listed.getD z false = false)
  (hw : Region.wanted o (yielded l.toArray a.tmps) = true) (h : ∀ w, S w → (execOp a.eval o).run P w = .ok (.value v) w) (hQ : ∀ c a w, Q (.panic c) (a.put o.dst v) w → Q (.panic c) a w) (hS : S w)
  (hk : eG P md l.toArray Q S T z fuel (listed.setIfInBounds i true) (a.put o.dst v) w) : eG P md l.toArray Q S T z (fuel + 1) listed a w :=
 wpAnyW_first (by simpa using hi) (Region.noSelect_spec hs) hQ hiz (U := S) (fun _ h => h) (.inl hwz) fuel listed a w (Region.free_spec (by simpa using hi) hf) (by simpa using hr) (fun _ => hlz) (.inl ⟨hw, h⟩) ⟨fun _ => hS, fun e => absurd (e.symm.trans hlz) (by decide)⟩ hk
theorem gv (i : Nat) (hi : l[i]? = some o) (h : ∀ w, S w → (execOp a.eval o).run P w = .ok (.value v) w) (hS : S w) (hk : eG P md l.toArray Q S T z fuel (listed.setIfInBounds i true) (a.put o.dst v) w) (hs : Region.noSelect l.toArray = true := by kernel_rfl) (hf : Region.free md l.toArray listed i = true := by kernel_rfl) (hr : (Region.ready md l.toArray listed).contains i = true := by kernel_rfl) (hiz : i ≠ z := by decide) (hwz : waitsB md l.toArray z i = true := by kernel_rfl) (hlz : listed.getD z false = false := by kernel_rfl) (hw : Region.wanted o (yielded l.toArray a.tmps) = true := by exact rfl) (hQ : ∀ c a w, Q (.panic c) (a.put o.dst v) w → Q (.panic c) a w := by exact fun _ _ _ h => h) : eG P md l.toArray Q S T z (fuel + 1) listed a w := two_val i hi hs hf hr hiz hwz hlz hw h hQ hS hk
theorem two_any (i : Nat) (hi : l[i]? = some o) (hs : Region.noSelect l.toArray = true) (hf : Region.free md l.toArray listed i = true) (hr : (Region.ready md l.toArray listed).contains i = true) (hiz : i ≠ z) (hwz : waitsB md l.toArray z i = false)
  (hw : Region.wanted o (yielded l.toArray a.tmps) = true) (h : ∀ w, S w ∨ T w → (execOp a.eval o).run P w = .ok (.value v) w) (hQ : ∀ c a w, Q (.panic c) (a.put o.dst v) w → Q (.panic c) a w) (hc : condW S T z listed w)
  (hk : eG P md l.toArray Q S T z fuel (listed.setIfInBounds i true) (a.put o.dst v) w) : eG P md l.toArray Q S T z (fuel + 1) listed a w :=
 wpAnyW_first (by simpa using hi) (Region.noSelect_spec hs) hQ hiz (U := fun w => S w ∨ T w) (fun _ h => .inl h) (.inr fun _ h => .inr h) fuel listed a w (Region.free_spec (by simpa using hi) hf) (by simpa using hr) (fun e => by rw [hwz] at e; cases e) (.inl ⟨hw, h⟩) hc hk
theorem gw (i : Nat) (hi : l[i]? = some o) (h : ∀ w, S w ∨ T w → (execOp a.eval o).run P w = .ok (.value v) w) (hc : condW S T z listed w) (hk : eG P md l.toArray Q S T z fuel (listed.setIfInBounds i true) (a.put o.dst v) w) (hs : Region.noSelect l.toArray = true := by kernel_rfl) (hf : Region.free md l.toArray listed i = true := by kernel_rfl) (hr : (Region.ready md l.toArray listed).contains i = true := by kernel_rfl) (hiz : i ≠ z := by decide) (hwz : waitsB md l.toArray z i = false := by kernel_rfl) (hw : Region.wanted o (yielded l.toArray a.tmps) = true := by exact rfl) (hQ : ∀ c a w, Q (.panic c) (a.put o.dst v) w → Q (.panic c) a w := by exact fun _ _ _ h => h) : eG P md l.toArray Q S T z (fuel + 1) listed a w := two_any i hi hs hf hr hiz hwz hw h hQ hc hk
theorem two_nul (i : Nat) (hi : l[i]? = some o) (hr : Region.ready md l.toArray listed = [i]) (hw : Region.wanted o (yielded l.toArray a.tmps) = true) (h : (execOp a.eval o).run P w = .ok .skip w')
  (hc : condW S T z (listed.setIfInBounds i true) w') (hk : eG P md l.toArray Q S T z fuel (listed.setIfInBounds i true) (a.put o.dst undef) w') : eG P md l.toArray Q S T z (fuel + 1) listed a w :=
 wpAnyW_all hr (by simp) fun j hj => by
  obtain rfl : j = i := by simpa using hj
  unfold wpOp
  simp only [List.getElem?_toArray, hi, hw, if_true]
  refine .inl ?_
  unfold Oper.wp
  rw [h]
  exact ⟨hc, hk⟩
theorem condW_pre (hl : listed.getD z false = false) (h : S w) : condW S T z listed w := ⟨fun _ => h, fun e => absurd (e.symm.trans hl) (by decide)⟩
theorem condW_post (hl : listed.getD z false = true) (h : T w) : condW S T z listed w := ⟨fun e => absurd (e.symm.trans hl) (by decide), fun _ => h⟩
end
end Go.Proofs.YtbbcdhkinbmdnaaGreatDoor
