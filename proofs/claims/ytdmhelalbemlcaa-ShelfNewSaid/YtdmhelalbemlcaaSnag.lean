import Derived.Test.YtdmhelalbemlcaaSnaf
import Derived.Test.YtdmhelalbemlcaaSnad
import Derived.Test.YtdmhelalbemlcaaSnaa
import Derived.Test.YtdmhelalbemlcaaSnac
import Derived.Test.YtdmhelalbemlcaaSnab
import Derived.Test.YtdmhelalbemlcaaSnZ
namespace Go.Proofs.Ytdmhelalbemlcaa
open Go.RowKit
set_option linter.unusedVariables false
set_option linter.unusedSimpArgs false
set_option maxRecDepth 100000
theorem zeroPl : (Try.prog.info? 84).map (fun i => i.zero) = some (some (.agg (lnCs (lf0 0)).toArray)) := by kernel_rfl
theorem no16_size : (Try.prog.info? 81).map (·.size) = some 16 := by kernel_rfl
section
variable {ρ : Operand → Value} {o : Oper} {x y z : Operand} {w : World} {b off p j : Nat} {c : Blk}
theorem faPln0 : (Instr.fieldAt 84 (.pointer (some ⟨b, 0, none⟩)) 0).run Try.prog w = .ok (.pointer (some ⟨b, 0, none⟩)) w := by kernel_rfl
theorem faPln1 : (Instr.fieldAt 84 (.pointer (some ⟨b, 0, none⟩)) 1).run Try.prog w = .ok (.pointer (some ⟨b, 1, none⟩)) w := by kernel_rfl
theorem faPln2 : (Instr.fieldAt 84 (.pointer (some ⟨b, 0, none⟩)) 2).run Try.prog w = .ok (.pointer (some ⟨b, 17, none⟩)) w := by kernel_rfl
theorem faPln3 : (Instr.fieldAt 84 (.pointer (some ⟨b, 0, none⟩)) 3).run Try.prog w = .ok (.pointer (some ⟨b, 33, none⟩)) w := by kernel_rfl
theorem faPln4 : (Instr.fieldAt 84 (.pointer (some ⟨b, 0, none⟩)) 4).run Try.prog w = .ok (.pointer (some ⟨b, 1057, none⟩)) w := by kernel_rfl
theorem ixPb (hj : j < 16) : (Instr.indexAt 81 (.pointer (some ⟨b, off, none⟩)) (.int .i64 (j : Int))).run Try.prog w = .ok (.pointer (some ⟨b, off + j, none⟩)) w := by
  have e : (0 ≤ (j : Int) ∧ (j : Int) < 16) := by omega
  simp [Instr.indexAt, Instr.sureAddr, asIntOf, run_underlying Try.underlying81, Try.sizeOf4, Addr.add_mid, e, hj]
theorem ixPk (hj : j < 16) : (Instr.indexAt 82 (.pointer (some ⟨b, off, none⟩)) (.int .i64 (j : Int))).run Try.prog w = .ok (.pointer (some ⟨b, off + j * 64, none⟩)) w := by
  have e : (0 ≤ (j : Int) ∧ (j : Int) < 16) := by omega
  simp [Instr.indexAt, Instr.sureAddr, asIntOf, run_underlying Try.underlying82, Try.sizeOf50, Addr.add_mid, e, hj]
theorem stU64_ {ad : Addr} {u : Value} {n : Int} (h : w.cell? ad = some u) (hf : w.frozen? ad = false) : (Instr.storeAt 46 (.pointer (some ad)) (.int .u64 n)).run Try.prog w = .ok () (w.setCell ad (.int .u64 n)) := by simp [go_sem, h, hf]
theorem lnCs_head (n : Int) : lnCs (lf0 n) = .int .i64 n :: (lnCs (lf0 0)).tail := by
  refine List.ext_getElem? fun i => ?_
  cases i with
  | zero => rw [lnCs_at _ (by omega)]; rfl
  | succ i =>
    rw [List.getElem?_cons_succ, List.getElem?_tail]
    by_cases hi : i + 1 < 1058
    · rw [lnCs_at _ hi, lnCs_at _ hi]; unfold bM; rw [if_neg (show ¬ i + 1 = 0 by omega)]; rfl
    · rw [List.getElem?_eq_none (by rw [bQ]; omega), List.getElem?_eq_none (by rw [bQ]; omega)]
theorem run_bldPln (n : Int) : (Instr.build 84 #[(0, .int .i64 n)]).run Try.prog w = .ok (.agg (lnCs (lf0 n)).toArray) w := by
  have hz := run_zeroT zeroPl w
  have h1 := fill_one (place := fun i => (#[(0, 1), (1, 16), (17, 16), (33, 1024), (1057, 1)] : Array (Nat × Nat))[i]?) (i := 0) (off := 0) (size := 1) (v := .int .i64 n) (pre := []) (mid := [.int .i64 0]) (post := (lnCs (lf0 0)).tail) (vs := [.int .i64 n]) (rest := []) rfl rfl rfl rfl rfl
  simp only [List.nil_append, List.append_nil, List.cons_append] at h1
  rw [← lnCs_head n, ← lnCs_head 0] at h1
  have hc : (Value.agg (lnCs (lf0 0)).toArray).cells = (lnCs (lf0 0)).toArray := rfl
  simp only [Instr.build, Sem.run_bind, hz, run_underlying Try.underlying84, Result.andThen_ok, hc]
  refine Eq.trans (congrArg (fun r => Result.andThen r _) (?h : _ = Result.ok #[(0, 1), (1, 16), (17, 16), (33, 1024), (1057, 1)] w)) ?_
  case h => kernel_rfl
  simp only [Result.andThen_ok]
  have h4 : Instr.fill (fun i => (#[(0, 1), (1, 16), (17, 16), (33, 1024), (1057, 1)] : Array (Nat × Nat))[i]?) (lnCs (lf0 n)).toArray [] = some (lnCs (lf0 n)).toArray := by rw [Instr.fill]
  rw [h1.trans h4]
  rfl
theorem run_no16 : (Instr.build 81 #[]).run Try.prog w = .ok (.agg no16.toArray) w := by kernel_rfl
theorem exec_put16 (ho : o.op = .store 81 x y) (hx : ρ x = .pointer (some ⟨b, off, none⟩)) (hy : ρ y = .agg no16.toArray) (ht : w.there b off 16) : (execOp ρ o).run Try.prog w = .ok .skip (w.setCells b off no16) :=
  exec_putT no16_size (fun v hv => by simp [no16] at hv; subst hv; rfl) ho hx hy ht
end
def isPn : Obj → Prop
  | .cells _ t _ => t = 84
  | _ => False
section
variable {w w' : World} {p B : Nat} {x : LnF} {s : LnS}
theorem LnA.below (h : LnA w p x) (hb : Below w.heap.size w w') : LnA w' p x := aw h hb
theorem LnA.drew (h : LnA w p x) : LnA w.drew p x := h
end
theorem pl_members (w : World) {p : Nat} {x : LnF} (h : LnA w p x) : Calls Try.prog 57 #[.pointer (some ⟨p, 0, none⟩)] w fun e w' => e = .returned (.int .i64 x.n) ∧ w = w' := by
  have HL := Lib.hid h
  clear h
  go_enter Try.func57, Try.ntmps57
  go_upto_region 1 with fail
  refine wp_region_lit ?_
  refine af rfl (ah rfl (ev rfl)) ?_
  simp only [Act.put, aa, ac, ae]
  refine af (v := .bool false) rfl (bj false Try.underlying68 rfl (ev rfl) evk rfl) ?_
  simp only [Act.put, aa, ac, ae]
  refine wpList_nil ?_
  go_upto_region 3 with fail
  refine wp_region_lit ?_
  refine af rfl (ah rfl (ev rfl)) ?_
  simp only [Act.put, aa, ac, ae]
  refine af rfl (ao rfl (ev rfl)) ?_
  simp only [Act.put, aa, ac, ae]
  refine af rfl (ai rfl (ev rfl) faPln0) ?_
  simp only [Act.put, aa, ac, ae]
  refine af rfl (aq rfl (ev rfl) (bn HL.out.cN)) ?_
  simp only [Act.put, aa, ac, ae]
  refine af rfl (al rfl (ev rfl)) ?_
  simp only [Act.put, aa, ac, ae]
  refine wpList_nil ?_
  go_wp2_with fail
  go_ret
  exact ⟨rfl, rfl⟩
theorem pl_made (w : World) {v : Value} {n : Int} (t : Bool) (h : Calls Try.prog 57 #[v] w fun e w' => e = .returned (.int .i64 n) ∧ w = w') (ht : decide (0 < n) = t) : Calls Try.prog 37 #[v] w fun e w' => e = .returned (.bool t) ∧ w = w' := by
  have HC := Lib.hid h
  have HT := Lib.hid ht
  clear h ht
  go_enter Try.func37, Try.ntmps37
  go_upto_region 1 with fail
  refine wp_region_lit ?_
  refine af rfl (ah rfl (ev rfl)) ?_
  simp only [Act.put, aa, ac, ae]
  refine aj rfl (ar Try.call57 rfl (evc (ev rfl) evn)) ?_
  refine (HC.out).mono ?_
  rintro e w' ⟨rfl, rfl⟩
  refine ⟨_, rfl, ?_⟩
  simp only [Act.put, aa, ac, ae]
  refine af rfl (exec_gtr t rfl (ev rfl) evk HT.out) ?_
  simp only [Act.put, aa, ac, ae]
  refine af rfl (al rfl (ev rfl)) ?_
  simp only [Act.put, aa, ac, ae]
  refine wpList_nil ?_
  go_wp2_with fail
  go_ret
  exact ⟨rfl, rfl⟩
theorem pl_may (w : World) (m : Int) {p : Nat} {s : LnS} (h : LnA w p (lf s)) (hs : LnOk s) : Calls Try.prog 42 #[.pointer (some ⟨p, 0, none⟩), .int .i64 m] w fun e w' => e = .returned (.int .i64 (lnE s m)) ∧ w = w' := by
  have HC := Lib.hid (pl_made w true (pl_members w h) (decide_eq_true (by have := hs.lo; show (0 : Int) < (s.l.length : Int); omega)))
  have HL := Lib.hid h
  clear h hs
  go_enter Try.func42, Try.ntmps42
  go_upto_region 1 with fail
  refine wp_region_lit ?_
  refine af rfl (ah rfl (ev rfl)) ?_
  simp only [Act.put, aa, ac, ae]
  refine aj rfl (ar Try.call37 rfl (evc (ev rfl) evn)) ?_
  refine (HC.out).mono ?_
  rintro e w' ⟨rfl, rfl⟩
  refine ⟨_, rfl, ?_⟩
  simp only [Act.put, aa, ac, ae]
  refine af (v := .bool false) rfl (aG true rfl (ev rfl)) ?_
  simp only [Act.put, aa, ac, ae]
  refine af (v := .bool false) rfl (al rfl (ev rfl)) ?_
  simp only [Act.put, aa, ac, ae]
  refine wpList_nil ?_
  by_cases h0 : m < 0
  · have H0 : Hid (decide (m < 0) = true) := Lib.hid (decide_eq_true h0)
    have HE : Hid (lnE s m = 2) := Lib.hid (lnE_no (by unfold lnR; rw [decide_eq_false (by omega)]; rfl))
    clear h0
    go_upto_region 3 with fail
    refine wp_region_lit ?_
    refine af rfl (ah rfl (ev rfl)) ?_
    simp only [Act.put, aa, ac, ae]
    refine af (v := .bool true) rfl (aC true rfl (ev rfl) evk H0.out) ?_
    simp only [Act.put, aa, ac, ae]
    refine bu 6 (v := .bool true) rfl (ah rfl (ev rfl)) (by kernel_rfl) ?_
    simp only [bO, List.take_succ_cons, List.take_zero, List.drop_succ_cons, List.drop_zero, Act.put, List.setIfInBounds_toArray, List.set_cons_succ, List.set_cons_zero]
    refine af (v := .bool true) rfl (aY rfl (ev rfl) evk) ?_
    simp only [Act.put, aa, ac, ae]
    refine af (v := .bool true) rfl (al rfl (ev rfl)) ?_
    simp only [Act.put, aa, ac, ae]
    refine wpList_nil ?_
    go_wp2_with fail
    go_ret
    exact ⟨by rw [HE.out]; rfl, rfl⟩
  have H0 : Hid (decide (m < 0) = false) := Lib.hid (decide_eq_false h0)
  by_cases h1 : (s.l.length : Int) ≤ m
  · have H1 : Hid (decide ((s.l.length : Int) ≤ m) = true) := Lib.hid (decide_eq_true h1)
    have HE : Hid (lnE s m = 2) := Lib.hid (lnE_no (by unfold lnR; rw [decide_eq_false (p := m < (s.l.length : Int)) (by omega), Bool.and_false]))
    clear h0 h1
    go_upto_region 3 with fail
    refine wp_region_lit ?_
    refine af rfl (ah rfl (ev rfl)) ?_
    simp only [Act.put, aa, ac, ae]
    refine af (v := .bool false) rfl (aC false rfl (ev rfl) evk H0.out) ?_
    simp only [Act.put, aa, ac, ae]
    refine af (v := .bool false) rfl (ah rfl (ev rfl)) ?_
    simp only [Act.put, aa, ac, ae]
    refine ak (am rfl rfl rfl rfl) (ah rfl (ev rfl)) ?_
    simp only [Act.put, aa, ac, ae]
    refine ak (am rfl rfl rfl rfl) (ah rfl (ev rfl)) ?_
    simp only [Act.put, aa, ac, ae]
    refine ak (am rfl rfl rfl rfl) (ao rfl (ev rfl)) ?_
    simp only [Act.put, aa, ac, ae]
    refine ak (am rfl rfl rfl rfl) (ai rfl (ev rfl) faPln0) ?_
    simp only [Act.put, aa, ac, ae]
    refine ak (am rfl rfl rfl rfl) (aq rfl (ev rfl) (bn HL.out.cN)) ?_
    simp only [Act.put, aa, ac, ae]
    refine ak (v := .bool true) (am rfl rfl rfl rfl) (exec_geq true rfl (ev rfl) (ev rfl) H1.out) ?_
    simp only [Act.put, aa, ac, ae]
    refine af (v := .bool true) rfl (bw rfl (ev rfl) (ev rfl)) ?_
    simp only [Act.put, aa, ac, ae]
    refine af (v := .bool true) rfl (al rfl (ev rfl)) ?_
    simp only [Act.put, aa, ac, ae]
    refine wpList_nil ?_
    go_wp2_with fail
    go_ret
    exact ⟨by rw [HE.out]; rfl, rfl⟩
  have H1 : Hid (decide ((s.l.length : Int) ≤ m) = false) := Lib.hid (decide_eq_false h1)
  have HE : Hid (lnE s m = 0) := Lib.hid (by unfold lnE lnR; rw [decide_eq_true (p := 0 ≤ m) (by omega), decide_eq_true (p := m < (s.l.length : Int)) (by omega)]; rfl)
  clear h0 h1
  go_upto_region 3 with fail
  refine wp_region_lit ?_
  refine af rfl (ah rfl (ev rfl)) ?_
  simp only [Act.put, aa, ac, ae]
  refine af (v := .bool false) rfl (aC false rfl (ev rfl) evk H0.out) ?_
  simp only [Act.put, aa, ac, ae]
  refine af (v := .bool false) rfl (ah rfl (ev rfl)) ?_
  simp only [Act.put, aa, ac, ae]
  refine ak (am rfl rfl rfl rfl) (ah rfl (ev rfl)) ?_
  simp only [Act.put, aa, ac, ae]
  refine ak (am rfl rfl rfl rfl) (ah rfl (ev rfl)) ?_
  simp only [Act.put, aa, ac, ae]
  refine ak (am rfl rfl rfl rfl) (ao rfl (ev rfl)) ?_
  simp only [Act.put, aa, ac, ae]
  refine ak (am rfl rfl rfl rfl) (ai rfl (ev rfl) faPln0) ?_
  simp only [Act.put, aa, ac, ae]
  refine ak (am rfl rfl rfl rfl) (aq rfl (ev rfl) (bn HL.out.cN)) ?_
  simp only [Act.put, aa, ac, ae]
  refine ak (v := .bool false) (am rfl rfl rfl rfl) (exec_geq false rfl (ev rfl) (ev rfl) H1.out) ?_
  simp only [Act.put, aa, ac, ae]
  refine af (v := .bool false) rfl (bw rfl (ev rfl) (ev rfl)) ?_
  simp only [Act.put, aa, ac, ae]
  refine af (v := .bool false) rfl (al rfl (ev rfl)) ?_
  simp only [Act.put, aa, ac, ae]
  refine wpList_nil ?_
  go_wp2_with fail
  go_ret
  exact ⟨by rw [HE.out]; rfl, rfl⟩
theorem pl_may_v (w : World) {m e : Int} {p : Nat} {s : LnS} (h : LnA w p (lf s)) (hs : LnOk s) (he : lnE s m = e) : Calls Try.prog 42 #[.pointer (some ⟨p, 0, none⟩), .int .i64 m] w fun a w' => a = .returned (.int .i64 e) ∧ w = w' := by
  subst he; exact pl_may w m h hs
theorem pli_new (N : Nat) (w : World) (h1 : 1 ≤ N) (h2 : N ≤ 16) : Calls Try.prog 41 #[.int .i64 (N : Int)] w fun e w' => ∃ p, e = .returned (.tuple #[.pointer (some ⟨p, 0, none⟩), .int .i64 0]) ∧ (LnA w' p (lf (bH N)) ∧ w.heap.size ≤ p) ∧ Below w.heap.size w w' := by
  have H0 : Hid (decide ((N : Int) < 1) = false) := Lib.hid (decide_eq_false (by omega))
  have H1 : Hid (decide ((16 : Int) < (N : Int)) = false) := Lib.hid (decide_eq_false (by omega))
  clear h1 h2
  go_enter Try.func41, Try.ntmps41
  go_upto_region 1 with fail
  refine wp_region_lit ?_
  refine af rfl (ah rfl (ev rfl)) ?_
  simp only [Act.put, aa, ac, ae]
  refine af (v := .bool false) rfl (aC false rfl (ev rfl) evk H0.out) ?_
  simp only [Act.put, aa, ac, ae]
  refine af (v := .bool false) rfl (ah rfl (ev rfl)) ?_
  simp only [Act.put, aa, ac, ae]
  refine ak (am rfl rfl rfl rfl) (ah rfl (ev rfl)) ?_
  simp only [Act.put, aa, ac, ae]
  refine ak (v := .bool false) (am rfl rfl rfl rfl) (exec_gtr false rfl (ev rfl) evk H1.out) ?_
  simp only [Act.put, aa, ac, ae]
  refine af (v := .bool false) rfl (bw rfl (ev rfl) (ev rfl)) ?_
  simp only [Act.put, aa, ac, ae]
  refine wpList_nil ?_
  go_upto_region 3 with fail
  refine wp_region_lit ?_
  refine af rfl (ah rfl (ev rfl)) ?_
  simp only [Act.put, aa, ac, ae]
  refine af rfl (exec_bld1 rfl (ev rfl) (run_bldPln _)) ?_
  simp only [Act.put, aa, ac, ae]
  refine af rfl (bq (cs := lnCs (lf0 (N : Int))) rfl (ev rfl)) ?_
  simp only [Act.put, aa, ac, ae]
  refine af rfl (al rfl (ev rfl)) ?_
  simp only [Act.put, aa, ac, ae]
  refine af rfl (al rfl evk) ?_
  simp only [Act.put, aa, ac, ae]
  refine wpList_nil ?_
  go_wp2_with fail
  go_ret2
  refine ⟨_, rfl, ⟨?_, Nat.le_refl _⟩, (Below.refl _ _).alloc (Nat.le_refl _) _⟩
  rw [lf_new]
  exact heap_alloc_new w _
theorem lf_stS {s : LnS} {k Q : Nat} (b : Blk) (hk : k < s.l.length) (hq : Q ≠ 0) : lf (bv s (k : Int) b Q) = { lf s with kn := updF (lf s).kn k true, bl := updF (lf s).bl k b, dt := updF (lf s).dt k true, f := (minF s.f Q : Nat) } := by
  rw [lnSet_ok hk hq, lf_set hk]; rfl
theorem lf_frg {s : LnS} {k : Nat} (hk : k < s.l.length) : lf (lnFrg s (k : Int)) = { lf s with kn := updF (lf s).kn k false, dt := updF (lf s).dt k false, bl := updF (lf s).bl k zeroB } := by
  rw [lnFrg_ok hk, lf_set hk]; rfl
theorem pl_first (w : World) {p : Nat} {x : LnF} (h : LnA w p x) : Calls Try.prog 22 #[.pointer (some ⟨p, 0, none⟩)] w fun e w' => e = .returned (.int .u64 x.f) ∧ w = w' := by
  have HL := Lib.hid h
  clear h
  go_enter Try.func22, Try.ntmps22
  go_upto_region 1 with fail
  refine wp_region_lit ?_
  refine af rfl (ah rfl (ev rfl)) ?_
  simp only [Act.put, aa, ac, ae]
  refine af (v := .bool false) rfl (bj false Try.underlying68 rfl (ev rfl) evk rfl) ?_
  simp only [Act.put, aa, ac, ae]
  refine wpList_nil ?_
  go_upto_region 3 with fail
  refine wp_region_lit ?_
  refine af rfl (ah rfl (ev rfl)) ?_
  simp only [Act.put, aa, ac, ae]
  refine af rfl (ao rfl (ev rfl)) ?_
  simp only [Act.put, aa, ac, ae]
  refine af rfl (ai rfl (ev rfl) faPln4) ?_
  simp only [Act.put, aa, ac, ae]
  refine af rfl (aq rfl (ev rfl) (ldU64 HL.out.cF)) ?_
  simp only [Act.put, aa, ac, ae]
  refine af rfl (al rfl (ev rfl)) ?_
  simp only [Act.put, aa, ac, ae]
  refine wpList_nil ?_
  go_wp2_with fail
  go_ret
  exact ⟨rfl, rfl⟩
theorem aB.setCells {I : Obj → Prop} {F : Nat → Prop} {w w1 : World} {p : Nat} {ob : Obj} (h : aB I F w w1) (hF : F p) (ho : w1.heap[p]? = some ob) (hI : ∀ cs t fr, ob = .cells cs t fr → I ob) (hc : I ob) (o : Nat) (vs : List Value) : aB I F w (w1.setCells p o vs) :=
  h.trans (Only.setCells (Only.refl _ _) (.inl ⟨hF, fun o2 ho2 => by rw [ho] at ho2; cases ho2; exact hc⟩) vs o)
def PLnF (w : World) (B : Nat → Prop) (p : Nat) (s : LnS) : Prop := LnA w p (lf s) ∧ B p ∧ LnOk s
section
variable {B : Nat → Prop} {w : World} {p : Nat} {x : LnF}
theorem LnA.t1F {w0 : World} (h : LnA w p x) (ht : aB isPn B w0 w) (hB : B p) (j : Nat) (u : Value) : aB isPn B w0 (w.setCell ⟨p, j, none⟩ u) := ht.setCell (p := ⟨p, j, none⟩) hB h rfl u
theorem LnA.tnF {w0 : World} (h : LnA w p x) (ht : aB isPn B w0 w) (hB : B p) (o : Nat) (vs : List Value) : aB isPn B w0 (w.setCells p o vs) := ht.setCells hB h (fun _ _ _ _ => rfl) rfl o vs
end
theorem pl_knowF (w : World) (k : Nat) (b : Blk) {B : Nat → Prop} {p : Nat} {x : LnF} (h : LnA w p x) (hk : k < 16) (hB : B p) : Calls Try.prog 43 #[.pointer (some ⟨p, 0, none⟩), .int .i64 (k : Int), blk b] w fun e w' => e = .returned (.tuple #[]) ∧ LnA w' p { x with kn := updF x.kn k true, bl := updF x.bl k b } ∧ aB isPn B w w' := by
  have HK := Lib.hid hk
  have hne : w.heap.size ≠ p := by have := h.lt; omega
  have HB1 : Hid (Below w.heap.size w (w.alloc (.cells (cel b).toArray 50))) := Lib.hid ((Below.refl _ _).alloc (Nat.le_refl _) _)
  have HL : Hid (LnA (w.alloc (.cells (cel b).toArray 50)) p x) := Lib.hid (h.below HB1.out)
  have HX : Hid ((w.alloc (.cells (cel b).toArray 50)).rangeAt w.heap.size 0 (cel b)) := Lib.hid (range_new w (cel b) _)
  have HNE := Lib.hid hne
  have HBp := Lib.hid hB
  clear h hk hne hB
  go_enter Try.func43, Try.ntmps43
  go_upto_region 0 with fail
  refine wp_region_lit ?_
  refine af rfl (exec_box rfl (ev rfl)) ?_
  simp only [Act.put, aa, ac, ae]
  refine wpList_nil ?_
  generalize w.alloc (.cells (cel b).toArray 50) = w1 at *
  have HXd : Hid ((World.drew w1).rangeAt w.heap.size 0 (cel b)) := Lib.hid HX.out
  have HX2 : Hid (((World.drew w1).setCell ⟨p, 1 + k, none⟩ (.bool true)).rangeAt w.heap.size 0 (cel b)) := Lib.hid (World.rangeAt_setCells_apart HXd.out p (1 + k) [.bool true] (.inl HNE.out))
  have HL2 : Hid (LnA ((World.drew w1).setCell ⟨p, 1 + k, none⟩ (.bool true)) p { x with kn := updF x.kn k true }) := Lib.hid (HL.out.drew.sK HK.out true)
  have HT2 : Hid (aB isPn B w ((World.drew w1).setCell ⟨p, 1 + k, none⟩ (.bool true))) := Lib.hid (HL.out.drew.t1F (aB.of_below HB1.out).drew HBp.out _ _)
  have HC2 := Lib.hid (HL.out.drew.cK HK.out)
  have HF2 := Lib.hid (HL.out.drew.fz (1 + k))
  go_upto_region 1 with fail
  refine wp_region_held (S := fun w' => w'.rangeAt w.heap.size 0 (cel b)) (by kernel_rfl) ?_
  change wpAnyH _ _ _ _ _ 13 _ _ w1.drew
  refine au 0 rfl (by kernel_rfl) (by kernel_rfl) (by kernel_rfl) rfl (fun w' hw => ah rfl (ev rfl)) (fun _ _ _ h => h) HXd.out ?_
  simp only [Act.put, aa, ac, ae]
  refine au 1 rfl (by kernel_rfl) (by kernel_rfl) (by kernel_rfl) rfl (fun w' hw => ah rfl (ev rfl)) (fun _ _ _ h => h) HXd.out ?_
  simp only [Act.put, aa, ac, ae]
  refine au 2 rfl (by kernel_rfl) (by kernel_rfl) (by kernel_rfl) rfl (fun w' hw => ah rfl (ev rfl)) (fun _ _ _ h => h) HXd.out ?_
  simp only [Act.put, aa, ac, ae]
  refine au 3 rfl (by kernel_rfl) (by kernel_rfl) (by kernel_rfl) rfl (fun w' hw => ah rfl (ev rfl)) (fun _ _ _ h => h) HXd.out ?_
  simp only [Act.put, aa, ac, ae]
  refine au 4 rfl (by kernel_rfl) (by kernel_rfl) (by kernel_rfl) rfl (fun w' hw => exec_load rfl (ev rfl) hw) (fun _ _ _ h => h) HXd.out ?_
  simp only [Act.put, aa, ac, ae]
  refine au 5 rfl (by kernel_rfl) (by kernel_rfl) (by kernel_rfl) rfl (fun w' hw => ao rfl (ev rfl)) (fun _ _ _ h => h) HXd.out ?_
  simp only [Act.put, aa, ac, ae]
  refine au 6 rfl (by kernel_rfl) (by kernel_rfl) (by kernel_rfl) rfl (fun w' hw => ai rfl (ev rfl) faPln1) (fun _ _ _ h => h) HXd.out ?_
  simp only [Act.put, aa, ac, ae]
  refine au 7 rfl (by kernel_rfl) (by kernel_rfl) (by kernel_rfl) rfl (fun w' hw => exec_ix rfl (ev rfl) (ev rfl) (ixPb HK.out)) (fun _ _ _ h => h) HXd.out ?_
  simp only [Act.put, aa, ac, ae]
  refine au 9 rfl (by kernel_rfl) (by kernel_rfl) (by kernel_rfl) rfl (fun w' hw => ao rfl (ev rfl)) (fun _ _ _ h => h) HXd.out ?_
  simp only [Act.put, aa, ac, ae]
  refine au 10 rfl (by kernel_rfl) (by kernel_rfl) (by kernel_rfl) rfl (fun w' hw => ai rfl (ev rfl) faPln3) (fun _ _ _ h => h) HXd.out ?_
  simp only [Act.put, aa, ac, ae]
  refine bS 8 rfl (by kernel_rfl) rfl (bi rfl (ev rfl) evk (stBo_ HC2.out HF2.out)) HX2.out ?_
  simp only [Act.put]
  generalize (World.drew w1).setCell ⟨p, 1 + k, none⟩ (.bool true) = w2 at *
  have HTH := Lib.hid (HL2.out.there (o := 33 + k * 64) (m := 64) (by have := HK.out; omega))
  have HX3 : Hid ((w2.setCells p (33 + k * 64) (cel b)).rangeAt w.heap.size 0 (cel b)) := Lib.hid (World.rangeAt_setCells_apart HX2.out p _ _ (.inl HNE.out))
  have HL3 : Hid (LnA (w2.setCells p (33 + k * 64) (cel b)) p { x with kn := updF x.kn k true, bl := updF x.bl k b }) := Lib.hid (HL2.out.sB HK.out b)
  have HT3 : Hid (aB isPn B w (w2.setCells p (33 + k * 64) (cel b))) := Lib.hid (HL2.out.tnF HT2.out HBp.out _ _)
  refine au 11 rfl (by kernel_rfl) (by kernel_rfl) (by kernel_rfl) rfl (fun w' hw => exec_ix rfl (ev rfl) (ev rfl) (ixPk HK.out)) (fun _ _ _ h => h) HX2.out ?_
  simp only [Act.put, aa, ac, ae]
  refine bS 12 rfl (by kernel_rfl) rfl (exec_store rfl (ev rfl) (ev rfl) HTH.out) HX3.out ?_
  simp only [Act.put]
  generalize w2.setCells p (33 + k * 64) (cel b) = w3 at *
  refine wpAnyH_done (by kernel_rfl) ?_ _
  go_wp2_with fail
  exact bodyPost_end (results_none rfl _ _ _) rfl ⟨rfl, HL3.out, HT3.out⟩
theorem pl_setF (w : World) (m : Int) (b : Blk) (Q : Nat) {B : Nat → Prop} {p : Nat} {s : LnS} (h : PLnF w B p s) (hQ : Q < 18446744073709551616) : Calls Try.prog 30 #[.pointer (some ⟨p, 0, none⟩), .int .i64 m, blk b, .int .u64 (Q : Int)] w fun e w' => e = .returned (.int .i64 (lnSE s m Q)) ∧ PLnF w' B p (bv s m b Q) ∧ aB isPn B w w' := by
  obtain ⟨h, hB, hs⟩ := h
  have HQ := Lib.hid hQ
  clear hQ
  have HB1 : Hid (Below w.heap.size w (w.alloc (.cells (cel b).toArray 50))) := Lib.hid ((Below.refl _ _).alloc (Nat.le_refl _) _)
  have HL : Hid (LnA (w.alloc (.cells (cel b).toArray 50)) p (lf s)) := Lib.hid (h.below HB1.out)
  have HX : Hid ((w.alloc (.cells (cel b).toArray 50)).rangeAt w.heap.size 0 (cel b)) := Lib.hid (range_new w (cel b) _)
  have HBp := Lib.hid hB
  have HS := Lib.hid hs
  clear h hB hs
  go_enter Try.func30, Try.ntmps30
  go_upto_region 0 with fail
  refine wp_region_lit ?_
  refine af rfl (exec_box rfl (ev rfl)) ?_
  simp only [Act.put, aa, ac, ae]
  refine af rfl (al rfl evk) ?_
  simp only [Act.put, aa, ac, ae]
  refine wpList_nil ?_
  generalize w.alloc (.cells (cel b).toArray 50) = w1 at *
  cases hr : lnR s m
  · have HE := Lib.hid (lnE_no hr)
    have HR := Lib.hid hr
    clear hr
    go_upto_region 1 with fail
    refine wp_region_lit ?_
    refine af rfl (ah rfl (ev rfl)) ?_
    simp only [Act.put, aa, ac, ae]
    refine af rfl (ah rfl (ev rfl)) ?_
    simp only [Act.put, aa, ac, ae]
    refine aj rfl (ar Try.call42 rfl (evc (ev rfl) (evc (ev rfl) evn))) ?_
    refine (pl_may_v _ HL.out HS.out HE.out).mono ?_
    rintro e w' ⟨rfl, rfl⟩
    refine ⟨_, rfl, ?_⟩
    simp only [Act.put, aa, ac, ae]
    refine af rfl (al rfl (ev rfl)) ?_
    simp only [Act.put, aa, ac, ae]
    refine wpList_nil ?_
    go_upto_region 2 with fail
    refine wp_region_lit ?_
    refine af rfl (ah rfl (ev rfl)) ?_
    simp only [Act.put, aa, ac, ae]
    refine af (v := .bool true) rfl (aE true rfl (ev rfl) evk rfl) ?_
    simp only [Act.put, aa, ac, ae]
    refine wpList_nil ?_
    go_wp2_with fail
    go_ret
    exact ⟨by rw [lnSE_no HR.out]; rfl, by rw [lnSet_no HR.out]; exact ⟨HL.out, HBp.out, HS.out⟩, aB.of_below HB1.out⟩
  obtain ⟨k, rfl, hk⟩ := lnR_get hr
  have HE := Lib.hid (lnE_ok hk)
  have HKL := Lib.hid hk
  have HK : Hid (k < 16) := Lib.hid (Nat.lt_of_lt_of_le hk HS.out.hi)
  clear hr hk
  go_upto_region 1 with fail
  refine wp_region_lit ?_
  refine af rfl (ah rfl (ev rfl)) ?_
  simp only [Act.put, aa, ac, ae]
  refine af rfl (ah rfl (ev rfl)) ?_
  simp only [Act.put, aa, ac, ae]
  refine aj rfl (ar Try.call42 rfl (evc (ev rfl) (evc (ev rfl) evn))) ?_
  refine (pl_may_v _ HL.out HS.out HE.out).mono ?_
  rintro e w' ⟨rfl, rfl⟩
  refine ⟨_, rfl, ?_⟩
  simp only [Act.put, aa, ac, ae]
  refine af rfl (al rfl (ev rfl)) ?_
  simp only [Act.put, aa, ac, ae]
  refine wpList_nil ?_
  go_upto_region 2 with fail
  refine wp_region_lit ?_
  refine af rfl (ah rfl (ev rfl)) ?_
  simp only [Act.put, aa, ac, ae]
  refine af (v := .bool false) rfl (aE false rfl (ev rfl) evk rfl) ?_
  simp only [Act.put, aa, ac, ae]
  refine wpList_nil ?_
  by_cases hq0 : Q = 0
  · subst hq0
    have HZ : Hid ((((0 : Nat) : Int) == 0) = true) := Lib.hid rfl
    go_upto_region 4 with fail
    refine wp_region_lit ?_
    refine af rfl (ah rfl (ev rfl)) ?_
    simp only [Act.put, aa, ac, ae]
    refine af (v := .bool true) rfl (ay true rfl (ev rfl) evk HZ.out) ?_
    simp only [Act.put, aa, ac, ae]
    refine wpList_nil ?_
    go_wp2_with fail
    go_ret
    exact ⟨by rw [lnSE_0]; rfl, by rw [lnSet_0]; exact ⟨HL.out, HBp.out, HS.out⟩, aB.of_below HB1.out⟩
  have HZ : Hid (((Q : Int) == 0) = false) := Lib.hid (beq_eq_false_iff_ne.2 (by omega))
  have HQ0 := Lib.hid hq0
  clear hq0
  go_upto_region 4 with fail
  refine wp_region_lit ?_
  refine af rfl (ah rfl (ev rfl)) ?_
  simp only [Act.put, aa, ac, ae]
  refine af (v := .bool false) rfl (ay false rfl (ev rfl) evk HZ.out) ?_
  simp only [Act.put, aa, ac, ae]
  refine wpList_nil ?_
  go_upto_region 6 with fail
  refine wp_region_lit ?_
  refine af rfl (ah rfl (ev rfl)) ?_
  simp only [Act.put, aa, ac, ae]
  refine af rfl (ah rfl (ev rfl)) ?_
  simp only [Act.put, aa, ac, ae]
  refine af rfl (exec_load rfl (ev rfl) HX.out) ?_
  simp only [Act.put, aa, ac, ae]
  refine aj rfl (ar Try.call43 rfl (evc (ev rfl) (evc (ev rfl) (evc (ev rfl) evn)))) ?_
  refine (pl_knowF _ k b HL.out HK.out HBp.out).mono ?_
  rintro e w2 ⟨rfl, h2, t2⟩
  have HL2 := Lib.hid h2
  have HT2 := Lib.hid ((aB.of_below HB1.out).trans t2)
  clear h2 t2
  refine ⟨_, rfl, ?_⟩
  simp only [Act.put, aa, ac, ae]
  refine wpList_nil ?_
  have HC2 := Lib.hid (HL2.out.cD HK.out)
  have HF2 := Lib.hid (HL2.out.fz (17 + k))
  have HL3 := Lib.hid (HL2.out.sD HK.out true)
  have HT3 := Lib.hid (HL2.out.t1F HT2.out HBp.out (17 + k) (.bool true))
  go_upto_region 7 with fail
  refine wp_region_lit ?_
  refine af rfl (ah rfl (ev rfl)) ?_
  simp only [Act.put, aa, ac, ae]
  refine af rfl (ah rfl (ev rfl)) ?_
  simp only [Act.put, aa, ac, ae]
  refine af rfl (ao rfl (ev rfl)) ?_
  simp only [Act.put, aa, ac, ae]
  refine af rfl (ai rfl (ev rfl) faPln2) ?_
  simp only [Act.put, aa, ac, ae]
  refine af rfl (exec_ix rfl (ev rfl) (ev rfl) (ixPb HK.out)) ?_
  simp only [Act.put, aa, ac, ae]
  refine aA rfl (bi rfl (ev rfl) evk (stBo_ HC2.out HF2.out)) ?_
  simp only [Act.put, aa, ac, ae]
  generalize w2.setCell ⟨p, 17 + k, none⟩ (.bool true) = w3 at *
  refine wpList_nil ?_
  have HC3 : Hid (w3.cell? ⟨p, 1057, none⟩ = some (.int .u64 (s.f : Int))) := Lib.hid HL3.out.cF
  have HF3 := Lib.hid (HL3.out.fz 1057)
  have HL4 := Lib.hid (HL3.out.sF (Q : Int))
  have HT4 := Lib.hid (HL3.out.t1F HT3.out HBp.out 1057 (.int .u64 (Q : Int)))
  have HSE : Hid (lnSE s (k : Int) Q = 0) := Lib.hid (lnSE_ok HKL.out HQ0.out)
  have HOK : Hid (LnOk (bv s (k : Int) b Q)) := Lib.hid (HS.out.set _ _ HQ.out)
  by_cases hf : s.f = 0
  · have HZf : Hid (((s.f : Int) == 0) = true) := Lib.hid (beq_iff_eq.2 (by omega))
    have HM : Hid (minF s.f Q = Q) := Lib.hid (if_pos (.inl hf))
    clear hf
    go_upto_region 8 with fail
    refine wp_region_lit ?_
    refine af rfl (ah rfl (ev rfl)) ?_
    simp only [Act.put, aa, ac, ae]
    refine af rfl (ao rfl (ev rfl)) ?_
    simp only [Act.put, aa, ac, ae]
    refine af rfl (ai rfl (ev rfl) faPln4) ?_
    simp only [Act.put, aa, ac, ae]
    refine af rfl (aq rfl (ev rfl) (ldU64 HC3.out)) ?_
    simp only [Act.put, aa, ac, ae]
    refine af (v := .bool true) rfl (ay true rfl (ev rfl) evk HZf.out) ?_
    simp only [Act.put, aa, ac, ae]
    refine bu 6 (v := .bool true) rfl (ah rfl (ev rfl)) (by kernel_rfl) ?_
    simp only [bO, List.take_succ_cons, List.take_zero, List.drop_succ_cons, List.drop_zero, Act.put, List.setIfInBounds_toArray, List.set_cons_succ, List.set_cons_zero]
    refine af (v := .bool true) rfl (aY rfl (ev rfl) evk) ?_
    simp only [Act.put, aa, ac, ae]
    refine wpList_nil ?_
    go_upto_region 9 with fail
    refine wp_region_lit ?_
    refine af rfl (ah rfl (ev rfl)) ?_
    simp only [Act.put, aa, ac, ae]
    refine af rfl (ah rfl (ev rfl)) ?_
    simp only [Act.put, aa, ac, ae]
    refine af rfl (ao rfl (ev rfl)) ?_
    simp only [Act.put, aa, ac, ae]
    refine af rfl (ai rfl (ev rfl) faPln4) ?_
    simp only [Act.put, aa, ac, ae]
    refine aA rfl (bi rfl (ev rfl) (ev rfl) (stU64_ HC3.out HF3.out)) ?_
    simp only [Act.put, aa, ac, ae]
    generalize w3.setCell ⟨p, 1057, none⟩ (.int .u64 (Q : Int)) = w4 at *
    refine wpList_nil ?_
    go_wp2_with fail
    go_ret
    exact ⟨by rw [HSE.out]; rfl, ⟨by rw [lf_stS b HKL.out HQ0.out, HM.out]; exact HL4.out, HBp.out, HOK.out⟩, HT4.out⟩
  have HZf : Hid (((s.f : Int) == 0) = false) := Lib.hid (beq_eq_false_iff_ne.2 (by omega))
  by_cases hl : Q < s.f
  · have HLS : Hid (decide ((Q : Int) < (s.f : Int)) = true) := Lib.hid (decide_eq_true (by omega))
    have HM : Hid (minF s.f Q = Q) := Lib.hid (if_pos (.inr hl))
    clear hf hl
    go_upto_region 8 with fail
    refine wp_region_lit ?_
    refine af rfl (ah rfl (ev rfl)) ?_
    simp only [Act.put, aa, ac, ae]
    refine af rfl (ao rfl (ev rfl)) ?_
    simp only [Act.put, aa, ac, ae]
    refine af rfl (ai rfl (ev rfl) faPln4) ?_
    simp only [Act.put, aa, ac, ae]
    refine af rfl (aq rfl (ev rfl) (ldU64 HC3.out)) ?_
    simp only [Act.put, aa, ac, ae]
    refine af (v := .bool false) rfl (ay false rfl (ev rfl) evk HZf.out) ?_
    simp only [Act.put, aa, ac, ae]
    refine af (v := .bool false) rfl (ah rfl (ev rfl)) ?_
    simp only [Act.put, aa, ac, ae]
    refine ak (am rfl rfl rfl rfl) (ah rfl (ev rfl)) ?_
    simp only [Act.put, aa, ac, ae]
    refine ak (am rfl rfl rfl rfl) (ah rfl (ev rfl)) ?_
    simp only [Act.put, aa, ac, ae]
    refine ak (am rfl rfl rfl rfl) (ao rfl (ev rfl)) ?_
    simp only [Act.put, aa, ac, ae]
    refine ak (am rfl rfl rfl rfl) (ai rfl (ev rfl) faPln4) ?_
    simp only [Act.put, aa, ac, ae]
    refine ak (am rfl rfl rfl rfl) (aq rfl (ev rfl) (ldU64 HC3.out)) ?_
    simp only [Act.put, aa, ac, ae]
    refine ak (v := .bool true) (am rfl rfl rfl rfl) (aC true rfl (ev rfl) (ev rfl) HLS.out) ?_
    simp only [Act.put, aa, ac, ae]
    refine af (v := .bool true) rfl (bw rfl (ev rfl) (ev rfl)) ?_
    simp only [Act.put, aa, ac, ae]
    refine wpList_nil ?_
    go_upto_region 9 with fail
    refine wp_region_lit ?_
    refine af rfl (ah rfl (ev rfl)) ?_
    simp only [Act.put, aa, ac, ae]
    refine af rfl (ah rfl (ev rfl)) ?_
    simp only [Act.put, aa, ac, ae]
    refine af rfl (ao rfl (ev rfl)) ?_
    simp only [Act.put, aa, ac, ae]
    refine af rfl (ai rfl (ev rfl) faPln4) ?_
    simp only [Act.put, aa, ac, ae]
    refine aA rfl (bi rfl (ev rfl) (ev rfl) (stU64_ HC3.out HF3.out)) ?_
    simp only [Act.put, aa, ac, ae]
    generalize w3.setCell ⟨p, 1057, none⟩ (.int .u64 (Q : Int)) = w4 at *
    refine wpList_nil ?_
    go_wp2_with fail
    go_ret
    exact ⟨by rw [HSE.out]; rfl, ⟨by rw [lf_stS b HKL.out HQ0.out, HM.out]; exact HL4.out, HBp.out, HOK.out⟩, HT4.out⟩
  have HLS : Hid (decide ((Q : Int) < (s.f : Int)) = false) := Lib.hid (decide_eq_false (by omega))
  have HM : Hid (minF s.f Q = s.f) := Lib.hid (if_neg (by omega))
  clear hf hl
  go_upto_region 8 with fail
  refine wp_region_lit ?_
  refine af rfl (ah rfl (ev rfl)) ?_
  simp only [Act.put, aa, ac, ae]
  refine af rfl (ao rfl (ev rfl)) ?_
  simp only [Act.put, aa, ac, ae]
  refine af rfl (ai rfl (ev rfl) faPln4) ?_
  simp only [Act.put, aa, ac, ae]
  refine af rfl (aq rfl (ev rfl) (ldU64 HC3.out)) ?_
  simp only [Act.put, aa, ac, ae]
  refine af (v := .bool false) rfl (ay false rfl (ev rfl) evk HZf.out) ?_
  simp only [Act.put, aa, ac, ae]
  refine af (v := .bool false) rfl (ah rfl (ev rfl)) ?_
  simp only [Act.put, aa, ac, ae]
  refine ak (am rfl rfl rfl rfl) (ah rfl (ev rfl)) ?_
  simp only [Act.put, aa, ac, ae]
  refine ak (am rfl rfl rfl rfl) (ah rfl (ev rfl)) ?_
  simp only [Act.put, aa, ac, ae]
  refine ak (am rfl rfl rfl rfl) (ao rfl (ev rfl)) ?_
  simp only [Act.put, aa, ac, ae]
  refine ak (am rfl rfl rfl rfl) (ai rfl (ev rfl) faPln4) ?_
  simp only [Act.put, aa, ac, ae]
  refine ak (am rfl rfl rfl rfl) (aq rfl (ev rfl) (ldU64 HC3.out)) ?_
  simp only [Act.put, aa, ac, ae]
  refine ak (v := .bool false) (am rfl rfl rfl rfl) (aC false rfl (ev rfl) (ev rfl) HLS.out) ?_
  simp only [Act.put, aa, ac, ae]
  refine af (v := .bool false) rfl (bw rfl (ev rfl) (ev rfl)) ?_
  simp only [Act.put, aa, ac, ae]
  refine wpList_nil ?_
  go_wp2_with fail
  go_ret
  exact ⟨by rw [HSE.out]; rfl, ⟨by rw [lf_stS b HKL.out HQ0.out, HM.out]; exact HL3.out, HBp.out, HOK.out⟩, HT3.out⟩
theorem pl_forgetF (w : World) (m : Int) {B : Nat → Prop} {p : Nat} {s : LnS} (h : PLnF w B p s) : Calls Try.prog 32 #[.pointer (some ⟨p, 0, none⟩), .int .i64 m] w fun e w' => e = .returned (.int .i64 (lnE s m)) ∧ PLnF w' B p (lnFrg s m) ∧ aB isPn B w w' := by
  obtain ⟨h, hB, hs⟩ := h
  have HL := Lib.hid h
  have HBp := Lib.hid hB
  have HS := Lib.hid hs
  clear h hB hs
  go_enter Try.func32, Try.ntmps32
  cases hr : lnR s m
  · have HE := Lib.hid (lnE_no hr)
    have HR := Lib.hid hr
    clear hr
    go_upto_region 1 with fail
    refine wp_region_lit ?_
    refine af rfl (ah rfl (ev rfl)) ?_
    simp only [Act.put, aa, ac, ae]
    refine af rfl (ah rfl (ev rfl)) ?_
    simp only [Act.put, aa, ac, ae]
    refine aj rfl (ar Try.call42 rfl (evc (ev rfl) (evc (ev rfl) evn))) ?_
    refine (pl_may_v _ HL.out HS.out HE.out).mono ?_
    rintro e w' ⟨rfl, rfl⟩
    refine ⟨_, rfl, ?_⟩
    simp only [Act.put, aa, ac, ae]
    refine af rfl (al rfl (ev rfl)) ?_
    simp only [Act.put, aa, ac, ae]
    refine wpList_nil ?_
    go_upto_region 2 with fail
    refine wp_region_lit ?_
    refine af rfl (ah rfl (ev rfl)) ?_
    simp only [Act.put, aa, ac, ae]
    refine af (v := .bool true) rfl (aE true rfl (ev rfl) evk rfl) ?_
    simp only [Act.put, aa, ac, ae]
    refine wpList_nil ?_
    go_wp2_with fail
    go_ret
    exact ⟨by rw [HE.out]; rfl, by rw [lnFrg_no HR.out]; exact ⟨HL.out, HBp.out, HS.out⟩, aB.refl _ _ _⟩
  obtain ⟨k, rfl, hk⟩ := lnR_get hr
  have HE := Lib.hid (lnE_ok hk)
  have HKL := Lib.hid hk
  have HK : Hid (k < 16) := Lib.hid (Nat.lt_of_lt_of_le hk HS.out.hi)
  clear hr hk
  go_upto_region 1 with fail
  refine wp_region_lit ?_
  refine af rfl (ah rfl (ev rfl)) ?_
  simp only [Act.put, aa, ac, ae]
  refine af rfl (ah rfl (ev rfl)) ?_
  simp only [Act.put, aa, ac, ae]
  refine aj rfl (ar Try.call42 rfl (evc (ev rfl) (evc (ev rfl) evn))) ?_
  refine (pl_may_v _ HL.out HS.out HE.out).mono ?_
  rintro e w' ⟨rfl, rfl⟩
  refine ⟨_, rfl, ?_⟩
  simp only [Act.put, aa, ac, ae]
  refine af rfl (al rfl (ev rfl)) ?_
  simp only [Act.put, aa, ac, ae]
  refine wpList_nil ?_
  go_upto_region 2 with fail
  refine wp_region_lit ?_
  refine af rfl (ah rfl (ev rfl)) ?_
  simp only [Act.put, aa, ac, ae]
  refine af (v := .bool false) rfl (aE false rfl (ev rfl) evk rfl) ?_
  simp only [Act.put, aa, ac, ae]
  refine wpList_nil ?_
  have HC0 := Lib.hid (HL.out.drew.cK HK.out)
  have HF0 := Lib.hid (HL.out.drew.fz (1 + k))
  have HL1 := Lib.hid (HL.out.drew.sK HK.out false)
  have HT1 := Lib.hid (HL.out.drew.t1F (aB.refl isPn B w).drew HBp.out (1 + k) (.bool false))
  go_upto_region 4 with fail
  refine wp_region_held (S := fun _ => True) (by kernel_rfl) ?_
  change wpAnyH _ _ _ _ _ 19 _ _ w.drew
  refine au 0 rfl (by kernel_rfl) (by kernel_rfl) (by kernel_rfl) rfl (fun w' hw => ah rfl (ev rfl)) (fun _ _ _ h => h) trivial ?_
  simp only [Act.put, aa, ac, ae]
  refine au 1 rfl (by kernel_rfl) (by kernel_rfl) (by kernel_rfl) rfl (fun w' hw => ah rfl (ev rfl)) (fun _ _ _ h => h) trivial ?_
  simp only [Act.put, aa, ac, ae]
  refine au 2 rfl (by kernel_rfl) (by kernel_rfl) (by kernel_rfl) rfl (fun w' hw => ah rfl (ev rfl)) (fun _ _ _ h => h) trivial ?_
  simp only [Act.put, aa, ac, ae]
  refine au 3 rfl (by kernel_rfl) (by kernel_rfl) (by kernel_rfl) rfl (fun w' hw => ah rfl (ev rfl)) (fun _ _ _ h => h) trivial ?_
  simp only [Act.put, aa, ac, ae]
  refine au 4 rfl (by kernel_rfl) (by kernel_rfl) (by kernel_rfl) rfl (fun w' hw => ah rfl (ev rfl)) (fun _ _ _ h => h) trivial ?_
  simp only [Act.put, aa, ac, ae]
  refine au 5 rfl (by kernel_rfl) (by kernel_rfl) (by kernel_rfl) rfl (fun w' hw => ah rfl (ev rfl)) (fun _ _ _ h => h) trivial ?_
  simp only [Act.put, aa, ac, ae]
  refine au 6 rfl (by kernel_rfl) (by kernel_rfl) (by kernel_rfl) rfl (fun w' hw => exec_build (c := zeroB) (parts := []) rfl rfl) (fun _ _ _ h => h) trivial ?_
  simp only [Act.put, aa, ac, ae]
  refine au 7 rfl (by kernel_rfl) (by kernel_rfl) (by kernel_rfl) rfl (fun w' hw => ao rfl (ev rfl)) (fun _ _ _ h => h) trivial ?_
  simp only [Act.put, aa, ac, ae]
  refine au 8 rfl (by kernel_rfl) (by kernel_rfl) (by kernel_rfl) rfl (fun w' hw => ai rfl (ev rfl) faPln1) (fun _ _ _ h => h) trivial ?_
  simp only [Act.put, aa, ac, ae]
  refine au 11 rfl (by kernel_rfl) (by kernel_rfl) (by kernel_rfl) rfl (fun w' hw => ao rfl (ev rfl)) (fun _ _ _ h => h) trivial ?_
  simp only [Act.put, aa, ac, ae]
  refine au 12 rfl (by kernel_rfl) (by kernel_rfl) (by kernel_rfl) rfl (fun w' hw => ai rfl (ev rfl) faPln2) (fun _ _ _ h => h) trivial ?_
  simp only [Act.put, aa, ac, ae]
  refine au 15 rfl (by kernel_rfl) (by kernel_rfl) (by kernel_rfl) rfl (fun w' hw => ao rfl (ev rfl)) (fun _ _ _ h => h) trivial ?_
  simp only [Act.put, aa, ac, ae]
  refine au 16 rfl (by kernel_rfl) (by kernel_rfl) (by kernel_rfl) rfl (fun w' hw => ai rfl (ev rfl) faPln3) (fun _ _ _ h => h) trivial ?_
  simp only [Act.put, aa, ac, ae]
  refine au 9 rfl (by kernel_rfl) (by kernel_rfl) (by kernel_rfl) rfl (fun w' hw => exec_ix rfl (ev rfl) (ev rfl) (ixPb HK.out)) (fun _ _ _ h => h) trivial ?_
  simp only [Act.put, aa, ac, ae]
  refine bS 10 rfl (by kernel_rfl) rfl (bi rfl (ev rfl) evk (stBo_ HC0.out HF0.out)) trivial ?_
  simp only [Act.put]
  generalize (World.drew w).setCell ⟨p, 1 + k, none⟩ (.bool false) = w1 at *
  have HC1 := Lib.hid (HL1.out.cD HK.out)
  have HF1 := Lib.hid (HL1.out.fz (17 + k))
  have HL2 := Lib.hid (HL1.out.sD HK.out false)
  have HT2 := Lib.hid (HL1.out.t1F HT1.out HBp.out (17 + k) (.bool false))
  refine au 13 rfl (by kernel_rfl) (by kernel_rfl) (by kernel_rfl) rfl (fun w' hw => exec_ix rfl (ev rfl) (ev rfl) (ixPb HK.out)) (fun _ _ _ h => h) trivial ?_
  simp only [Act.put, aa, ac, ae]
  refine bS 14 rfl (by kernel_rfl) rfl (bi rfl (ev rfl) evk (stBo_ HC1.out HF1.out)) trivial ?_
  simp only [Act.put]
  generalize w1.setCell ⟨p, 17 + k, none⟩ (.bool false) = w2 at *
  have HTH := Lib.hid (HL2.out.there (o := 33 + k * 64) (m := 64) (by have := HK.out; omega))
  have HL3 := Lib.hid (HL2.out.sB HK.out zeroB)
  have HT3 := Lib.hid (HL2.out.tnF HT2.out HBp.out (33 + k * 64) (cel zeroB))
  refine au 17 rfl (by kernel_rfl) (by kernel_rfl) (by kernel_rfl) rfl (fun w' hw => exec_ix rfl (ev rfl) (ev rfl) (ixPk HK.out)) (fun _ _ _ h => h) trivial ?_
  simp only [Act.put, aa, ac, ae]
  refine bS 18 rfl (by kernel_rfl) rfl (exec_store rfl (ev rfl) (ev rfl) HTH.out) trivial ?_
  simp only [Act.put]
  generalize w2.setCells p (33 + k * 64) (cel zeroB) = w3 at *
  refine wpAnyH_done (by kernel_rfl) ?_ _
  go_wp2_with fail
  go_ret
  exact ⟨by rw [HE.out]; rfl, ⟨by rw [lf_frg HKL.out]; exact HL3.out, HBp.out, HS.out.frg _⟩, HT3.out⟩
theorem pl_cleanF (w : World) {B : Nat → Prop} {p : Nat} {s : LnS} (h : PLnF w B p s) : Calls Try.prog 24 #[.pointer (some ⟨p, 0, none⟩)] w fun e w' => e = .returned (.int .i64 0) ∧ PLnF w' B p (lnCln s) ∧ aB isPn B w w' := by
  obtain ⟨h, hB, hs⟩ := h
  have HC := Lib.hid (pl_made w true (pl_members w h) (decide_eq_true (by have := hs.lo; show (0 : Int) < (s.l.length : Int); omega)))
  have HL := Lib.hid h
  have HBp := Lib.hid hB
  have HS := Lib.hid hs
  have HTH := Lib.hid (h.there (o := 17) (m := 16) (by omega))
  have HL1 := Lib.hid h.sD0
  have HT1 := Lib.hid (h.tnF (aB.refl isPn B w) hB 17 no16)
  clear h hB hs
  go_enter Try.func24, Try.ntmps24
  go_upto_region 1 with fail
  refine wp_region_lit ?_
  refine af rfl (ah rfl (ev rfl)) ?_
  simp only [Act.put, aa, ac, ae]
  refine aj rfl (ar Try.call37 rfl (evc (ev rfl) evn)) ?_
  refine (HC.out).mono ?_
  rintro e w' ⟨rfl, rfl⟩
  refine ⟨_, rfl, ?_⟩
  simp only [Act.put, aa, ac, ae]
  refine af (v := .bool false) rfl (aG true rfl (ev rfl)) ?_
  simp only [Act.put, aa, ac, ae]
  refine wpList_nil ?_
  go_upto_region 3 with fail
  refine wp_region_lit ?_
  refine af rfl (ah rfl (ev rfl)) ?_
  simp only [Act.put, aa, ac, ae]
  refine af rfl (ah rfl (ev rfl)) ?_
  simp only [Act.put, aa, ac, ae]
  refine af rfl (exec_bld0 rfl run_no16) ?_
  simp only [Act.put, aa, ac, ae]
  refine af rfl (ao rfl (ev rfl)) ?_
  simp only [Act.put, aa, ac, ae]
  refine af rfl (ai rfl (ev rfl) faPln2) ?_
  simp only [Act.put, aa, ac, ae]
  refine aA rfl (exec_put16 rfl (ev rfl) (ev rfl) HTH.out) ?_
  simp only [Act.put, aa, ac, ae]
  generalize w.setCells p 17 no16 = w1 at *
  have HC1 := Lib.hid HL1.out.cF
  have HF1 := Lib.hid (HL1.out.fz 1057)
  have HL2 := Lib.hid (HL1.out.sF 0)
  have HT2 := Lib.hid (HL1.out.t1F HT1.out HBp.out 1057 (.int .u64 0))
  refine af rfl (ao rfl (ev rfl)) ?_
  simp only [Act.put, aa, ac, ae]
  refine af rfl (ai rfl (ev rfl) faPln4) ?_
  simp only [Act.put, aa, ac, ae]
  refine aA rfl (bi rfl (ev rfl) evk (stU64_ HC1.out HF1.out)) ?_
  simp only [Act.put, aa, ac, ae]
  generalize w1.setCell ⟨p, 1057, none⟩ (.int .u64 0) = w2 at *
  refine wpList_nil ?_
  go_wp2_with fail
  go_ret
  exact ⟨rfl, ⟨by rw [lf_cln]; exact HL2.out, HBp.out, HS.out.cln⟩, HT2.out⟩
open Go.Maps (Keyed)
theorem zeroPL (w : World) : (zeroValue 68).run Try.prog w = .ok (.pointer none) w := by kernel_rfl
section
variable {w w' : World} {b N : Nat} {M : Int → Option Nat} {k : Int}
theorem a8.lookL (h : a8 w b N M) (hw : (Lit.int .i64 k).wf = true) : (Instr.lookup 37 (.map (some b)) (.int .i64 k) false).run Try.prog w = .ok (ptO (M k)) w := by
  obtain ⟨D, h1, _, h3⟩ := h
  obtain ⟨v, ps, hr, hv⟩ := h1.lookup bI Try.underlying37 (zeroPL w) (zd := .nil) (zp := []) rfl (keyI hw)
  rw [(h3 k hw).1] at hv
  rw [hr, ptR_inv hv]
theorem a8.storeL (h : a8 w b N M) (hw : (Lit.int .i64 k).wf = true) (hn : M k = none) (hN : N < maxLen) (q : Nat) :
    ∃ w', (Instr.mapUpdate 37 (.map (some b)) (.int .i64 k) (.pointer (some ⟨q, 0, none⟩))).run Try.prog w = .ok () w' ∧ a8 w' b (N + 1) (fun j => if j = k then some q else M j) ∧ w.mapTurned w' b := by
  obtain ⟨D, h1, h2, h3⟩ := h
  obtain ⟨w', hr, ho, ht⟩ := h1.store bI Try.underlying37 hN (keyI hw) (ptR_of (some q))
  have hT := h1.tidy bI
  have hk : WideAt.IsKeyLit (Lit.int .i64 k) := bI.key (keyI hw)
  have hs : Maps.size (D.put (.int .i64 k) (ptD (some q))) = N + 1 := by
    rw [Maps.size_put hT, (h3 k hw).2, hn, h2]; rfl
  refine ⟨w', hr, ⟨_, by rw [← hs]; exact own_size ho, hs, fun j hj => ?_⟩, ht⟩
  by_cases e : j = k
  · subst e
    dsimp only
    rw [if_pos rfl, Maps.atKey_put_same hT.isMap hk, Maps.has_put_same hT.isMap hk]
    exact ⟨rfl, rfl⟩
  · dsimp only
    rw [if_neg e, Maps.atKey_put_other (lit_ne e), Maps.has_put_other (lit_ne e)]
    exact h3 j hj
theorem a8.delL (h : a8 w b (N + 1) M) (hw : (Lit.int .i64 k).wf = true) (hn : (M k).isSome = true) (ty : TypeId) :
    ∃ w', (Builtin.delete_ #[37, 3] ty #[.map (some b), .int .i64 k]).run Try.prog w = .ok (.tuple #[]) w' ∧ a8 w' b N (fun j => if j = k then none else M j) ∧ w.mapTurned w' b := by
  obtain ⟨D, h1, h2, h3⟩ := h
  obtain ⟨w', hr, ho, ht⟩ := h1.drop bI Try.underlying37 (keyI hw) ty
  have hT := h1.tidy bI
  have hs : Maps.size (D.del (.int .i64 k)) = N := by
    have := Maps.size_del (k := .int .i64 k) hT
    rw [(h3 k hw).2, hn, h2] at this
    simpa using this
  refine ⟨w', hr, ⟨_, by rw [← hs]; exact own_size ho, hs, fun j hj => ?_⟩, ht⟩
  by_cases e : j = k
  · subst e
    dsimp only
    rw [if_pos rfl, Maps.atKey_del_same, Maps.has_del_same]
    exact ⟨rfl, rfl⟩
  · dsimp only
    rw [if_neg e, Maps.atKey_del_other (lit_ne e), Maps.has_del_other (lit_ne e)]
    exact h3 j hj
end
theorem bK {w w' : World} {b : Nat} {F : Nat → Prop} (h : w.mapTurned w' b) (hF : F b) : Only F w w' := by
  have hg := h.grown
  obtain ⟨es, c, es', c', hb, e⟩ := h
  exact Only.grown (Only.refl _ _) hg fun j hj => by injection hj with hj; subst hj; exact .inl hF
def shC (N T : Nat) (r : Int) (lp mp : Nat) : List Value := [.int .i64 (N : Int), .int .i64 (T : Int), .int .i64 r, ptB lp, .map (some mp)]
def PlAt (w : World) : Option Nat → Option LnS → Prop
  | none, none => True
  | some b, some x => LnA w b (lf x) ∧ LnOk x
  | _, _ => False
def mLn (m : Nat → Option Nat) (k : Int) : Option Nat := if 0 ≤ k then m k.toNat else none
structure PRu (w : World) (t lp mp : Nat) (FL : Nat → Prop) (L : List Ky) (c : Nat) (m : Nat → Option Nat) (ln : Nat → Option LnS) (N T room : Nat) (r : Int) : Prop where
  at_ : w.heap[t]? = some (.cells (shC N T r lp mp).toArray 39 (0, 0))
  li : PLF w FL lp room L
  map : a8 w mp c (mLn m)
  ln : ∀ n, PlAt w (m n) (ln n)
  inj : ∀ i j b, m i = some b → m j = some b → i = j
  ap : ¬ FL t ∧ ¬ FL mp ∧ ∀ n b, m n = some b → ¬ FL b
  lt : ∀ b, FL b → b < w.heap.size
  may : geoB (gx N T r) = true
def ftPs (t mp : Nat) (FL : Nat → Prop) (m : Nat → Option Nat) (b : Nat) : Prop := b = t ∨ b = mp ∨ FL b ∨ ∃ n, m n = some b
def PSh (w : World) (S : Nat → Prop) (t K : Nat) (s : ShS) : Prop := ∃ lp mp FL m r, PRu w t lp mp FL (kyL s.dty s.o) s.o.length m s.ln s.N s.T s.room r ∧ ShOk s ∧ S = ftPs t mp FL m
section
variable {w w' : World} {G FL : Nat → Prop} {a : Option Nat} {x : Option LnS}
theorem PlAt.only (h : PlAt w a x) (hk : Only G w w') (hG : ∀ b, a = some b → ¬ G b) : PlAt w' a x := by
  cases a <;> cases x
  · exact h
  · exact h
  · exact h
  · exact ⟨Only.keep hk h.1 (hG _ rfl), h.2⟩
theorem PlAt.some_ {y : LnS} (h : PlAt w a (some y)) : ∃ b, a = some b ∧ LnA w b (lf y) ∧ LnOk y := by
  cases a
  · exact h.elim
  · exact ⟨_, rfl, h.1, h.2⟩
theorem PlAt.none_ (h : PlAt w a none) : a = none := by
  cases a
  · rfl
  · exact h.elim
end
section
variable {w w' : World} {t lp mp c N T room n b : Nat} {FL G FL' : Nat → Prop} {L L' : List Ky} {m : Nat → Option Nat} {ln : Nat → Option LnS} {r : Int}
theorem PRu.rng (h : PRu w t lp mp FL L c m ln N T room r) : w.rangeAt t 0 (shC N T r lp mp) := aL h.at_
theorem PRu.c0 (h : PRu w t lp mp FL L c m ln N T room r) : w.cell? ⟨t, 0, none⟩ = some (.int .i64 (N : Int)) := h.rng 0 _ rfl
theorem PRu.c3 (h : PRu w t lp mp FL L c m ln N T room r) : w.cell? ⟨t, 3, none⟩ = some (ptB lp) := h.rng 3 _ rfl
theorem PRu.c4 (h : PRu w t lp mp FL L c m ln N T room r) : w.cell? ⟨t, 4, none⟩ = some (.map (some mp)) := h.rng 4 _ rfl
theorem PRu.geo (h : PRu w t lp mp FL L c m ln N T room r) : w.rangeAt t 0 [.int .i64 (N : Int), .int .i64 (T : Int), .int .i64 r] := rng_sub (k := 0) (ds := []) (es := [.int .i64 (N : Int), .int .i64 (T : Int), .int .i64 r]) (fs := [ptB lp, .map (some mp)]) h.rng rfl rfl
theorem PRu.mapo (h : PRu w t lp mp FL L c m ln N T room r) : ∃ es q, w.heap[mp]? = some (.map es q) := h.map.obj
theorem PRu.lnb (h : PRu w t lp mp FL L c m ln N T room r) (hn : m n = some b) : ∃ y, ln n = some y ∧ LnA w b (lf y) ∧ LnOk y := by
  have := h.ln n
  rw [hn] at this
  cases e : ln n with
  | none => rw [e] at this; exact this.elim
  | some y => rw [e] at this; exact ⟨y, rfl, this.1, this.2⟩
theorem PRu.ne (h : PRu w t lp mp FL L c m ln N T room r) : t ≠ mp ∧ ∀ n b, m n = some b → b ≠ t ∧ b ≠ mp := by
  obtain ⟨es, q, hm⟩ := h.mapo
  refine ⟨fun e => ?_, fun n b hn => ⟨fun e => ?_, fun e => ?_⟩⟩
  · have ha := h.at_
    rw [e, hm] at ha
    cases ha
  · obtain ⟨y, _, hy, _⟩ := h.lnb hn
    have ha := h.at_
    unfold LnA at hy
    rw [e, ha] at hy
    injection hy with hy
    injection hy with _ hy
    exact absurd hy (by decide)
  · obtain ⟨y, _, hy, _⟩ := h.lnb hn
    unfold LnA at hy
    rw [e, hm] at hy
    cases hy
theorem PRu.size (h : PRu w t lp mp FL L c m ln N T room r) : ∀ b, ftPs t mp FL m b → b < w.heap.size := by
  intro b hb
  rcases hb with rfl | rfl | hb | ⟨n, hb⟩
  · exact bN h.at_
  · exact h.map.lt
  · exact h.lt b hb
  · obtain ⟨y, _, hy, _⟩ := h.lnb hb; exact hy.lt
theorem PRu.only (h : PRu w t lp mp FL L c m ln N T room r) (hk : Only G w w') (hG : ∀ b, ftPs t mp FL m b → ¬ G b) : PRu w' t lp mp FL L c m ln N T room r :=
  ⟨Only.keep hk h.at_ (hG t (.inl rfl)), h.li.only hk fun b hb => hG b (.inr (.inr (.inl hb))), h.map.kept fun es q hb => Only.keep hk hb (hG mp (.inr (.inl rfl))), fun n => (h.ln n).only hk fun b hb => hG b (.inr (.inr (.inr ⟨n, hb⟩))), h.inj, h.ap, fun b hb => Nat.lt_of_lt_of_le (h.lt b hb) hk.size, h.may⟩
theorem PRu.below (h : PRu w t lp mp FL L c m ln N T room r) (hb : Below w.heap.size w w') : PRu w' t lp mp FL L c m ln N T room r := h.only (Only.of_below (fun _ => False) hb) fun _ _ e => e
theorem PRu.list (h : PRu w t lp mp FL L c m ln N T room r) (hk : Only FL w w') (hl : PLF w' FL' lp room L') (hF : ∀ b, FL' b → FL b ∨ w.heap.size ≤ b) (ht : ∀ b, FL' b → b < w'.heap.size) : PRu w' t lp mp FL' L' c m ln N T room r := by
  have hs := h.size
  have no : ∀ b, ftPs t mp FL m b → ¬ FL b → ¬ FL' b := fun b hb hn hb' => by
    rcases hF b hb' with e | e
    · exact hn e
    · have := hs b hb; omega
  exact ⟨Only.keep hk h.at_ h.ap.1, hl, h.map.kept fun es q hb => Only.keep hk hb h.ap.2.1, fun n => (h.ln n).only hk fun b hb => h.ap.2.2 n b hb, h.inj, ⟨no t (.inl rfl) h.ap.1, no mp (.inr (.inl rfl)) h.ap.2.1, fun n b hb => no b (.inr (.inr (.inr ⟨n, hb⟩))) (h.ap.2.2 n b hb)⟩, ht, h.may⟩
theorem PRu.line {y : LnS} (h : PRu w t lp mp FL L c m ln N T room r) (hn : m n = some b) (hk : Only (fun j => j = b) w w') (hl : LnA w' b (lf y)) (hy : LnOk y) : PRu w' t lp mp FL L c m (fun j => if j = n then some y else ln j) N T room r := by
  obtain ⟨h1, h2⟩ := h.ne
  obtain ⟨n1, n2⟩ := h2 n b hn
  refine ⟨Only.keep hk h.at_ fun e => n1 e.symm, h.li.only hk fun j hj e => h.ap.2.2 n b hn (by rw [← e]; exact hj), h.map.kept fun es q hb => Only.keep hk hb fun e => n2 e.symm, fun j => ?_, h.inj, h.ap, fun j hj => Nat.lt_of_lt_of_le (h.lt j hj) hk.size, h.may⟩
  try dsimp only
  by_cases e : j = n
  · subst e; rw [if_pos rfl, hn]; exact ⟨hl, hy⟩
  · rw [if_neg e]; exact (h.ln j).only hk fun b' hb' e2 => e (h.inj j n b (by rw [← e2]; exact hb') hn)
theorem PRu.del (h : PRu w t lp mp FL L (c + 1) m ln N T room r) (hk : w.mapTurned w' mp) (hm : a8 w' mp c (fun j => if j = (n : Int) then none else mLn m j)) : PRu w' t lp mp FL L c (fun j => if j = n then none else m j) (fun j => if j = n then none else ln j) N T room r := by
  obtain ⟨h1, h2⟩ := h.ne
  have ho := bK (F := fun j => j = mp) hk rfl
  have e : (fun j => if j = (n : Int) then none else mLn m j) = mLn (fun j => if j = n then none else m j) := funext fun j => by
    unfold mLn
    by_cases h0 : 0 ≤ j
    · rw [if_pos h0, if_pos h0]
      try dsimp only
      by_cases e : j = (n : Int)
      · rw [if_pos e, if_pos (by omega)]
      · rw [if_neg e, if_neg (by omega)]
    · rw [if_neg h0, if_neg h0, if_neg (by omega)]
  refine ⟨Only.keep ho h.at_ h1, h.li.only ho fun j hj e => h.ap.2.1 (by rw [← e]; exact hj), by rw [← e]; exact hm, fun j => ?_, fun i j b hi hj => ?_, ⟨h.ap.1, h.ap.2.1, fun j b hj => ?_⟩, fun j hj => Nat.lt_of_lt_of_le (h.lt j hj) ho.size, h.may⟩
  · try dsimp only
    by_cases e : j = n
    · rw [if_pos e, if_pos e]; trivial
    · rw [if_neg e, if_neg e]; exact (h.ln j).only ho fun b hb e2 => (h2 j b hb).2 e2
  · try dsimp only at hi hj
    by_cases e : i = n
    · rw [if_pos e] at hi; cases hi
    · by_cases e' : j = n
      · rw [if_pos e'] at hj; cases hj
      · rw [if_neg e] at hi; rw [if_neg e'] at hj; exact h.inj i j b hi hj
  · try dsimp only at hj
    by_cases e : j = n
    · rw [if_pos e] at hj; cases hj
    · rw [if_neg e] at hj; exact h.ap.2.2 j b hj
theorem PRu.add {y : LnS} (h : PRu w t lp mp FL L c m ln N T room r) (hn : m n = none) (hb : LnA w b (lf y)) (hy : LnOk y) (hF : ¬ FL b) (hmb : ∀ j, m j ≠ some b) (hk : w.mapTurned w' mp) (hm : a8 w' mp (c + 1) (fun j => if j = (n : Int) then some b else mLn m j)) : PRu w' t lp mp FL L (c + 1) (fun j => if j = n then some b else m j) (fun j => if j = n then some y else ln j) N T room r := by
  obtain ⟨h1, h2⟩ := h.ne
  have ho := bK (F := fun j => j = mp) hk rfl
  have e : (fun j => if j = (n : Int) then some b else mLn m j) = mLn (fun j => if j = n then some b else m j) := funext fun j => by
    unfold mLn
    by_cases h0 : 0 ≤ j
    · rw [if_pos h0, if_pos h0]
      try dsimp only
      by_cases e : j = (n : Int)
      · rw [if_pos e, if_pos (by omega)]
      · rw [if_neg e, if_neg (by omega)]
    · rw [if_neg h0, if_neg h0, if_neg (by omega)]
  have hbm : b ≠ mp := fun e => by
    obtain ⟨es, q, hq⟩ := h.mapo
    unfold LnA at hb
    rw [e, hq] at hb
    cases hb
  refine ⟨Only.keep ho h.at_ h1, h.li.only ho fun j hj e => h.ap.2.1 (by rw [← e]; exact hj), by rw [← e]; exact hm, fun j => ?_, fun i j b' hi hj => ?_, ⟨h.ap.1, h.ap.2.1, fun j b' hj => ?_⟩, fun j hj => Nat.lt_of_lt_of_le (h.lt j hj) ho.size, h.may⟩
  · try dsimp only
    by_cases e : j = n
    · rw [if_pos e, if_pos e]; exact ⟨Only.keep ho hb hbm, hy⟩
    · rw [if_neg e, if_neg e]; exact (h.ln j).only ho fun b hb e2 => (h2 j b hb).2 e2
  · try dsimp only at hi hj
    by_cases e : i = n
    · rw [if_pos e] at hi
      by_cases e' : j = n
      · omega
      · rw [if_neg e'] at hj; cases hi; exact absurd hj (hmb j)
    · rw [if_neg e] at hi
      by_cases e' : j = n
      · rw [if_pos e'] at hj; cases hj; exact absurd hi (hmb i)
      · rw [if_neg e'] at hj; exact h.inj i j b' hi hj
  · try dsimp only at hj
    by_cases e : j = n
    · rw [if_pos e] at hj; cases hj; exact hF
    · rw [if_neg e] at hj; exact h.ap.2.2 j b' hj
end
end Go.Proofs.Ytdmhelalbemlcaa
