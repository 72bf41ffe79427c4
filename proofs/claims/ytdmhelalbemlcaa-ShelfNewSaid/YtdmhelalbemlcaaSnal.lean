import Derived.Test.YtdmhelalbemlcaaSnak
import Derived.Test.YtdmhelalbemlcaaSnab
import Derived.Test.YtdmhelalbemlcaaSnac
import Derived.Test.YtdmhelalbemlcaaSnZ
namespace Go.Proofs.Ytdmhelalbemlcaa
open Go.RowKit
set_option linter.unusedVariables false
set_option linter.unusedSimpArgs false
set_option maxRecDepth 100000
def shZ : List Value := [.int .i64 0, .int .i64 0, .int .i64 0, .pointer none, .map none]
def NoSh (w : World) (v : Value) : Prop := v = .pointer none ∨ ∃ p, v = .pointer (some ⟨p, 0, none⟩) ∧ w.heap[p]? = some (.cells shZ.toArray 39 (0, 0))
theorem NoSh.below {w w' : World} {v : Value} (h : NoSh w v) (hb : Below w.heap.size w w') : NoSh w' v := by
  rcases h with h | ⟨p, h, h1⟩
  · exact .inl h
  · exact .inr ⟨p, h, aw h1 hb⟩
theorem run_bldSh0 (w : World) : (Instr.build 39 #[]).run Try.prog w = .ok (.agg shZ.toArray) w := by kernel_rfl
theorem pz_made (w : World) {v : Value} (h : NoSh w v) : Calls Try.prog 26 #[v] w fun e w' => e = .returned (.bool false) ∧ w = w' := by
  rcases h with rfl | ⟨p, rfl, h⟩
  · go_enter Try.func26, Try.ntmps26
    go_upto_region 1 with fail
    refine wp_region_lit ?_
    refine af rfl (ah rfl (ev rfl)) ?_
    simp only [Act.put, aa, ac, ae]
    refine af (v := .bool false) rfl (bb false Try.underlying24 rfl (ev rfl) evk rfl) ?_
    simp only [Act.put, aa, ac, ae]
    refine bu 5 (v := .bool false) rfl (ah rfl (ev rfl)) (by kernel_rfl) ?_
    simp only [bO, List.take_succ_cons, List.take_zero, List.drop_succ_cons, List.drop_zero, Act.put, List.setIfInBounds_toArray, List.set_cons_succ, List.set_cons_zero]
    refine af (v := .bool false) rfl (bw rfl (ev rfl) evk) ?_
    simp only [Act.put, aa, ac, ae]
    refine af (v := .bool false) rfl (al rfl (ev rfl)) ?_
    simp only [Act.put, aa, ac, ae]
    refine wpList_nil ?_
    go_wp2_with fail
    go_ret
    exact ⟨rfl, rfl⟩
  · have HP := Lib.hid h
    clear h
    go_enter Try.func26, Try.ntmps26
    go_upto_region 1 with fail
    refine wp_region_lit ?_
    refine af rfl (ah rfl (ev rfl)) ?_
    simp only [Act.put, aa, ac, ae]
    refine af (v := .bool true) rfl (bb true Try.underlying24 rfl (ev rfl) evk rfl) ?_
    simp only [Act.put, aa, ac, ae]
    refine af (v := .bool true) rfl (ah rfl (ev rfl)) ?_
    simp only [Act.put, aa, ac, ae]
    refine ak (am rfl rfl rfl rfl) (ah rfl (ev rfl)) ?_
    simp only [Act.put, aa, ac, ae]
    refine ak (am rfl rfl rfl rfl) (ao rfl (ev rfl)) ?_
    simp only [Act.put, aa, ac, ae]
    refine ak (am rfl rfl rfl rfl) (ai rfl (ev rfl) faSq2) ?_
    simp only [Act.put, aa, ac, ae]
    refine ak (am rfl rfl rfl rfl) (aq rfl (ev rfl) (ldMl (aL HP.out 4 _ rfl))) ?_
    simp only [Act.put, aa, ac, ae]
    refine ak (v := .bool false) (am rfl rfl rfl rfl) (exec_neMap false Try.underlying37 rfl (ev rfl) evk rfl) ?_
    simp only [Act.put, aa, ac, ae]
    refine af (v := .bool false) rfl (aY rfl (ev rfl) (ev rfl)) ?_
    simp only [Act.put, aa, ac, ae]
    refine af (v := .bool false) rfl (al rfl (ev rfl)) ?_
    simp only [Act.put, aa, ac, ae]
    refine wpList_nil ?_
    go_wp2_with fail
    go_ret
    exact ⟨rfl, rfl⟩
theorem pz_stripes (w : World) (v : Value) (h : NoSh w v) : Calls Try.prog 19 #[v] w fun e w' => e = .returned (.slice none 0 0) ∧ w = w' := by
  have H := Lib.hid h
  clear h
  go_enter Try.func19, Try.ntmps19
  go_upto_region 1 with fail
  refine wp_region_lit ?_
  refine af rfl (ah rfl (ev rfl)) ?_
  simp only [Act.put, aa, ac, ae]
  refine aj rfl (ar Try.call26 rfl (evc (ev rfl) evn)) ?_
  refine (pz_made w H.out).mono ?_
  rintro e w' ⟨rfl, rfl⟩
  refine ⟨_, rfl, ?_⟩
  simp only [Act.put, aa, ac, ae]
  refine af (v := .bool true) rfl (aG false rfl (ev rfl)) ?_
  simp only [Act.put, aa, ac, ae]
  refine wpList_nil ?_
  go_wp2_with fail
  go_ret
  exact ⟨rfl, rfl⟩
theorem pz_dirty (w : World) (v : Value) (h : NoSh w v) : Calls Try.prog 13 #[v] w fun e w' => e = .returned (.slice none 0 0) ∧ Below w.heap.size w w' := by
  have H := Lib.hid h
  clear h
  go_enter Try.func13, Try.ntmps13
  go_upto_region 2 with fail
  refine wp_region_lit ?_
  refine af rfl (ah rfl (ev rfl)) ?_
  simp only [Act.put, aa, ac, ae]
  refine aj rfl (ar Try.call19 rfl (evc (ev rfl) evn)) ?_
  refine (pz_stripes w v H.out).mono ?_
  rintro e w' ⟨rfl, rfl⟩
  refine ⟨_, rfl, ?_⟩
  simp only [Act.put, aa, ac, ae]
  refine af rfl (br aH rfl (ev rfl)) ?_
  simp only [Act.put, aa, ac, ae]
  refine af rfl (ah rfl evk) ?_
  simp only [Act.put, aa, ac, ae]
  refine wpList_nil ?_
  go_wp2_with fail
  go_loopw [3, 5, 9] (fun z u c wr => c = .int .i64 0 ∧ z = .slice none 0 0 ∧ wr = w) (fun _ _ _ _ => 0)
  case atStart => exact ⟨rfl, rfl, rfl⟩
  case round =>
    obtain ⟨rfl, rfl, rfl⟩ := hrel
    go_upto_region 3 with fail
    refine wp_region_lit ?_
    refine af (v := .bool false) rfl (aC false rfl (ev rfl) (ev rfl) (by decide)) ?_
    simp only [Act.put, aa, ac, ae]
    refine wpList_nil ?_
    go_upto_region 8 with fail
    refine wp_region_lit ?_
    refine af rfl (ah rfl (ev rfl)) ?_
    simp only [Act.put, aa, ac, ae]
    refine aj rfl (ar Try.call21 rfl (evc (ev rfl) evn)) ?_
    refine (sort_any (l := []) (ax.nil wr wr.heap.size) (Nat.le_refl _) (by decide)).mono ?_
    rintro e w2 ⟨rfl, _, b2⟩
    have HB := Lib.hid b2
    clear b2
    refine ⟨_, rfl, ?_⟩
    simp only [Act.put, aa, ac, ae]
    refine wpList_nil ?_
    go_upto_region 9 with fail
    refine wp_region_lit ?_
    refine af rfl (ah rfl (ev rfl)) ?_
    simp only [Act.put, aa, ac, ae]
    refine af rfl (al rfl (ev rfl)) ?_
    simp only [Act.put, aa, ac, ae]
    refine wpList_nil ?_
    go_wp2_with fail
    go_ret
    exact ⟨rfl, HB.out⟩
theorem pz_first (w : World) (v : Value) (h : NoSh w v) : Calls Try.prog 14 #[v] w fun e w' => e = .returned (.int .u64 0) ∧ Below w.heap.size w w' := by
  have H := Lib.hid h
  clear h
  go_enter Try.func14, Try.ntmps14
  go_upto_region 2 with fail
  refine wp_region_lit ?_
  refine af rfl (ah rfl (ev rfl)) ?_
  simp only [Act.put, aa, ac, ae]
  refine aj rfl (ar Try.call13 rfl (evc (ev rfl) evn)) ?_
  refine (pz_dirty w v H.out).mono ?_
  rintro e w1 ⟨rfl, b1⟩
  have HB := Lib.hid b1
  clear b1
  refine ⟨_, rfl, ?_⟩
  simp only [Act.put, aa, ac, ae]
  refine af rfl (br aH rfl (ev rfl)) ?_
  simp only [Act.put, aa, ac, ae]
  refine af rfl (ah rfl evk) ?_
  simp only [Act.put, aa, ac, ae]
  refine wpList_nil ?_
  go_wp2_with fail
  go_loopw [3, 5, 6, 10] (fun z u v c wr => c = .int .i64 0 ∧ z = .int .u64 0 ∧ wr = w1) (fun _ _ _ _ _ => 0)
  case atStart => exact ⟨rfl, rfl, rfl⟩
  case round =>
    obtain ⟨rfl, rfl, rfl⟩ := hrel
    go_upto_region 3 with fail
    refine wp_region_lit ?_
    refine af (v := .bool false) rfl (aC false rfl (ev rfl) (ev rfl) (by decide)) ?_
    simp only [Act.put, aa, ac, ae]
    refine wpList_nil ?_
    go_wp2_with fail
    go_ret
    exact ⟨rfl, HB.out⟩
theorem pz_may (w : World) (v : Value) (n : Int) (h : NoSh w v) : Calls Try.prog 23 #[v, .int .i64 n] w fun e w' => e = .returned (.int .i64 1) ∧ w = w' := by
  have H := Lib.hid h
  clear h
  go_enter Try.func23, Try.ntmps23
  go_upto_region 1 with fail
  refine wp_region_lit ?_
  refine af rfl (ah rfl (ev rfl)) ?_
  simp only [Act.put, aa, ac, ae]
  refine aj rfl (ar Try.call26 rfl (evc (ev rfl) evn)) ?_
  refine (pz_made w H.out).mono ?_
  rintro e w' ⟨rfl, rfl⟩
  refine ⟨_, rfl, ?_⟩
  simp only [Act.put, aa, ac, ae]
  refine af (v := .bool true) rfl (aG false rfl (ev rfl)) ?_
  simp only [Act.put, aa, ac, ae]
  refine af (v := .bool true) rfl (al rfl (ev rfl)) ?_
  simp only [Act.put, aa, ac, ae]
  refine wpList_nil ?_
  go_wp2_with fail
  go_ret
  exact ⟨rfl, rfl⟩
theorem pz_clean (w : World) (v : Value) (n : Int) (h : NoSh w v) : Calls Try.prog 15 #[v, .int .i64 n] w fun e w' => e = .returned (.int .i64 1) ∧ Below w.heap.size w w' := by
  have H := Lib.hid h
  clear h
  go_enter Try.func15, Try.ntmps15
  go_upto_region 1 with fail
  refine wp_region_lit ?_
  refine af rfl (ah rfl (ev rfl)) ?_
  simp only [Act.put, aa, ac, ae]
  refine af rfl (ah rfl (ev rfl)) ?_
  simp only [Act.put, aa, ac, ae]
  refine aj rfl (ar Try.call23 rfl (evc (ev rfl) (evc (ev rfl) evn))) ?_
  refine (pz_may w v n H.out).mono ?_
  rintro e w' ⟨rfl, rfl⟩
  refine ⟨_, rfl, ?_⟩
  simp only [Act.put, aa, ac, ae]
  refine af rfl (al rfl (ev rfl)) ?_
  simp only [Act.put, aa, ac, ae]
  refine wpList_nil ?_
  go_upto_region 2 with fail
  refine wp_region_lit ?_
  refine af rfl (ah rfl (ev rfl)) ?_
  simp only [Act.put, aa, ac, ae]
  refine af (v := .bool true) rfl (aE true rfl (ev rfl) evk rfl) ?_
  simp only [Act.put, aa, ac, ae]
  refine wpList_nil ?_
  go_upto_region 3 with fail
  refine wp_region_lit ?_
  refine af rfl (ah rfl (ev rfl)) ?_
  simp only [Act.put, aa, ac, ae]
  refine af rfl (al rfl (ev rfl)) ?_
  simp only [Act.put, aa, ac, ae]
  refine wpList_nil ?_
  go_wp2_with fail
  go_ret
  exact ⟨rfl, Below.refl _ _⟩
theorem pz_mayPut (w : World) (v : Value) (Q : Nat) (h : NoSh w v) : Calls Try.prog 16 #[v, .int .u64 (Q : Int), .slice none 0 0] w fun e w' => e = .returned (.int .i64 1) ∧ w = w' := by
  have H := Lib.hid h
  clear h
  go_enter Try.func16, Try.ntmps16
  go_upto_region 1 with fail
  refine wp_region_lit ?_
  refine af rfl (ah rfl (ev rfl)) ?_
  simp only [Act.put, aa, ac, ae]
  refine aj rfl (ar Try.call26 rfl (evc (ev rfl) evn)) ?_
  refine (pz_made w H.out).mono ?_
  rintro e w' ⟨rfl, rfl⟩
  refine ⟨_, rfl, ?_⟩
  simp only [Act.put, aa, ac, ae]
  refine af (v := .bool true) rfl (aG false rfl (ev rfl)) ?_
  simp only [Act.put, aa, ac, ae]
  refine af (v := .bool true) rfl (al rfl (ev rfl)) ?_
  simp only [Act.put, aa, ac, ae]
  refine wpList_nil ?_
  go_wp2_with fail
  go_ret
  exact ⟨rfl, rfl⟩
theorem pz_put (w : World) (v : Value) (Q : Nat) (h : NoSh w v) : Calls Try.prog 11 #[v, .int .u64 (Q : Int), .slice none 0 0] w fun e w' => e = .returned (.int .i64 1) ∧ Below w.heap.size w w' := by
  have H := Lib.hid h
  clear h
  go_enter Try.func11, Try.ntmps11
  go_upto_region 1 with fail
  refine wp_region_lit ?_
  refine af rfl (ah rfl (ev rfl)) ?_
  simp only [Act.put, aa, ac, ae]
  refine af rfl (ah rfl (ev rfl)) ?_
  simp only [Act.put, aa, ac, ae]
  refine af rfl (ah rfl (ev rfl)) ?_
  simp only [Act.put, aa, ac, ae]
  refine aj rfl (ar Try.call16 rfl (evc (ev rfl) (evc (ev rfl) (evc (ev rfl) evn)))) ?_
  refine (pz_mayPut w v Q H.out).mono ?_
  rintro e w' ⟨rfl, rfl⟩
  refine ⟨_, rfl, ?_⟩
  simp only [Act.put, aa, ac, ae]
  refine af rfl (al rfl (ev rfl)) ?_
  simp only [Act.put, aa, ac, ae]
  refine wpList_nil ?_
  go_upto_region 2 with fail
  refine wp_region_lit ?_
  refine af rfl (ah rfl (ev rfl)) ?_
  simp only [Act.put, aa, ac, ae]
  refine af (v := .bool true) rfl (aE true rfl (ev rfl) evk rfl) ?_
  simp only [Act.put, aa, ac, ae]
  refine wpList_nil ?_
  go_upto_region 3 with fail
  refine wp_region_lit ?_
  refine af rfl (ah rfl (ev rfl)) ?_
  simp only [Act.put, aa, ac, ae]
  refine af rfl (al rfl (ev rfl)) ?_
  simp only [Act.put, aa, ac, ae]
  refine wpList_nil ?_
  go_wp2_with fail
  go_ret
  exact ⟨rfl, Below.refl _ _⟩
theorem pz_fits (w : World) (v : Value) (h : NoSh w v) : Calls Try.prog 28 #[v, .slice none 0 0] w fun e w' => e = .returned (.bool false) ∧ Below w.heap.size w w' := by
  have H := Lib.hid h
  clear h
  go_enter Try.func28, Try.ntmps28
  go_upto_region 1 with fail
  refine wp_region_lit ?_
  refine af rfl (ah rfl (ev rfl)) ?_
  simp only [Act.put, aa, ac, ae]
  refine aj rfl (ar Try.call26 rfl (evc (ev rfl) evn)) ?_
  refine (pz_made w H.out).mono ?_
  rintro e w' ⟨rfl, rfl⟩
  refine ⟨_, rfl, ?_⟩
  simp only [Act.put, aa, ac, ae]
  refine af (v := .bool true) rfl (aG false rfl (ev rfl)) ?_
  simp only [Act.put, aa, ac, ae]
  refine wpList_nil ?_
  go_wp2_with fail
  go_ret
  exact ⟨rfl, Below.refl _ _⟩
theorem PSh.only_ {F S : Nat → Prop} {w w' : World} {t K : Nat} {s : ShS} (h : PSh w S t K s) (hk : Only F w w') (hF : ∀ b, S b → ¬ F b) : PSh w' S t K s := by
  obtain ⟨lp, mp, FL, m, r, h1, h2, rfl⟩ := h
  exact ⟨lp, mp, FL, m, r, h1.only hk hF, h2, rfl⟩
theorem keyL_strs (s : ShS) : keyL (kyL s.dty s.o) = s.strs := kyL_key
def thePr : ShPr where
  P := PSh
  lt := fun h => h.lt
  only := fun h k n => h.only_ k n
  more := fun h _ => h
  ok := fun h => h.x.ok
  new_ok := fun w hg h1 h2 => ps_new w hg h1 h2
  new_no := fun x room w h => ps_new_no x room w h
  put := fun h hQ hK hc hcn _ _ hA => (ps_put h hQ (by omega) hc hcn hA).mono fun e w' ⟨k0, k1⟩ => ⟨k0, k1.res _⟩
  clean := fun n h => (ps_clean n h).mono fun e w' ⟨k0, k1⟩ => ⟨k0, k1.res _⟩
  fits := fun h hl hwf _ _ hb => by
    have hok := h.x.ok
    obtain ⟨lp, mp, FL, m, r, h1, _, _⟩ := h
    exact ps_Fits h1 hok hl hwf hb
  aW := fun h => by
    have hok := h.x.ok
    obtain ⟨lp, mp, FL, m, r, h1, _, _⟩ := h
    exact ps_Dirty h1 hok
  stripes := fun {w S t K s} h => by
    obtain ⟨lp, mp, FL, m, r, h1, _, _⟩ := h
    have := ps_Stripes h1
    rw [keyL_strs] at this
    exact this
  first := fun h _ => by
    have hok := h.x.ok
    obtain ⟨lp, mp, FL, m, r, h1, _, _⟩ := h
    exact ps_First h1 hok
  No := NoSh
  zc := shZ
  no_nil := fun w => .inl rfl
  bld0 := fun w => run_bldSh0 w
  no_zero := fun w => .inr ⟨_, rfl, heap_alloc_new w _⟩
  no_below := fun h hb => h.below hb
  no_put := fun w v Q h => pz_put w v Q h
  no_clean := fun w v n h => pz_clean w v n h
  no_fits := fun w v h => pz_fits w v h
  no_dirty := fun w v h => (pz_dirty w v h).mono fun e w' ⟨k0, k1⟩ => ⟨⟨_, _, k0⟩, k1⟩
  no_stripes := fun w v h => (pz_stripes w v h).mono fun e w' ⟨k0, k1⟩ => ⟨⟨_, _, k0⟩, by subst k1; exact Below.refl _ _⟩
  no_first := fun w v h => pz_first w v h
end Go.Proofs.Ytdmhelalbemlcaa
