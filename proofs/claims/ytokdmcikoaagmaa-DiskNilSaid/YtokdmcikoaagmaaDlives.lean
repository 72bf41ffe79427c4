/-
  lives: a write that is torn.
-/
import Derived.Test.YtokdmcikoaagmaaDev
namespace Go.Proofs.Ytokdmcikoaagmaa
open Go.RowKit
set_option linter.unusedVariables false

def b11 : Blk := ((((zeroB.set 0 17).set 1 17).set 2 17).set 3 17)
def b111 : Blk := (((zeroB.set 0 17).set 1 17).set 2 17)
theorem torn_11 : torn zeroB b11 3 = b111 := by decide +kernel
theorem lives_S : crI (List.replicate 2 zeroB) [((0 : Int), b11)] [3] 1 = [b111, zeroB] := by
  rw [← torn_11]
  rfl
set_option maxHeartbeats 2000000 in
theorem lives_yes (D : Dev) (w : World) : Calls Try.prog 10 #[] w fun e w' => e = .returned (.bool true) ∧ Below w.heap.size w w' := by
  go_enter Try.func10, Try.ntmps10
  go_wp2_with fail
  refine (D.new_ok 2 w (by omega) (by omega)).mono ?_
  rintro e w1 ⟨p, F1, rfl, h1, hb1, hf1⟩
  have hs1 : w.heap.size ≤ w1.heap.size := hb1.size
  go_wp2_with (first | (refine wpList_val rfl (exec_build (c := b11) (parts := [(0, .const (.int .u8 17)), (1, .const (.int .u8 17)), (2, .const (.int .u8 17)), (3, .const (.int .u8 17))]) rfl (by rfl)) ?_) | fail)
  refine (D.write 0 b11 (by simp) h1).mono ?_
  rintro e w2 ⟨rfl, F2, h2, ho2, hg2⟩
  rw [show askE (List.replicate 2 zeroB) false 0 = 0 from rfl]
  rw [show wrL (List.replicate 2 zeroB) [] false 0 b11 = [((0 : Int), b11)] from rfl] at h2
  have hf2 := hg2.above hf1 hs1
  have hb2 := hb1.trans (ho2.below hf1 hs1)
  go_wp2_with fail
  refine (D.loose h2).mono ?_
  rintro e w3 ⟨rfl, hb3⟩
  have h3 := D.below h2 hb3
  have hb3' := hb2.trans (hb3.mono hb2.size)
  clear h1 h2 ho2 hg2 hb2 hb3 hs1
  go_wp2_with fail
  have hnew : RdE IntE _ _ _ 1 _ := rdE_new (E := IntE) (l := [3]) w3 #[.int .i64 3] 3 rfl
  have hba : Below w3.heap.size w3 (w3.alloc (.cells #[.int .i64 3] 3)) := (Below.refl _ _).alloc (Nat.le_refl _) _
  have h4 := D.below h3 hba
  have hlt := D.lt h3
  refine (D.crash (A := some ⟨w3.heap.size, 0, none⟩) (c := 1) (by rw [World.size_alloc]; exact hnew) (by omega) (by unfold maxLen; omega) (fun x hx _ hF => by injection hx with hx; subst hx; exact absurd (hlt _ hF) (Nat.lt_irrefl _)) h4).mono ?_
  rintro e w5 ⟨rfl, F5, h5, ho5, hg5⟩
  rw [show crI (List.replicate 2 zeroB) [((0 : Int), b11)] [3] [((0 : Int), b11)].length = [b111, zeroB] from lives_S] at h5
  have hb4' := hb3'.trans (hba.mono hb3'.size)
  have hf5 := hg5.above hf2 hb4'.size
  have hb5 := hb4'.trans (ho5.below hf2 hb4'.size)
  clear h3 h4 hnew hba hb3' hb4' ho5 hg5 hlt
  go_wp2_with fail
  refine (D.read 0 h5).mono ?_
  rintro e w6 ⟨rfl, hb6⟩
  rw [show readB [b111, zeroB] [] false 0 = b111 from rfl, show askE [b111, zeroB] false 0 = 0 from rfl]
  have h6 := D.below (D.below h5 hb6) ((Below.refl _ _).alloc (Nat.le_refl _) (.cells (cel b111).toArray 33))
  have K6 := new1 w6 (cel b111).toArray 33
  have hb6' := (hb5.trans (hb6.mono hb5.size)).alloc (hb5.trans (hb6.mono hb5.size)).size (.cells (cel b111).toArray 33)
  have hlt6 := D.lt (D.below h5 hb6)
  clear h5 hb5 hb6
  have hk6 : ¬ F5 w6.heap.size := fun e => absurd (hlt6 _ e) (Nat.lt_irrefl _)
  go_wp2_with (first | (refine wpList_val rfl (exec_alloc rfl) ?_) | (refine wpList_nul rfl (exec_fill rfl rfl rfl) ?_) | (refine wpList_val rfl (exec_build (c := zeroB) (parts := []) rfl rfl) ?_) | fail)
  generalize hx : w6.heap.size = x at *
  generalize w6.alloc (.cells (cel b111).toArray 33) = w7 at *
  refine (D.write 2 zeroB (by simp) h6).mono ?_
  rintro e w8 ⟨rfl, F8, h8, ho8, hg8⟩
  rw [show askE [b111, zeroB] false 2 = 2 from rfl]
  have K8 := ho8.keep K6 hk6
  have hf8 := hg8.above hf5 hb6'.size
  have hx8 : ¬ F8 x := fun e => by
    rcases hg8 x e with e | e
    · exact hk6 e
    · have := blk_lt K6; omega
  have hb8 := hb6'.trans (ho8.below hf5 hb6'.size)
  clear h6 K6 hk6 hb6' ho8 hg8
  go_wp2_with fail
  refine (D.fail h8).mono ?_
  rintro e w9 ⟨rfl, F9, h9, ho9, hg9⟩
  have K9 := ho9.keep K8 hx8
  have hb9 := hb8.trans (ho9.below hf8 hb8.size)
  clear h8 K8 hb8 ho9
  go_wp2_with fail
  refine (D.read 0 h9).mono ?_
  rintro e w10 ⟨rfl, hb10⟩
  rw [show readB [b111, zeroB] [] true 0 = zeroB from rfl, show askE [b111, zeroB] true 0 = 9 from rfl]
  have K11 := blk_past (blk_keep K9 hb10) (.cells (cel zeroB).toArray 33)
  have hb11 := (hb9.trans (hb10.mono hb9.size)).alloc (hb9.trans (hb10.mono hb9.size)).size (.cells (cel zeroB).toArray 33)
  have HR := Lib.hid (blk_range K11)
  have HB := Lib.hid hb11
  clear K9 K11 h9 hb9 hb10 hb11
  go_wp2_with (first | (refine wpList_val rfl (exec_alloc rfl) ?_) | (refine wpList_nul rfl (exec_fill rfl rfl rfl) ?_) | (refine wpList_val rfl (exec_load rfl rfl HR.out) ?_) | (refine wpList_val rfl (exec_build (c := b111) (parts := [(0, .const (.int .u8 17)), (1, .const (.int .u8 17)), (2, .const (.int .u8 17))]) rfl (by rfl)) ?_) | (refine wpList_val rfl (exec_eql rfl rfl rfl) ?_))
  go_ret
  exact ⟨rfl, HB.out⟩
end Go.Proofs.Ytokdmcikoaagmaa
