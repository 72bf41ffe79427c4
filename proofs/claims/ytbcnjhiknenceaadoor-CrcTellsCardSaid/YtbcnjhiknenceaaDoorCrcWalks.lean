/-
  The walks of CrcTells, CrcZeros, CrcPieces.
-/
import Derived.Test.YtbcnjhiknenceaaDoorCrcLives
import Derived.Test.YtbcnjhiknenceaaDoorWide
import Derived.Test.YtbcnjhiknenceaaDoorApp
namespace Go.Proofs.YtbcnjhiknenceaaDoor
open Go.RowKit
set_option linter.unusedVariables false

set_option maxHeartbeats 1000000 in
theorem crcTells_walk (s r c : Nat) (A : Option Addr) (n cap : Nat) (b : List UInt8) (w : World) (T : Tab w) (hs : s < 4294967296) (hr : r < 4294967296) (hc : c < 256) (hb : Rd w w.heap.size A n b) (hn : n ≤ 140737488351232) :
    Calls Tryd.prog 3 #[.int .u32 s, .int .u32 r, .int .u8 c, .slice A n cap] w fun e w' => e = .returned (.bool true) ∧ Below w.heap.size w w' := by
  have HT := Lib.hid T
  clear T
  have hm : n ≤ maxLen := by unfold maxLen; omega
  go_enter Tryd.func3, Tryd.ntmps3
  go_wp2_with fail
  refine (wide_any A n cap _ _ b w (Lib.hid rfl) hb (Nat.le_refl _) hn).mono ?_
  rintro e w1 ⟨g, rfl, hg, hW, hb1⟩
  have HT1 := Lib.hid (HT.out.below hb1)
  have rb := hb.step hb1
  have rw1 := hW.rd
  rw [hb.1] at rw1
  go_wp2_with fail
  refine (step_any r _ hr).mono ?_
  rintro e w' ⟨rfl, rfl⟩
  go_wp2_with fail
  refine (refStep_any r _ hr).mono ?_
  rintro e w' ⟨rfl, rfl⟩
  go_wp2_with fail
  refine (take_any r c _ HT1.out hr hc).mono ?_
  rintro e w' ⟨rfl, rfl⟩
  go_wp2_with fail
  refine (refTake_any r c _ hr hc).mono ?_
  rintro e w' ⟨rfl, rfl⟩
  go_wp2_with fail
  refine (more_any s _ n _ _ b _ HT1.out hs rw1 hm).mono ?_
  rintro e w' ⟨rfl, rfl⟩
  go_wp2_with fail
  refine (refMore_any s A n _ _ b _ hs rb hm).mono ?_
  rintro e w' ⟨rfl, rfl⟩
  go_wp2_with fail
  refine (of_any _ n _ _ b _ HT1.out rw1 hm).mono ?_
  rintro e w' ⟨rfl, rfl⟩
  go_wp2_with fail
  refine (refOf_any A n _ _ b _ rb hm).mono ?_
  rintro e w' ⟨rfl, rfl⟩
  go_wp2_with fail
  refine (left_yes A n cap _ g _ b w1 (Lib.hid rfl) hW rb (Nat.le_refl _) hn).mono ?_
  rintro e w2 ⟨rfl, hb2⟩
  go_wp2_with fail
  refine (lives_yes _ (HT1.out.below hb2)).mono ?_
  rintro e w3 ⟨rfl, hb3⟩
  go_wp2
  go_ret
  exact ⟨rfl, two (two hb1 hb2) hb3⟩

set_option maxHeartbeats 1000000 in
theorem crcPieces_walk (A : Option Addr) (n cap : Nat) (a : List UInt8) (B : Option Addr) (m cbp : Nat) (b : List UInt8) (w : World) (T : Tab w) (ha : Rd w w.heap.size A n a) (hb : Rd w w.heap.size B m b) (hsum : n + m ≤ 140737488351232) :
    Calls Tryd.prog 5 #[.slice A n cap, .slice B m cbp] w fun e w' => e = .returned (.bool true) ∧ Below w.heap.size w w' := by
  have HT := Lib.hid T
  clear T
  have hm1 : n ≤ maxLen := by unfold maxLen; omega
  have hm2 : m ≤ maxLen := by unfold maxLen; omega
  have HM := Lib.hid (more_append 0 a b)
  have hlt := more_lt (s := 0) (by omega) a
  go_enter Tryd.func5, Tryd.ntmps5
  go_wp2_with fail
  refine (copy_any A n cap _ _ a w (Lib.hid rfl) ha (Nat.le_refl _) (by omega)).mono ?_
  rintro e w1 ⟨v1, rfl, hv1, hb1⟩
  have rb1 := hb.step hb1
  go_wp2_with (at_builtin; refine wpList_app rfl _ _ rfl w.heap.size _ m _ v1 a b B rfl rfl hv1 rb1 hb1.size ?c1 ?_)
  case c1 => have := ha.1; omega
  intro v2 w2 hv2 hg2
  have hb2 : Below w.heap.size w w2 := hb1.grown hg2 hb1.size fun k hk => (hv1.lt k hk).1
  have HT2 := Lib.hid (HT.out.below hb2)
  have ra2 := ha.step hb2
  have rb2 := hb.step hb2
  obtain ⟨A2, c2, rfl, d2, _, hc2⟩ := hv2.open_ (n := n + m) (by rw [List.length_append]; have := ha.1; have := hb.1; omega)
  have hm3 : n + m ≤ maxLen := by unfold maxLen; omega
  go_wp2_with fail
  refine (of_any A2 _ _ _ (a ++ b) _ HT2.out d2 hm3).mono ?_
  rintro e w' ⟨rfl, rfl⟩
  rw [HM.out]
  go_wp2_with fail
  refine (of_any A n _ _ a _ HT2.out ra2 hm1).mono ?_
  rintro e w' ⟨rfl, rfl⟩
  go_wp2_with fail
  refine (more_any (more 0 a) B m _ _ b _ HT2.out hlt rb2 hm2).mono ?_
  rintro e w' ⟨rfl, rfl⟩
  go_wp2_with fail
  refine (lives_yes _ HT2.out).mono ?_
  rintro e w3 ⟨rfl, hb3⟩
  go_wp2
  go_ret
  exact ⟨rfl, two hb2 hb3⟩
end Go.Proofs.YtbcnjhiknenceaaDoor
