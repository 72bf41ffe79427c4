/-
  The walk of CrcRow.
-/
import Derived.Test.YtbcnjhiknenceaaDoorCrcRowM
import Derived.Test.YtbcnjhiknenceaaDoorCrcLives
import Derived.Test.YtbcnjhiknenceaaDoorApp
import Derived.StillTailTactics
import Derived.IntWalk
namespace Go.Proofs.YtbcnjhiknenceaaDoor
open Go.RowKit
set_option linter.unusedVariables false

theorem crcRow_none (A : Option Addr) (c : Nat) (at_ b0 b1 b2 b3 : Int) (w : World) (T : Tab w) :
    Calls Tryd.prog 6 #[.slice A 0 c, .int .i64 at_, .agg #[.int .u8 b0, .int .u8 b1, .int .u8 b2, .int .u8 b3]] w fun e w' => e = .returned (.bool true) ∧ Below w.heap.size w w' := by
  have HT := Lib.hid T
  clear T
  have hba : Below w.heap.size w (w.alloc (.cells #[.int .u8 b0, .int .u8 b1, .int .u8 b2, .int .u8 b3] 36)) := (Below.refl _ _).alloc (Nat.le_refl _) _
  go_enter Tryd.func6, Tryd.ntmps6
  go_wp2_with fail
  refine (lives_yes _ (HT.out.below hba)).mono ?_
  rintro e w3 ⟨rfl, hb3⟩
  go_wp2
  go_ret
  exact ⟨rfl, two hba hb3⟩
theorem xor_bytes (a b : UInt8) : bits .xor .u8 (a.toNat : Int) (b.toNat : Int) = (((a ^^^ b).toNat : Nat) : Int) := by
  rw [u8_xor_nat _ _ (UInt8.toNat_lt a) (UInt8.toNat_lt b), UInt8.toNat_xor]
theorem place (a : Int) (n : Nat) (h : 0 < n) : ∃ k : Nat, k < n ∧ (IntKind.u64.wrap a).tmod (n : Int) = (k : Int) := by
  have h1 : 0 ≤ IntKind.u64.wrap a := by rw [IntKind.wrap_u64]; omega
  have h2 := Int.tmod_eq_emod_of_nonneg (b := (n : Int)) h1
  have h3 := Int.emod_nonneg (IntKind.u64.wrap a) (b := (n : Int)) (by omega)
  have h4 := Int.emod_lt_of_pos (IntKind.u64.wrap a) (b := (n : Int)) (by omega)
  obtain ⟨k, hk⟩ := Int.eq_ofNat_of_zero_le h3
  exact ⟨k, by omega, by rw [h2, hk]⟩
theorem made_set {w w' : World} {B n i : Nat} {v : Value} {l l' : List UInt8} {u : UInt8} {x : Int} {o : Option Nat} (h : w'.ownsRow B 5 1 v n ((l.map fun u => Value.int .u8 (u.toNat : Int)).set i (.int .u8 x)) ∧ w.grownBy w' o) (hx : x = ((u.toNat : Nat) : Int)) (hl : l.set i u = l') (hn : l'.length = n) :
    Made w'.drew B v l' := by
  subst hx hl
  refine Made.of_own (n := n) ?_
  rw [List.map_set]
  exact h.1.drew
set_option maxHeartbeats 1000000 in
theorem crcRow_walk (A : Option Addr) (n c : Nat) (l : List UInt8) (at_ : Int) (y0 y1 y2 y3 : UInt8) (w : World) (T : Tab w) (hl : Rd w w.heap.size A n l) (hn : n ≤ 140737488351232) (h0 : 0 < n) :
    Calls Tryd.prog 6 #[.slice A n c, .int .i64 at_, .agg #[.int .u8 y0.toNat, .int .u8 y1.toNat, .int .u8 y2.toNat, .int .u8 y3.toNat]] w fun e w' => e = .returned (.bool true) ∧ Below w.heap.size w w' := by
  have HT := Lib.hid T
  clear T
  have hba : Below w.heap.size w (w.alloc (.cells #[.int .u8 y0.toNat, .int .u8 y1.toNat, .int .u8 y2.toNat, .int .u8 y3.toNat] 36)) := (Below.refl _ _).alloc (Nat.le_refl _) _
  have hy : Rd _ _ _ 4 _ := rd_typed 36 w [y0, y1, y2, y3] #[.int .u8 y0.toNat, .int .u8 y1.toNat, .int .u8 y2.toNat, .int .u8 y3.toNat] rfl
  have hd2 : ((n : Int) == 0) = false := by simp; omega
  obtain ⟨k, hk, hkm⟩ := place at_ n h0
  have hm : n ≤ maxLen := by unfold maxLen; omega
  go_enter Tryd.func6, Tryd.ntmps6
  go_wp2_with fail
  refine (copy_any A n c _ _ l _ (Lib.hid rfl) (hl.up _) (by simp) (by omega)).mono ?_
  rintro e w1 ⟨v1, rfl, hv1, hb1⟩
  rw [World.size_alloc] at hb1 hv1
  obtain ⟨g, cc, rfl, hg⟩ : ∃ g cc, v1 = .slice (some ⟨g, 0, none⟩) n cc ∧ w.heap.size < g := by
    rcases hv1.2 with ⟨_, h⟩ | ⟨g, cc, cur, h, hb, _⟩
    · have := hl.1; omega
    · exact ⟨g, cc, by rw [h, hl.1], hb⟩
  have hlen := hl.1
  generalize hY : [y0, y1, y2, y3] = y at hy
  have hyl : y.length = 4 := by rw [← hY]; rfl
  have HL := Lib.hid hlen
  have HYL := Lib.hid hyl
  clear hY hlen hyl
  go_wp2_with fail
  clear hkm hd2
  have hcc : n ≤ cc ∧ cc ≤ maxLen := by obtain ⟨A', c', e, _, h1, h2⟩ := hv1.open_ HL.out; injection e with e1 e2 e3; omega
  obtain ⟨hcc1, hcc2⟩ := hcc
  unfold maxLen at hcc2
  go_loopw [9, 10] (fun ch i wr => ∃ j : Nat, j ≤ 4 ∧ k + j ≤ n ∧ i = .int .i64 j ∧ ch = .bool (chg y j) ∧ Made wr (w.heap.size + 1) (.slice (some ⟨g, 0, none⟩) n cc) (mix l y k j) ∧ Below (w.heap.size + 1) (w.alloc (.cells #[.int .u8 y0.toNat, .int .u8 y1.toNat, .int .u8 y2.toNat, .int .u8 y3.toNat] 36)) wr) (fun _ i _ => 4 - (intOf i).toNat)
  case atStart => exact ⟨0, by omega, by omega, rfl, rfl, by rw [mix_zero]; exact hv1, hb1⟩
  case round =>
    clear hv1 hb1
    obtain ⟨j, hj, hkj, rfl, rfl, hmd, hbl⟩ := hrel
    by_cases hlt : j < 4 ∧ k + j < n
    · obtain ⟨h4, hkn⟩ := hlt
      have hjy : j < y.length := by have := HYL.out; omega
      have hjl : k + j < l.length := by have := HL.out; omega
      have hown := hmd.own (n := n) (by rw [length_mix (by omega) (by omega)]; exact HL.out)
      have hc1 := hown.cellAt (k + j) (by omega)
      rw [List.getElem?_map, mix_at hjl hjy] at hc1
      have hf1 := hown.frozenAt (k + j)
      have hst := fun u => hown.stored (k + j) u
      obtain ⟨bY, oY, eY, hYb, cY⟩ := (hy.below hbl).2 j h4
      injection eY with eY
      injection eY with e1 e2
      subst e1 e2
      rw [bt_get hjy, Nat.zero_add] at cY
      have HCS := Lib.hid (chg_succ hjy)
      have HMS := Lib.hid (mix_set hjl hjy)
      have HX := Lib.hid (xor_bytes l[k + j] y[j])
      have HST := Lib.hid hst
      clear hst hown hmd
      simp only [Option.map_some] at hc1
      generalize l[k + j] = p at *
      generalize y[j] = q at *
      have hp := UInt8.toNat_lt p
      have hq := UInt8.toNat_lt q
      have hne : ¬ w.heap.size = g := by omega
      have hne2 : ¬ g = w.heap.size := by omega
      cases hch : chg y j
      all_goals
        rw [hch] at HCS
        clear hch
        go_wp2_with fail
        have hw2 : (0 : Int) ≤ (k : Int) + (j : Int) := by omega
        have hw3 : ((k : Int) + (j : Int)).toNat = k + j := by omega
        have hw1 : IntKind.i64.wrap ((k : Int) + (j : Int)) = (k : Int) + (j : Int) := IntWalk.i64_in _ (by omega)
        go_still_tail 15, (by kernel_rfl)
        clear hw1 hw3
        change wpList _ _ _ _ _ wr.drew
        go_wp2_with fail
        first
          | go_roundw
            case rel =>
              exact ⟨j + 1, by omega, by omega, by go_num, by rw [HCS.out]; simp, made_set (n := n) (HST.out _) HX.out HMS.out (by rw [← HMS.out, List.length_set, length_mix (by omega) (by omega)]; exact HL.out), bd (hbl.setCell (by simp; omega) _)⟩
            case measure => simp [intOf]; omega
          | exact ⟨⟨j + 1, by omega, by omega, by go_num, by rw [HCS.out]; simp, made_set (n := n) (HST.out _) HX.out HMS.out (by rw [← HMS.out, List.length_set, length_mix (by omega) (by omega)]; exact HL.out), bd (hbl.setCell (by simp; omega) _)⟩, by simp [intOf]; omega⟩
    · have hex : (4 : Int) ≤ j ∨ ((j : Int) < 4 ∧ (n : Int) = k + j) := by omega
      have hM := more_mix (l := l) (y := y) (k := k) (j := j) (by have := HL.out; omega) (by have := HYL.out; omega) hj
      have hlb : Below w.heap.size w wr := over_alloc hbl
      have HTR := Lib.hid (HT.out.below hlb)
      have rl := hl.step hlb
      have rd := (hmd.open_ (n := n) (by rw [length_mix (by have := HL.out; omega) (by have := HYL.out; omega)]; exact HL.out))
      obtain ⟨A3, c3, e3, rm, _, _⟩ := rd
      injection e3 with e1 e2 e3
      subst e1 e3
      clear hmd e2
      generalize hmx : mix l y k j = ml at *
      clear hmx hlt
      obtain ⟨M, hMM⟩ : ∃ M, more 0 ml = M := ⟨_, rfl⟩
      obtain ⟨L, hLL⟩ : ∃ L, more 0 l = L := ⟨_, rfl⟩
      rw [hMM, hLL] at hM
      have HMM := Lib.hid hMM
      have HLL := Lib.hid hLL
      clear hMM hLL
      cases hch : chg y j
      · rw [hch] at hM
        obtain rfl : M = L := hM.2 rfl
        clear hM hch
        rcases hex with h4 | ⟨h4, h5⟩
        all_goals
          go_wp2_with fail
          refine (of_any (some ⟨g, 0, none⟩) n _ _ ml _ HTR.out rm hm).mono ?_
          rintro e w' ⟨rfl, rfl⟩
          rw [HMM.out]
          go_wp2_with fail
          refine (of_any A n _ _ l _ HTR.out rl hm).mono ?_
          rintro e w' ⟨rfl, rfl⟩
          rw [HLL.out]
          go_wp2_with fail
          refine (lives_yes _ HTR.out).mono ?_
          rintro e w3 ⟨rfl, hb3⟩
          go_wp2
          go_ret
          exact ⟨rfl, two hlb hb3⟩
      · rw [hch] at hM
        have hML : ((M : Int) == (L : Int)) = false := by
          simp only [beq_eq_false_iff_ne, ne_eq]
          intro e
          have := hM.1 (by omega)
          cases this
        clear hM hch
        rcases hex with h4 | ⟨h4, h5⟩
        all_goals
          go_wp2_with fail
          refine (of_any (some ⟨g, 0, none⟩) n _ _ ml _ HTR.out rm hm).mono ?_
          rintro e w' ⟨rfl, rfl⟩
          rw [HMM.out]
          go_wp2_with fail
          refine (of_any A n _ _ l _ HTR.out rl hm).mono ?_
          rintro e w' ⟨rfl, rfl⟩
          rw [HLL.out]
          go_wp2_with fail
          refine (lives_yes _ HTR.out).mono ?_
          rintro e w3 ⟨rfl, hb3⟩
          go_wp2
          go_ret
          exact ⟨rfl, two hlb hb3⟩
end Go.Proofs.YtbcnjhiknenceaaDoor
