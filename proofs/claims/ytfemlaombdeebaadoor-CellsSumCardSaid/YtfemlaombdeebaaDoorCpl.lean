/-
  The program's cells: place (a piece of a sector), tell, lay (a number out of, into a piece).
-/
import Derived.Test.YtfemlaombdeebaaDoorCps
import Derived.Test.YtfemlaombdeebaaDoorCut
import Derived.Test.YtfemlaombdeebaaDoorSec
import Derived.Deep.DeepCutAuto
namespace Go.Proofs.YtfemlaombdeebaaDoor
open Go.RowKit
set_option linter.unusedVariables false
set_option linter.unusedSimpArgs false
set_option maxRecDepth 100000

theorem tdiv16 (i : Nat) (h : i ≤ 1000) : IntKind.i64.wrap ((i : Int).tdiv 16) = ((i / 16 : Nat) : Int) := by
  rw [Int.tdiv_eq_ediv_of_nonneg (by omega), IntKind.wrap_i64]
  omega
theorem tmod16 (i : Nat) : (i : Int).tmod 16 = ((i % 16 : Nat) : Int) := by
  rw [Int.tmod_eq_emod_of_nonneg (by omega)]
  omega
theorem wrap_small (k : Nat) (h : k ≤ 1000000) (x : Int) (e : x = (k : Int)) : IntKind.i64.wrap x = (k : Int) := by
  subst e
  rw [IntKind.wrap_i64]
  omega
theorem grown_after {w w1 w2 : World} {B : Nat} {row : Option Nat} (hb : Below w.heap.size w w1) (hg : w1.grownBy w2 row) : w.grownBy w2 row :=
  ⟨hg.os.trans hb.os, hg.tape.trans hb.tape, hg.output.trans hb.output, Nat.le_trans hb.size hg.size, fun k hk hn => (hg.block k (Nat.lt_of_lt_of_le hk hb.size) hn).trans (hb.block k hk)⟩
set_option maxHeartbeats 1000000 in
theorem pplace (b off n c i : Nat) (w : World) (hi : i / 16 < n) (h : i ≤ 1000) :
    Calls Tryd.prog 31 #[.slice (some ⟨b, off, none⟩) n c, .int .i64 (i : Int)] w fun e w' => e = .returned (.slice (some ⟨b, off + 4 * i, none⟩) 4 (64 - i % 16 * 4)) ∧ w = w' := by
  have HQ := Lib.hid (tdiv16 i h)
  have HR := Lib.hid (tmod16 i)
  have HM := Lib.hid (wrap_small (i % 16 * 4) (by omega) (((i % 16 : Nat) : Int) * 4) (by omega))
  have HA := Lib.hid (wrap_small (i % 16 * 4 + 4) (by omega) (((i % 16 * 4 : Nat) : Int) + 4) (by omega))
  have HI := Lib.hid hi
  have HE := Lib.hid (show off + i / 16 * 64 + i % 16 * 4 = off + 4 * i by omega)
  have HL := Lib.hid (show i % 16 * 4 + 4 - i % 16 * 4 = 4 by omega)
  have H64 := Lib.hid (show i % 16 * 4 + 4 ≤ 64 by omega)
  clear hi
  go_enter Tryd.func31, Tryd.ntmps31
  go_upto_region 1 with fail
  refine wp_region_lit ?_
  refine wpList_valn rfl (exec_mv rfl (ev rfl)) ?_
  simp only [Act.put, List.setIfInBounds_toArray, List.set_cons_succ, List.set_cons_zero]
  refine wpList_valn rfl (exec_mv rfl (ev rfl)) ?_
  simp only [Act.put, List.setIfInBounds_toArray, List.set_cons_succ, List.set_cons_zero]
  refine wpList_valn rfl (exec_quo rfl (ev rfl) evk (by decide) HQ.out) ?_
  simp only [Act.put, List.setIfInBounds_toArray, List.set_cons_succ, List.set_cons_zero]
  refine wpList_valn rfl (exec_index rfl (ev rfl) (ev rfl) HI.out) ?_
  simp only [Act.put, List.setIfInBounds_toArray, List.set_cons_succ, List.set_cons_zero]
  refine wpList_valn rfl (exec_allB rfl (ev rfl)) ?_
  simp only [Act.put, List.setIfInBounds_toArray, List.set_cons_succ, List.set_cons_zero]
  refine wpList_valn rfl (exec_as rfl (ev rfl)) ?_
  simp only [Act.put, List.setIfInBounds_toArray, List.set_cons_succ, List.set_cons_zero]
  refine wpList_nil ?_
  go_upto_region 2 with fail
  refine wp_region_lit ?_
  refine wpList_valn rfl (exec_mv rfl (ev rfl)) ?_
  simp only [Act.put, List.setIfInBounds_toArray, List.set_cons_succ, List.set_cons_zero]
  refine wpList_valn rfl (exec_rem rfl (ev rfl) evk (by decide) HR.out) ?_
  simp only [Act.put, List.setIfInBounds_toArray, List.set_cons_succ, List.set_cons_zero]
  refine wpList_valn rfl (exec_mul rfl (ev rfl) evk HM.out) ?_
  simp only [Act.put, List.setIfInBounds_toArray, List.set_cons_succ, List.set_cons_zero]
  refine wpList_valn rfl (exec_as rfl (ev rfl)) ?_
  simp only [Act.put, List.setIfInBounds_toArray, List.set_cons_succ, List.set_cons_zero]
  refine wpList_nil ?_
  go_upto_region 3 with fail
  refine wp_region_lit ?_
  refine wpList_valn rfl (exec_mv rfl (ev rfl)) ?_
  simp only [Act.put, List.setIfInBounds_toArray, List.set_cons_succ, List.set_cons_zero]
  refine wpList_valn rfl (exec_mv rfl (ev rfl)) ?_
  simp only [Act.put, List.setIfInBounds_toArray, List.set_cons_succ, List.set_cons_zero]
  refine wpList_valn rfl (exec_mv rfl (ev rfl)) ?_
  simp only [Act.put, List.setIfInBounds_toArray, List.set_cons_succ, List.set_cons_zero]
  refine wpList_valn rfl (exec_add rfl (ev rfl) evk HA.out) ?_
  simp only [Act.put, List.setIfInBounds_toArray, List.set_cons_succ, List.set_cons_zero]
  refine wpList_valn rfl (exec_cutM (i % 16 * 4) (i % 16 * 4 + 4) rfl (ev rfl) (ev rfl) (ev rfl) (by omega) H64.out (by have := H64.out; omega)) ?_
  simp only [Act.put, List.setIfInBounds_toArray, List.set_cons_succ, List.set_cons_zero]
  refine wpList_valn rfl (exec_as rfl (ev rfl)) ?_
  simp only [Act.put, List.setIfInBounds_toArray, List.set_cons_succ, List.set_cons_zero]
  refine wpList_nil ?_
  go_wp2_with fail
  go_ret
  refine ⟨?_, rfl⟩
  rw [HE.out, HL.out]
  rfl
set_option maxHeartbeats 1000000 in
theorem ptell (A : Option Addr) (n c N : Nat) (b : List UInt8) (w : World) (hb : Rd w N A n b) (h1 : 1 ≤ n) (h2 : n ≤ 2) :
    Calls Tryd.prog 32 #[.slice A n c] w fun e w' => e = .returned (.int .i64 (val 8 b : Nat)) ∧ w = w' := by
  have HL := Lib.hid hb.1
  have hv : val 8 b < 65536 := by
    have h3 := val_lt (all_256 b)
    have h4 : 2 ^ (8 * b.length) ≤ 2 ^ (8 * 2) := Nat.pow_le_pow_right (by omega) (by have := hb.1; omega)
    omega
  have HV := Lib.hid hv
  have HP : Hid (piece b 0 n = b) := Lib.hid (by
    unfold piece
    rw [List.drop_zero, List.take_of_length_le (by have := hb.1; omega)])
  clear hv
  go_enter Tryd.func32, Tryd.ntmps32
  go_wp2_with fail
  refine (get_ok A n c N b 0 n w hb (by unfold maxLen; omega) h1 (by omega) (by omega)).mono ?_
  rintro e w1 ⟨rfl, rfl⟩
  rw [HP.out]
  have hv := HV.out
  clear HV hb HL HP
  generalize hvv : val 8 b = v at *
  have HVV := Lib.hid hvv
  clear hvv
  go_wp2
  go_ret
  exact ⟨by rw [HVV.out]; rfl, rfl⟩
set_option maxHeartbeats 1000000 in
theorem play (g off k c : Nat) (t : TypeId) (L : List UInt8) (n : Nat) (w : World) (hr : RowL w g t L) (h1 : 1 ≤ k) (h2 : k ≤ 2) (hn : n < 256 ^ k) (hf : off + k ≤ L.length) :
    Calls Tryd.prog 34 #[.slice (some ⟨g, off, none⟩) k c, .int .i64 (n : Int)] w fun e w' => e = .returned (.tuple #[]) ∧ RowL w' g t (splice L off (digL 8 k n)) ∧ w.grownBy w' (some g) := by
  have HR := Lib.hid hr
  have HL := Lib.hid (length_digL 8 k n)
  have HF := Lib.hid hf
  have hn2 : n < 65536 := by
    have h4 : 256 ^ k ≤ 256 ^ 2 := Nat.pow_le_pow_right (by omega) h2
    omega
  have HN := Lib.hid hn
  clear hr hf hn
  go_enter Tryd.func34, Tryd.ntmps34
  go_wp2_with fail
  refine (put_ok n k w h1 (by omega) HN.out).mono ?_
  rintro e w1 ⟨v, rfl, hv, hb⟩
  have hvm := hv.made
  obtain ⟨A, cc, rfl, hrd, _, _⟩ := hvm.open_ HL.out
  have HRD := Lib.hid hrd
  have HR1 := Lib.hid (HR.out.below HR.out.lt hb)
  have HB := Lib.hid hb
  clear hv hvm hrd hb HR HN
  go_wp2_with (first | (refine wpList_copyL rfl _ _ rfl g off k c k cc _ A t L (digL 8 k n) rfl rfl HR1.out HRD.out (Nat.le_refl _) ?_ ?_) | fail)
  · exact HF.out
  intro w2 hr2 hg2
  have HR2 := Lib.hid hr2
  have HG2 := Lib.hid (grown_after (B := 0) HB.out hg2)
  clear hr2 hg2
  go_wp2_with fail
  go_end0
  exact ⟨rfl, HR2.out, HG2.out⟩
end Go.Proofs.YtfemlaombdeebaaDoor
