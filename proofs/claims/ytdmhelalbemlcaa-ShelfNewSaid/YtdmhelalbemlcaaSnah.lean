import Derived.Test.YtdmhelalbemlcaaSnaa
import Derived.Deep.DeepCutAuto
import Derived.Test.YtdmhelalbemlcaaSnag
import Derived.Test.YtdmhelalbemlcaaSnac
import Derived.Test.YtdmhelalbemlcaaSnab
import Derived.Test.YtdmhelalbemlcaaSnad
import Derived.Shelf.Sort.Plain
import Derived.Shelf.Slices.In.SortNone
import Derived.Test.YtdmhelalbemlcaaSnZ
namespace Go.Proofs.Ytdmhelalbemlcaa
open Go.RowKit
set_option linter.unusedVariables false
set_option linter.unusedSimpArgs false
set_option maxRecDepth 100000
def geoV (m s r : Int) : Value := .agg #[.int .i64 m, .int .i64 s, .int .i64 r]
def bD (s m : Int) : Value := .agg #[.int .i64 s, .int .i64 m]
def may (m s r : Int) : Bool := decide (3 ≤ m ∧ m ≤ 16 ∧ 1 ≤ s ∧ s ≤ 64 ∧ 40 ≤ r ∧ r ≤ 256)
theorem may_iff {m s r : Int} : may m s r = true ↔ (3 ≤ m ∧ m ≤ 16 ∧ 1 ≤ s ∧ s ≤ 64 ∧ 40 ≤ r ∧ r ≤ 256) := by unfold may; rw [decide_eq_true_iff]
theorem may_not {m s r : Int} : may m s r = false ↔ ¬(3 ≤ m ∧ m ≤ 16 ∧ 1 ≤ s ∧ s ≤ 64 ∧ 40 ≤ r ∧ r ≤ 256) := by unfold may; rw [decide_eq_false_iff_not]
def has (s t : Int) : Bool := decide (0 ≤ t ∧ t < s)
theorem has_iff {s t : Int} : has s t = true ↔ (0 ≤ t ∧ t < s) := by unfold has; rw [decide_eq_true_iff]
theorem has_not {s t : Int} : has s t = false ↔ ¬(0 ≤ t ∧ t < s) := by unfold has; rw [decide_eq_false_iff_not]
set_option maxHeartbeats 1000000 in
theorem may_prog (m s r : Int) (w : World) : Calls Try.prog 7 #[geoV m s r] w fun e w' => e = .returned (.bool (may m s r)) ∧ Below w.heap.size w w' := by
  unfold geoV
  go_enter Try.func7, Try.ntmps7
  go_wp2
  all_goals
    go_ret
    refine ⟨ret_bool ?_, (Below.refl _ _).alloc (Nat.le_refl _) _⟩
    first
      | (refine Eq.symm (may_not.2 ?_); omega)
      | (rw [Bool.eq_iff_iff, may_iff, decide_eq_true_iff]; omega)
theorem has_prog (m s r t : Int) (w : World) : Calls Try.prog 58 #[geoV m s r, .int .i64 t] w fun e w' => e = .returned (.bool (has s t)) ∧ Below w.heap.size w w' := by
  unfold geoV
  go_enter Try.func58, Try.ntmps58
  go_wp2
  all_goals
    go_ret
    refine ⟨ret_bool ?_, (Below.refl _ _).alloc (Nat.le_refl _) _⟩
    first
      | (refine Eq.symm (has_not.2 ?_); omega)
      | (rw [Bool.eq_iff_iff, has_iff, decide_eq_true_iff]; omega)
theorem width_prog (M : Nat) (s r : Int) (w : World) (h3 : 3 ≤ M) (h16 : M ≤ 16) : Calls Try.prog 60 #[geoV M s r] w fun e w' => e = .returned (.int .i64 ((M - 1 : Nat) : Int)) ∧ Below w.heap.size w w' := by
  unfold geoV
  go_enter Try.func60, Try.ntmps60
  go_wp2
  go_ret
  exact ⟨ret_int (by omega), (Below.refl _ _).alloc (Nat.le_refl _) _⟩
def par (M T : Nat) : Nat := M - 1 - T % M
def dat (M T d : Nat) : Nat := (par M T + 1 + d) % M
section
variable {fn : Func} {p u : Tmp} {x y z : Int} {tmps : Array Value} {w : World} {b : Nat}
theorem load_place (h0 : w.cell? ⟨b, 0, none⟩ = some (.int .i64 x)) (h1 : w.cell? ⟨b, 1, none⟩ = some (.int .i64 y)) : (loadVar 48 ⟨b, 0, none⟩).run Try.prog w = .ok (bD x y) w := by
  simp [go_sem, loadVar, h0, h1, bD]
  done
end
section
variable {fn : Func} {p u : Tmp} {x y z : Int} {tmps : Array Value} {w : World} {b : Nat}
theorem res_place (h : fn.results = #[.cell p 48]) (hp : tmps.getD p undef = .pointer (some ⟨b, 0, none⟩)) (h0 : w.cell? ⟨b, 0, none⟩ = some (.int .i64 x)) (h1 : w.cell? ⟨b, 1, none⟩ = some (.int .i64 y)) :
    (results fn tmps).run Try.prog w = .ok (bD x y) w := by
  have hp' : tmps[p]?.getD undef = .pointer (some ⟨b, 0, none⟩) := by simpa using hp
  simp [results, h, hp', asAddr, load_place h0 h1]
end
theorem par_int {M : Nat} (T : Nat) (h3 : 3 ≤ M) : (M : Int) - 1 - (T : Int) % (M : Int) = ((par M T : Nat) : Int) := by
  have hlt : T % M < M := Nat.mod_lt _ (by omega)
  have e : (T : Int) % (M : Int) = ((T % M : Nat) : Int) := rfl
  rw [e]
  unfold par
  omega
theorem par_lt {M : Nat} (T : Nat) (h3 : 3 ≤ M) : par M T < M := by unfold par; omega
section
variable {w : World} {a : Addr} {b : Nat} {m s r : Int}
theorem faGm0 : (Instr.fieldAt 23 (.pointer (some ⟨b, 0, none⟩)) 0).run Try.prog w = .ok (.pointer (some ⟨b, 0, none⟩)) w := by kernel_rfl
theorem faPm0 : (Instr.fieldAt 48 (.pointer (some ⟨b, 0, none⟩)) 0).run Try.prog w = .ok (.pointer (some ⟨b, 0, none⟩)) w := by kernel_rfl
theorem ldIg {k : IntKind} {x : Int} (h : w.cell? a = some (.int k x)) : (Instr.loadAt 3 (.pointer (some a))).run Try.prog w = .ok (.int k x) w := by
  simp [go_sem, h]
theorem ldGg (h0 : w.cell? ⟨b, 0, none⟩ = some (.int .i64 m)) (h1 : w.cell? ⟨b, 1, none⟩ = some (.int .i64 s)) (h2 : w.cell? ⟨b, 2, none⟩ = some (.int .i64 r)) : (Instr.loadAt 23 (.pointer (some ⟨b, 0, none⟩))).run Try.prog w = .ok (geoV m s r) w := by
  simp [go_sem, h0, h1, h2, geoV]
end
theorem fieldP1 (x y : Int) : ∀ w : World, (Instr.field 48 (.agg #[.int .i64 x, .int .i64 y]) 1).run Try.prog w = .ok (.int .i64 y) w := fun _ => by kernel_rfl
theorem par_prog (M T : Nat) (s r : Int) (w : World) (h3 : 3 ≤ M) (h16 : M ≤ 16) (ht : T ≤ 64) : Calls Try.prog 59 #[geoV M s r, .int .i64 T] w fun e w' => e = .returned (bD T (par M T)) ∧ Below w.heap.size w w' := by
  have hne : (M : Int) ≠ 0 := by omega
  unfold geoV
  go_enter Try.func59, Try.ntmps59
  go_wp2
  go_region
  go_wp2
  refine bodyPost_ret (res_place (b := w.heap.size + 1) (x := T) (y := par M T) rfl rfl (by go_simp) (by go_simp; rw [par_int T h3]; exact wrap64_nat (by have := par_lt T h3; omega))) rfl ⟨rfl, ?_⟩
  exact bd (((Below.refl _ _).alloc (Nat.le_refl _) _).alloc (by go_simp) _)
theorem mul_nat {M S : Nat} (h3 : 3 ≤ M) (h16 : M ≤ 16) (h64 : S ≤ 64) : IntKind.i64.wrap ((S : Int) * ((M - 1 : Nat) : Int)) = ((S * (M - 1) : Nat) : Int) := by
  have h := Nat.mul_le_mul h64 (show M - 1 ≤ 15 by omega)
  rw [← Int.natCast_mul]
  exact IntWalk.i64_in _ (by omega)
theorem nat_geo {m s r : Int} (h : may m s r = true) : ∃ M S : Nat, m = M ∧ s = S ∧ 3 ≤ M ∧ M ≤ 16 ∧ 1 ≤ S ∧ S ≤ 64 := by
  have := may_iff.1 h
  exact ⟨m.toNat, s.toNat, by omega, by omega, by omega, by omega, by omega, by omega⟩
section
variable {M T d m : Nat}
theorem mod2 {x M : Nat} (h : x < 2 * M) : x % M = if x < M then x else x - M := by
  split
  · exact Nat.mod_eq_of_lt (by assumption)
  · rw [Nat.mod_eq_sub_mod (by omega), Nat.mod_eq_of_lt (by omega)]
def nth (M T m : Nat) : Nat := (m + M - par M T - 1) % M
theorem dat_eq (h3 : 3 ≤ M) (hd : d < M - 1) : dat M T d = if par M T + 1 + d < M then par M T + 1 + d else par M T + 1 + d - M := mod2 (by have := par_lt T h3; omega)
theorem nth_eq (h3 : 3 ≤ M) (hm : m < M) : nth M T m = if par M T < m then m - par M T - 1 else m + M - par M T - 1 := by
  unfold nth
  have := par_lt T h3
  rw [mod2 (by omega)]
  split <;> split <;> omega
theorem dat_nth (h3 : 3 ≤ M) (hm : m < M) (hne : m ≠ par M T) : nth M T m < M - 1 ∧ dat M T (nth M T m) = m := by
  have := par_lt T h3
  have h1 : nth M T m < M - 1 := by rw [nth_eq h3 hm]; split <;> omega
  refine ⟨h1, ?_⟩
  rw [dat_eq h3 h1, nth_eq h3 hm]
  split <;> split <;> omega
theorem nth_int {M : Nat} (T m : Nat) (h3 : 3 ≤ M) : ((m : Int) + (M : Int) - ((par M T : Nat) : Int) - 1) % (M : Int) = ((nth M T m : Nat) : Int) := by
  have := par_lt T h3
  have e : ((m : Int) + (M : Int) - ((par M T : Nat) : Int) - 1) = ((m + M - par M T - 1 : Nat) : Int) := by omega
  rw [e]; rfl
end
def inP (m s t k : Int) : Bool := decide (0 ≤ t ∧ t < s ∧ 0 ≤ k ∧ k < m)
theorem inP_iff {m s t k : Int} : inP m s t k = true ↔ (0 ≤ t ∧ t < s ∧ 0 ≤ k ∧ k < m) := by unfold inP; rw [decide_eq_true_iff]
theorem inP_not {m s t k : Int} : inP m s t k = false ↔ ¬(0 ≤ t ∧ t < s ∧ 0 ≤ k ∧ k < m) := by unfold inP; rw [decide_eq_false_iff_not]
def blE (m s r t k : Int) : Int := if may m s r = true then (if inP m s t k = true then (if k.toNat = par m.toNat t.toNat then 7 else 0) else 12) else 2
def blN (m s r t k : Int) : Int := if may m s r = true then (if inP m s t k = true then (if k.toNat = par m.toNat t.toNat then 0 else ((t.toNat * (m.toNat - 1) + nth m.toNat t.toNat k.toNat : Nat) : Int)) else 0) else 0
def blV (m s r t k : Int) : Value := .tuple #[.int .i64 (blN m s r t k), .int .i64 (blE m s r t k)]
theorem blV_no {m s r : Int} (t k : Int) (h : may m s r = false) : blV m s r t k = .tuple #[.int .i64 0, .int .i64 2] := by simp [blV, blN, blE, h]
theorem blV_out {m s r t k : Int} (h : may m s r = true) (h' : inP m s t k = false) : blV m s r t k = .tuple #[.int .i64 0, .int .i64 12] := by simp [blV, blN, blE, h, h']
theorem blV_par {M S T k : Nat} {r : Int} (h : may M S r = true) (h' : inP M S T k = true) (hp : k = par M T) : blV M S r T k = .tuple #[.int .i64 0, .int .i64 7] := by
  unfold blV blN blE
  simp only [h, h', if_true]
  rw [if_pos (show (k : Int).toNat = par (M : Int).toNat (T : Int).toNat from hp), if_pos (show (k : Int).toNat = par (M : Int).toNat (T : Int).toNat from hp)]
theorem blV_in {M S T k : Nat} {r : Int} (h : may M S r = true) (h' : inP M S T k = true) (hp : k ≠ par M T) : blV M S r T k = .tuple #[.int .i64 ((T * (M - 1) + nth M T k : Nat) : Int), .int .i64 0] := by
  unfold blV blN blE
  simp only [h, h', if_true]
  rw [if_neg (show (k : Int).toNat ≠ par (M : Int).toNat (T : Int).toNat from hp), if_neg (show (k : Int).toNat ≠ par (M : Int).toNat (T : Int).toNat from hp)]
  rfl
theorem block_no (m s r t k : Int) (w : World) (h : may m s r = false) : Calls Try.prog 38 #[geoV m s r, bD t k] w fun e w' => e = .returned (blV m s r t k) ∧ Below w.heap.size w w' := by
  rw [blV_no t k h]
  have H := Lib.hid h
  clear h
  unfold geoV bD
  go_enter Try.func38, Try.ntmps38
  go_wp2_with fail
  refine (may_prog m s r _).mono ?_
  rintro e w1 ⟨rfl, hb1⟩
  rw [H.out]
  obtain ⟨K0, K1, hs, HB⟩ := behind_gp hb1 (new1 ..) (new2 ..)
  clear hb1
  go_wp2
  go_ret2
  exact ⟨rfl, HB.out⟩
set_option maxHeartbeats 1000000 in
theorem block_out (m s r t k : Int) (w : World) (h : may m s r = true) (h' : inP m s t k = false) : Calls Try.prog 38 #[geoV m s r, bD t k] w fun e w' => e = .returned (blV m s r t k) ∧ Below w.heap.size w w' := by
  rw [blV_out h h']
  have hn := inP_not.1 h'
  have H := Lib.hid h
  clear h h'
  have h3 : has s t = false ∨ (has s t = true ∧ k < 0) ∨ (has s t = true ∧ 0 ≤ k ∧ m ≤ k) := by
    cases hh : has s t
    · exact .inl rfl
    · have := has_iff.1 hh
      by_cases hk : k < 0
      · exact .inr (.inl ⟨rfl, hk⟩)
      · exact .inr (.inr ⟨rfl, by omega, by omega⟩)
  clear hn
  have go : ∀ (b : Bool), has s t = b → (b = true → (k < 0 ∨ (0 ≤ k ∧ m ≤ k))) → Calls Try.prog 38 #[geoV m s r, bD t k] w fun e w' => e = .returned (.tuple #[.int .i64 0, .int .i64 12]) ∧ Below w.heap.size w w' := by
    intro b hb hor
    have HBo := Lib.hid hb
    unfold geoV bD
    cases b
    · clear hor h3 hb
      go_enter Try.func38, Try.ntmps38
      go_wp2_with fail
      refine (may_prog m s r _).mono ?_
      rintro e w1 ⟨rfl, hb1⟩
      rw [H.out]
      obtain ⟨K0, K1, hs, HB⟩ := behind_gp hb1 (new1 ..) (new2 ..)
      obtain ⟨c0, c1, c2⟩ := cells3 K0.out
      obtain ⟨p0, p1, f0, f1⟩ := cells2 K1.out
      clear hb1
      go_wp2_with fail
      refine (has_prog m s r t _).mono ?_
      rintro e w2 ⟨rfl, hb2⟩
      rw [HBo.out]
      go_wp2
      go_ret2
      exact ⟨rfl, HB.out.trans (hb2.mono HB.out.size)⟩
    · have hor := hor rfl
      clear h3 hb
      rcases hor with hk | ⟨hk, hk'⟩
      all_goals
        go_enter Try.func38, Try.ntmps38
        go_wp2_with fail
        refine (may_prog m s r _).mono ?_
        rintro e w1 ⟨rfl, hb1⟩
        rw [H.out]
        obtain ⟨K0, K1, hs, HB⟩ := behind_gp hb1 (new1 ..) (new2 ..)
        obtain ⟨c0, c1, c2⟩ := cells3 K0.out
        obtain ⟨p0, p1, f0, f1⟩ := cells2 K1.out
        clear hb1
        go_wp2_with fail
        refine (has_prog m s r t _).mono ?_
        rintro e w2 ⟨rfl, hb2⟩
        rw [HBo.out]
        obtain ⟨d0, d1, d2⟩ := cells3 (aw K0.out hb2)
        obtain ⟨q0, q1, g0, g1⟩ := cells2 (aw K1.out hb2)
        have HB2 := Lib.hid (HB.out.trans (hb2.mono HB.out.size))
        clear hb2 c0 c1 c2 p0 p1 f0 f1
        go_wp2
        go_ret2
        exact ⟨rfl, HB2.out⟩
  rcases h3 with hh | ⟨hh, hk⟩ | ⟨hh, hk⟩
  · exact go false hh (fun e => by cases e)
  · exact go true hh (fun _ => .inl hk)
  · exact go true hh (fun _ => .inr hk)
set_option maxHeartbeats 1000000 in
theorem block_par (M S T k : Nat) (r : Int) (w : World) (h : may M S r = true) (h' : inP M S T k = true) (hp : k = par M T) : Calls Try.prog 38 #[geoV M S r, bD T k] w fun e w' => e = .returned (blV M S r T k) ∧ Below w.heap.size w w' := by
  rw [blV_par h h' hp]
  have hn := inP_iff.1 h'
  have hm := may_iff.1 h
  have HH := Lib.hid (show has S T = true from has_iff.2 (by omega))
  have H := Lib.hid h
  clear h h'
  have HP := Lib.hid hp
  clear hp
  unfold geoV bD
  go_enter Try.func38, Try.ntmps38
  go_wp2_with fail
  refine (may_prog M S r _).mono ?_
  rintro e w1 ⟨rfl, hb1⟩
  rw [H.out]
  obtain ⟨K0, K1, hs, HB⟩ := behind_gp hb1 (new1 ..) (new2 ..)
  obtain ⟨c0, c1, c2⟩ := cells3 K0.out
  obtain ⟨p0, p1, f0, f1⟩ := cells2 K1.out
  clear hb1
  go_wp2_with fail
  refine (has_prog M S r T _).mono ?_
  rintro e w2 ⟨rfl, hb2⟩
  rw [HH.out]
  have K02 := Lib.hid (aw K0.out hb2)
  have K12 := Lib.hid (aw K1.out hb2)
  obtain ⟨d0, d1, d2⟩ := cells3 K02.out
  obtain ⟨q0, q1, g0, g1⟩ := cells2 K12.out
  have HB2 := Lib.hid (HB.out.trans (hb2.mono HB.out.size))
  clear hb2 c0 c1 c2 p0 p1 f0 f1 K0 K1
  go_wp2_with fail
  refine (par_prog M T S r _ (by omega) (by omega) (by omega)).mono ?_
  rintro e w3 ⟨rfl, hb3⟩
  unfold bD
  rw [← HP.out]
  have K03 := Lib.hid (aw K02.out hb3)
  have K13 := Lib.hid (aw K12.out hb3)
  obtain ⟨c0, c1, c2⟩ := cells3 K03.out
  obtain ⟨p0, p1, f0, f1⟩ := cells2 K13.out
  have hs3 : w.heap.size + 1 < w3.heap.size := bN K13.out
  have hs4 : w.heap.size < w3.heap.size := bN K03.out
  have HB3 := Lib.hid (HB2.out.trans (hb3.mono HB2.out.size))
  clear hb3 d0 d1 d2 q0 q1 g0 g1 K02 K12 hs
  go_wp2
  go_ret2
  exact ⟨rfl, HB3.out.alloc HB3.out.size _⟩
set_option maxHeartbeats 1000000 in
theorem block_in (M S T k : Nat) (r : Int) (w : World) (h : may M S r = true) (h' : inP M S T k = true) (hp : k ≠ par M T) : Calls Try.prog 38 #[geoV M S r, bD T k] w fun e w' => e = .returned (blV M S r T k) ∧ Below w.heap.size w w' := by
  rw [blV_in h h' hp]
  have hn := inP_iff.1 h'
  have hm := may_iff.1 h
  have HH := Lib.hid (show has S T = true from has_iff.2 (by omega))
  have H := Lib.hid h
  clear h h'
  have hpl := par_lt T (M := M) (by omega)
  have hni := nth_int (M := M) T k (by omega)
  have hnl : nth M T k < M - 1 := (dat_nth (T := T) (by omega) (by omega) hp).1
  have HNI := Lib.hid hni
  have HM := Lib.hid (mul_nat (M := M) (S := T) (by omega) (by omega) (by omega))
  have HA := Lib.hid (show IntKind.i64.wrap (((T * (M - 1) : Nat) : Int) + ((nth M T k : Nat) : Int)) = ((T * (M - 1) + nth M T k : Nat) : Int) by
    have h := Nat.mul_le_mul (show T ≤ 64 by omega) (show M - 1 ≤ 15 by omega)
    generalize T * (M - 1) = q at *
    rw [← Int.natCast_add]
    exact IntWalk.i64_in _ (by omega))
  clear hni
  generalize hpq : par M T = P at *
  have HPQ := Lib.hid hpq
  clear hpq
  unfold geoV bD
  go_enter Try.func38, Try.ntmps38
  go_wp2_with fail
  refine (may_prog M S r _).mono ?_
  rintro e w1 ⟨rfl, hb1⟩
  rw [H.out]
  obtain ⟨K0, K1, hs, HB⟩ := behind_gp hb1 (new1 ..) (new2 ..)
  obtain ⟨c0, c1, c2⟩ := cells3 K0.out
  obtain ⟨p0, p1, f0, f1⟩ := cells2 K1.out
  clear hb1
  go_wp2_with fail
  refine (has_prog M S r T _).mono ?_
  rintro e w2 ⟨rfl, hb2⟩
  rw [HH.out]
  have K02 := Lib.hid (aw K0.out hb2)
  have K12 := Lib.hid (aw K1.out hb2)
  obtain ⟨d0, d1, d2⟩ := cells3 K02.out
  obtain ⟨q0, q1, g0, g1⟩ := cells2 K12.out
  have HB2 := Lib.hid (HB.out.trans (hb2.mono HB.out.size))
  clear hb2 c0 c1 c2 p0 p1 f0 f1 K0 K1
  go_wp2_with fail
  refine (par_prog M T S r _ (by omega) (by omega) (by omega)).mono ?_
  rintro e w3 ⟨rfl, hb3⟩
  unfold bD
  rw [HPQ.out]
  have K03 := Lib.hid (aw K02.out hb3)
  have K13 := Lib.hid (aw K12.out hb3)
  obtain ⟨c0, c1, c2⟩ := cells3 K03.out
  obtain ⟨p0, p1, f0, f1⟩ := cells2 K13.out
  have hs3 : w.heap.size + 1 < w3.heap.size := bN K13.out
  have hs4 : w.heap.size < w3.heap.size := bN K03.out
  have HB3 := Lib.hid (HB2.out.trans (hb3.mono HB2.out.size))
  clear hb3 d0 d1 d2 q0 q1 g0 g1 K02 K12 hs
  go_wp2
  rw [HNI.out]
  have K04 := Lib.hid (blk_past K03.out (.cells #[.int .i64 T, .int .i64 P] 48))
  have K14 := Lib.hid (blk_past K13.out (.cells #[.int .i64 T, .int .i64 P] 48))
  have HB4 := Lib.hid (HB3.out.alloc HB3.out.size (.cells #[.int .i64 T, .int .i64 P] 48))
  clear c0 c1 c2 p0 p1 f0 f1 hs3 hs4 K03 K13 HB3
  generalize w3.alloc (.cells #[.int .i64 T, .int .i64 P] 48) = w4 at *
  have CC := fun (w' : World) (hw : Below w4.heap.size w4 w') => cells3 (aw K04.out hw)
  have PP := fun (w' : World) (hw : Below w4.heap.size w4 w') => cells2 (aw K14.out hw)
  refine aN (B := w4.heap.size) (by kernel_rfl) ?_
  refine av rfl (fun w' hw => ai rfl (ev rfl) faPm0) ?_
  simp only [Act.put, aa, ac, ae]
  refine av rfl (fun w' hw => aq rfl (ev rfl) (ldIg (PP w' hw).1)) ?_
  simp only [Act.put, aa, ac, ae]
  refine av rfl (fun w' hw => aq rfl (ev rfl) (ldGg (CC w' hw).1 (CC w' hw).2.1 (CC w' hw).2.2)) ?_
  simp only [Act.put, aa, ac, ae]
  refine qv_call rfl (fun _ => ar Try.call60 rfl (evc (ev rfl) evn)) (above_of (Nat.le_refl _) fun w' hw => width_prog M S r w' (by omega) (by omega)) ?_
  simp only [Act.put, aa, ac, ae]
  refine av rfl (fun w' hw => exec_mul rfl (ev rfl) (ev rfl) HM.out) ?_
  simp only [Act.put, aa, ac, ae]
  refine av rfl (fun w' hw => ah rfl (ev rfl)) ?_
  simp only [Act.put, aa, ac, ae]
  refine av rfl (fun w' hw => bf rfl (ev rfl) (ev rfl) HA.out) ?_
  simp only [Act.put, aa, ac, ae]
  refine av rfl (fun w' hw => al rfl (ev rfl)) ?_
  simp only [Act.put, aa, ac, ae]
  refine av rfl (fun w' hw => al rfl evk) ?_
  simp only [Act.put, aa, ac, ae]
  refine wpQuiet_nil ?_
  intro w5 hw5
  go_wp2_with fail
  go_ret2
  exact ⟨rfl, HB4.out.trans (hw5.mono HB4.out.size)⟩
theorem block_prog (m s r t k : Int) (w : World) : Calls Try.prog 38 #[geoV m s r, bD t k] w fun e w' => e = .returned (blV m s r t k) ∧ Below w.heap.size w w' := by
  cases h : may m s r
  · exact block_no m s r t k w h
  · cases h' : inP m s t k
    · exact block_out m s r t k w h h'
    · obtain ⟨M, S, rfl, rfl, _⟩ := nat_geo h
      have hn := inP_iff.1 h'
      obtain ⟨T, rfl⟩ := Int.eq_ofNat_of_zero_le hn.1
      obtain ⟨j, rfl⟩ := Int.eq_ofNat_of_zero_le hn.2.2.1
      by_cases hp : j = par M T
      · exact block_par M S T j r w h h' hp
      · exact block_in M S T j r w h h' hp
section
variable {b : Nat} {w : World}
theorem faSq0 : (Instr.fieldAt 39 (.pointer (some ⟨b, 0, none⟩)) 0).run Try.prog w = .ok (.pointer (some ⟨b, 0, none⟩)) w := by kernel_rfl
theorem faSq1 : (Instr.fieldAt 39 (.pointer (some ⟨b, 0, none⟩)) 1).run Try.prog w = .ok (.pointer (some ⟨b, 3, none⟩)) w := by kernel_rfl
theorem faSq2 : (Instr.fieldAt 39 (.pointer (some ⟨b, 0, none⟩)) 2).run Try.prog w = .ok (.pointer (some ⟨b, 4, none⟩)) w := by kernel_rfl
theorem ldLl {ad : Addr} {a : Option Addr} (h : w.cell? ad = some (.pointer a)) : (Instr.loadAt 34 (.pointer (some ad))).run Try.prog w = .ok (.pointer a) w := by simp [go_sem, h]
theorem ldMl {ad : Addr} {a : Option Nat} (h : w.cell? ad = some (.map a)) : (Instr.loadAt 37 (.pointer (some ad))).run Try.prog w = .ok (.map a) w := by simp [go_sem, h]
end
section
variable {ρ : Operand → Value} {o : Oper} {x y : Operand} {w : World} {t rr : TypeId}
theorem exec_neMap {k1 v1 : TypeId} {m : Option Nat} (c : Bool) (hp : Try.prog.underlying t = some (.map k1 v1)) (ho : o.op = .binOp .neq t x y rr) (hx : ρ x = .map m) (hy : ρ y = .map none) (h : (!decide (m = none)) = c) : (execOp ρ o).run Try.prog w = .ok (.value (.bool c)) w := by
  have hg : (eqGuard .neq t x y (.map m) (.map none)).run Try.prog w = .ok () w := by simp [eqGuard]
  have hb := run_neq_map_nil w t k1 v1 m hp
  unfold execOp
  simp only [ho, hx, hy, Sem.run_bind, hg, hb, Result.andThen_ok, Sem.run_pure]
  rw [← h]
  cases m <;> rfl
theorem exec_bldP (n : Int) (ho : o.op = .build 48 #[(0, x)]) (hx : ρ x = .int .i64 n) : (execOp ρ o).run Try.prog w = .ok (.value (.agg #[.int .i64 n, .int .i64 0])) w :=
  exec_bld1 ho hx (by kernel_rfl)
end
theorem gx_may {N T : Nat} {r : Int} (h : geoB (gx N T r) = true) : may (N : Int) (T : Int) r = true := by
  obtain ⟨k1, k2, k3, k4, k5, k6⟩ := of_geoB h
  exact may_iff.2 ⟨k1, k2, k3, k4, k5, k6⟩
theorem gx_of {N T : Nat} {r : Int} (h : geoB (gx N T r) = true) : 3 ≤ N ∧ N ≤ 16 ∧ 1 ≤ T ∧ T ≤ 64 ∧ 40 ≤ r ∧ r ≤ 256 := by
  obtain ⟨k1, k2, k3, k4, k5, k6⟩ := may_iff.1 (gx_may h)
  exact ⟨by omega, by omega, by omega, by omega, k5, k6⟩
theorem blE_ne {N T : Nat} {r n m : Int} (h : geoB (gx N T r) = true) : (blE (N : Int) (T : Int) r n m != 12) = decide (0 ≤ n ∧ n < (T : Int) ∧ 0 ≤ m ∧ m < (N : Int)) := by
  unfold blE
  rw [if_pos (gx_may h)]
  cases hi : inP (N : Int) (T : Int) n m
  · rw [decide_eq_false (inP_not.1 hi)]
    rfl
  · rw [decide_eq_true (inP_iff.1 hi), if_pos rfl]
    split <;> rfl
set_option maxHeartbeats 1000000 in
theorem ppar (M S T : Nat) (r : Int) (w : World) (h : may M S r = true) (h' : has S T = true) : Calls Try.prog 44 #[geoV M S r, .int .i64 T] w fun e w' => e = .returned (.tuple #[.int .i64 (par M T), .int .i64 0]) ∧ Below w.heap.size w w' := by
  have hm := may_iff.1 h
  have ht := has_iff.1 h'
  have hf := fieldP1 T (par M T)
  have H := Lib.hid h
  have H' := Lib.hid h'
  clear h h'
  unfold geoV
  go_enter Try.func44, Try.ntmps44
  go_wp2_with fail
  refine (may_prog M S r _).mono ?_
  rintro e w1 ⟨rfl, hb1⟩
  obtain ⟨K0, HB⟩ := behind_g hb1 (new1 ..)
  obtain ⟨c0, c1, c2⟩ := cells3 K0.out
  rw [H.out]
  clear hb1
  go_wp2_with fail
  refine (has_prog M S r T _).mono ?_
  rintro e w2 ⟨rfl, hb2⟩
  obtain ⟨d0, d1, d2⟩ := cells3 (aw K0.out hb2)
  rw [H'.out]
  go_wp2_with fail
  refine (par_prog M T S r _ (by omega) (by omega) (by omega)).mono ?_
  rintro e w3 ⟨rfl, hb3⟩
  unfold bD
  go_wp2
  go_ret2
  exact ⟨rfl, (HB.out.trans (hb2.mono HB.out.size)).trans (hb3.mono (by have := HB.out.size; have := hb2.size; omega))⟩
section
variable {w : World} {t lp mp cn N T room K : Nat} {FL : Nat → Prop} {L : List Ky} {m : Nat → Option Nat} {ln : Nat → Option LnS} {r : Int} {s : ShS}
theorem ps_made (h : PRu w t lp mp FL L cn m ln N T room r) : Calls Try.prog 26 #[.pointer (some ⟨t, 0, none⟩)] w fun e w' => e = .returned (.bool true) ∧ w = w' := by
  have HH := Lib.hid h
  clear h
  go_enter Try.func26, Try.ntmps26
  go_upto_region 1 with fail
  refine wp_region_lit ?_
  refine af rfl (ah rfl (ev rfl)) ?_
  simp only [Act.put, aa, ac, ae]
  refine af (v := .bool true) rfl (bb true Try.underlying24 rfl (ev rfl) evk rfl) ?_
  simp only [Act.put, aa, ac, ae]
  refine af (v := .bool true) rfl (ah rfl (ev rfl)) ?_
  simp only [Act.put, aa, ac, ae]
  refine ak (am rfl rfl rfl rfl) (ah rfl (ev rfl)) ?_
  simp only [Act.put, aa, ac, ae]
  refine ak (am rfl rfl rfl rfl) (ao rfl (ev rfl)) ?_
  simp only [Act.put, aa, ac, ae]
  refine ak (am rfl rfl rfl rfl) (ai rfl (ev rfl) faSq2) ?_
  simp only [Act.put, aa, ac, ae]
  refine ak (am rfl rfl rfl rfl) (aq rfl (ev rfl) (ldMl (PRu.c4 HH.out))) ?_
  simp only [Act.put, aa, ac, ae]
  refine ak (v := .bool true) (am rfl rfl rfl rfl) (exec_neMap true Try.underlying37 rfl (ev rfl) evk rfl) ?_
  simp only [Act.put, aa, ac, ae]
  refine af (v := .bool true) rfl (aY rfl (ev rfl) (ev rfl)) ?_
  simp only [Act.put, aa, ac, ae]
  refine af (v := .bool true) rfl (al rfl (ev rfl)) ?_
  simp only [Act.put, aa, ac, ae]
  refine wpList_nil ?_
  go_wp2_with fail
  go_ret
  exact ⟨rfl, rfl⟩
theorem bY (n m' : Int) (h : PRu w t lp mp FL L cn m ln N T room r) : Calls Try.prog 27 #[.pointer (some ⟨t, 0, none⟩), .agg #[.int .i64 n, .int .i64 m']] w fun e w' => e = .returned (.bool (decide (0 ≤ n ∧ n < (T : Int) ∧ 0 ≤ m' ∧ m' < (N : Int)))) ∧ Below w.heap.size w w' := by
  have HE := Lib.hid (blE_ne (n := n) (m := m') h.may)
  obtain ⟨pb, hpb⟩ : ∃ pb, decide (0 ≤ n ∧ n < (T : Int) ∧ 0 ≤ m' ∧ m' < (N : Int)) = pb := ⟨_, rfl⟩
  rw [hpb] at HE ⊢
  clear hpb
  have hbx := (Below.refl w.heap.size w).alloc (Nat.le_refl _) (.cells ([.int .i64 n, .int .i64 m'] : List Value).toArray 48)
  have HP := Lib.hid (heap_alloc_new w (.cells ([.int .i64 n, .int .i64 m'] : List Value).toArray 48))
  have HH := Lib.hid (h.below hbx)
  have HB := Lib.hid hbx
  clear h hbx
  go_enter Try.func27, Try.ntmps27
  go_upto_region 0 with fail
  refine wp_region_lit ?_
  refine af rfl (bq (cs := [.int .i64 n, .int .i64 m']) rfl (ev rfl)) ?_
  simp only [Act.put, aa, ac, ae]
  refine af (v := .bool false) rfl (al rfl evk) ?_
  simp only [Act.put, aa, ac, ae]
  refine wpList_nil ?_
  generalize w.alloc (.cells ([.int .i64 n, .int .i64 m'] : List Value).toArray 48) = w1 at *
  go_upto_region 1 with fail
  refine aN (B := w1.heap.size) (by kernel_rfl) ?_
  refine av rfl (fun w' hw => ah rfl (ev rfl)) ?_
  simp only [Act.put, aa, ac, ae]
  refine av rfl (fun w' hw => ao rfl (ev rfl)) ?_
  simp only [Act.put, aa, ac, ae]
  refine av rfl (fun w' hw => ai rfl (ev rfl) faSq0) ?_
  simp only [Act.put, aa, ac, ae]
  refine av rfl (fun w' hw => aT (cs := ([.int .i64 (N : Int), .int .i64 (T : Int), .int .i64 r] : List Value)) Try.underlying23 rfl (by kernel_rfl) rfl (ev rfl) (PRu.geo (HH.out.below hw))) ?_
  simp only [Act.put, aa, ac, ae]
  refine av rfl (fun w' hw => aT (cs := [.int .i64 n, .int .i64 m']) Try.underlying48 rfl (by kernel_rfl) rfl (ev rfl) (aL (aw HP.out hw))) ?_
  simp only [Act.put, aa, ac, ae]
  refine qv_call rfl (fun _ => ar Try.call38 rfl (evc (ev rfl) (evc (ev rfl) evn))) (above_of (Nat.le_refl _) fun w' hw => block_prog (N : Int) (T : Int) r n m' _) ?_
  simp only [Act.put, aa, ac, ae]
  refine av rfl (fun w' hw => ah rfl (ev rfl)) ?_
  simp only [Act.put, aa, ac, ae]
  refine av rfl (fun w' hw => az rfl (ev rfl) rfl) ?_
  simp only [Act.put, aa, ac, ae]
  refine av rfl (fun w' hw => az rfl (ev rfl) rfl) ?_
  simp only [Act.put, aa, ac, ae]
  refine av rfl (fun w' hw => al rfl (ev rfl)) ?_
  simp only [Act.put, aa, ac, ae]
  refine av rfl (fun w' hw => al rfl (ev rfl)) ?_
  simp only [Act.put, aa, ac, ae]
  refine wpQuiet_nil ?_
  intro w2 hw
  have HW := Lib.hid (HB.out.trans (hw.mono HB.out.size))
  clear hw
  go_upto_region 2 with fail
  refine wp_region_lit ?_
  refine af rfl (ah rfl (ev rfl)) ?_
  simp only [Act.put, aa, ac, ae]
  refine af rfl (aE pb rfl (ev rfl) evk HE.out) ?_
  simp only [Act.put, aa, ac, ae]
  refine af rfl (al rfl (ev rfl)) ?_
  simp only [Act.put, aa, ac, ae]
  refine wpList_nil ?_
  go_wp2_with fail
  go_ret
  exact ⟨rfl, HW.out⟩
theorem ps_parity {n : Nat} (hn : n < T) (h : PRu w t lp mp FL L cn m ln N T room r) : Calls Try.prog 31 #[.pointer (some ⟨t, 0, none⟩), .int .i64 (n : Int)] w fun e w' => e = .returned (.int .i64 ((N - 1 - n % N : Nat) : Int)) ∧ Below w.heap.size w w' := by
  have HM := Lib.hid (gx_may h.may)
  have HS : Hid (has (T : Int) (n : Int) = true) := Lib.hid (has_iff.2 ⟨by omega, by omega⟩)
  have HH := Lib.hid h
  clear h hn
  go_enter Try.func31, Try.ntmps31
  go_upto_region 1 with fail
  refine wp_region_lit ?_
  refine af rfl (ah rfl (ev rfl)) ?_
  simp only [Act.put, aa, ac, ae]
  refine af rfl (ao rfl (ev rfl)) ?_
  simp only [Act.put, aa, ac, ae]
  refine af rfl (ai rfl (ev rfl) faSq0) ?_
  simp only [Act.put, aa, ac, ae]
  refine af rfl (aT (cs := ([.int .i64 (N : Int), .int .i64 (T : Int), .int .i64 r] : List Value)) Try.underlying23 rfl (by kernel_rfl) rfl (ev rfl) (PRu.geo HH.out)) ?_
  simp only [Act.put, aa, ac, ae]
  refine af rfl (ah rfl (ev rfl)) ?_
  simp only [Act.put, aa, ac, ae]
  refine aj rfl (ar Try.call44 rfl (evc (ev rfl) (evc (ev rfl) evn))) ?_
  refine (ppar N T n r w HM.out HS.out).mono ?_
  rintro e w1 ⟨rfl, b1⟩
  have HB := Lib.hid b1
  clear b1
  refine ⟨_, rfl, ?_⟩
  simp only [Act.put, aa, ac, ae]
  refine af rfl (ah rfl (ev rfl)) ?_
  simp only [Act.put, aa, ac, ae]
  refine af rfl (az rfl (ev rfl) rfl) ?_
  simp only [Act.put, aa, ac, ae]
  refine af rfl (az rfl (ev rfl) rfl) ?_
  simp only [Act.put, aa, ac, ae]
  refine af rfl (al rfl (ev rfl)) ?_
  simp only [Act.put, aa, ac, ae]
  refine af rfl (al rfl (ev rfl)) ?_
  simp only [Act.put, aa, ac, ae]
  refine wpList_nil ?_
  go_upto_region 2 with fail
  refine wp_region_lit ?_
  refine af rfl (ah rfl (ev rfl)) ?_
  simp only [Act.put, aa, ac, ae]
  refine af rfl (al rfl (ev rfl)) ?_
  simp only [Act.put, aa, ac, ae]
  refine wpList_nil ?_
  go_wp2_with fail
  go_ret
  exact ⟨rfl, HB.out⟩
def mayE (T : Nat) (n : Int) : Int := if decide (0 ≤ n ∧ n < (T : Int)) = true then 0 else 2
theorem ps_may (n : Int) (h : PRu w t lp mp FL L cn m ln N T room r) : Calls Try.prog 23 #[.pointer (some ⟨t, 0, none⟩), .int .i64 n] w fun e w' => e = .returned (.int .i64 (mayE T n)) ∧ Below w.heap.size w w' := by
  have hg := gx_of h.may
  have HE : Hid (decide (0 ≤ n ∧ n < (T : Int) ∧ 0 ≤ (0 : Int) ∧ (0 : Int) < (N : Int)) = decide (0 ≤ n ∧ n < (T : Int))) := Lib.hid (by
    rw [Bool.eq_iff_iff, decide_eq_true_iff, decide_eq_true_iff]; omega)
  have HH := Lib.hid h
  clear h hg
  go_enter Try.func23, Try.ntmps23
  go_upto_region 1 with fail
  refine wp_region_lit ?_
  refine af rfl (ah rfl (ev rfl)) ?_
  simp only [Act.put, aa, ac, ae]
  refine aj rfl (ar Try.call26 rfl (evc (ev rfl) evn)) ?_
  refine (ps_made HH.out).mono ?_
  rintro e w' ⟨rfl, rfl⟩
  refine ⟨_, rfl, ?_⟩
  simp only [Act.put, aa, ac, ae]
  refine af (v := .bool false) rfl (aG true rfl (ev rfl)) ?_
  simp only [Act.put, aa, ac, ae]
  refine af (v := .bool false) rfl (al rfl (ev rfl)) ?_
  simp only [Act.put, aa, ac, ae]
  refine wpList_nil ?_
  cases hd : decide (0 ≤ n ∧ n < (T : Int))
  · have HD := Lib.hid hd
    clear hd
    go_upto_region 3 with fail
    refine wp_region_lit ?_
    refine af rfl (ah rfl (ev rfl)) ?_
    simp only [Act.put, aa, ac, ae]
    refine af rfl (ah rfl (ev rfl)) ?_
    simp only [Act.put, aa, ac, ae]
    refine af rfl (exec_bldP n rfl (ev rfl)) ?_
    simp only [Act.put, aa, ac, ae]
    refine aj rfl (ar Try.call27 rfl (evc (ev rfl) (evc (ev rfl) evn))) ?_
    refine (bY n 0 HH.out).mono ?_
    rintro e w1 ⟨rfl, b1⟩
    rw [HE.out]
    rw [HD.out]
    have HB := Lib.hid b1
    clear b1
    refine ⟨_, rfl, ?_⟩
    simp only [Act.put, aa, ac, ae]
    refine af (v := .bool true) rfl (aG false rfl (ev rfl)) ?_
    simp only [Act.put, aa, ac, ae]
    refine af (v := .bool true) rfl (al rfl (ev rfl)) ?_
    simp only [Act.put, aa, ac, ae]
    refine wpList_nil ?_
    go_wp2_with fail
    go_ret
    exact ⟨by unfold mayE; rw [HD.out]; rfl, HB.out⟩
  · have HD := Lib.hid hd
    clear hd
    go_upto_region 3 with fail
    refine wp_region_lit ?_
    refine af rfl (ah rfl (ev rfl)) ?_
    simp only [Act.put, aa, ac, ae]
    refine af rfl (ah rfl (ev rfl)) ?_
    simp only [Act.put, aa, ac, ae]
    refine af rfl (exec_bldP n rfl (ev rfl)) ?_
    simp only [Act.put, aa, ac, ae]
    refine aj rfl (ar Try.call27 rfl (evc (ev rfl) (evc (ev rfl) evn))) ?_
    refine (bY n 0 HH.out).mono ?_
    rintro e w1 ⟨rfl, b1⟩
    rw [HE.out]
    rw [HD.out]
    have HB := Lib.hid b1
    clear b1
    refine ⟨_, rfl, ?_⟩
    simp only [Act.put, aa, ac, ae]
    refine af (v := .bool false) rfl (aG true rfl (ev rfl)) ?_
    simp only [Act.put, aa, ac, ae]
    refine af (v := .bool false) rfl (al rfl (ev rfl)) ?_
    simp only [Act.put, aa, ac, ae]
    refine wpList_nil ?_
    go_wp2_with fail
    go_ret
    exact ⟨by unfold mayE; rw [HD.out]; rfl, HB.out⟩
theorem ps_Stripes (h : PRu w t lp mp FL L cn m ln N T room r) : Calls Try.prog 19 #[.pointer (some ⟨t, 0, none⟩)] w fun e w' => ∃ v, e = .returned v ∧ ax aH w' w.heap.size v (keyL L) ∧ Below w.heap.size w w' := by
  have HH := Lib.hid h
  clear h
  go_enter Try.func19, Try.ntmps19
  go_upto_region 1 with fail
  refine wp_region_lit ?_
  refine af rfl (ah rfl (ev rfl)) ?_
  simp only [Act.put, aa, ac, ae]
  refine aj rfl (ar Try.call26 rfl (evc (ev rfl) evn)) ?_
  refine (ps_made HH.out).mono ?_
  rintro e w' ⟨rfl, rfl⟩
  refine ⟨_, rfl, ?_⟩
  simp only [Act.put, aa, ac, ae]
  refine af (v := .bool false) rfl (aG true rfl (ev rfl)) ?_
  simp only [Act.put, aa, ac, ae]
  refine wpList_nil ?_
  go_upto_region 3 with fail
  refine wp_region_lit ?_
  refine af rfl (ah rfl (ev rfl)) ?_
  simp only [Act.put, aa, ac, ae]
  refine af rfl (ao rfl (ev rfl)) ?_
  simp only [Act.put, aa, ac, ae]
  refine af rfl (ai rfl (ev rfl) faSq1) ?_
  simp only [Act.put, aa, ac, ae]
  refine af rfl (aq rfl (ev rfl) (ldLl (PRu.c3 HH.out))) ?_
  simp only [Act.put, aa, ac, ae]
  refine aj rfl (ar Try.call33 rfl (evc (ev rfl) evn)) ?_
  refine (pl_keysF w HH.out.li).mono ?_
  rintro e w1 ⟨v, rfl, m1, b1⟩
  have HM := Lib.hid m1
  have HB := Lib.hid b1
  clear m1 b1
  refine ⟨_, rfl, ?_⟩
  simp only [Act.put, aa, ac, ae]
  refine af rfl (al rfl (ev rfl)) ?_
  simp only [Act.put, aa, ac, ae]
  refine wpList_nil ?_
  go_wp2_with fail
  go_ret
  exact ⟨v, rfl, HM.out, HB.out⟩
end
def drtO (d : Nat → Bool) (l : List Nat) : List Int := (l.filter d).map fun (n : Nat) => (n : Int)
theorem drtO_snoc {d : Nat → Bool} {l : List Nat} {i : Nat} {b : Bool} (hi : i < l.length) (h : d (l.getD i 0) = b) : drtO d (l.take (i + 1)) = drtO d (l.take i) ++ (if b = true then [((l.getD i 0 : Nat) : Int)] else []) := by
  subst h
  unfold drtO
  rw [List.take_add_one, List.getElem?_eq_getElem hi, List.filter_append, List.map_append, List.getD, List.getElem?_eq_getElem hi]
  congr 1
  simp only [Option.toList_some, List.filter_cons, List.filter_nil, Option.getD_some]
  split <;> rfl
theorem drtO_len (d : Nat → Bool) (l : List Nat) : (drtO d l).length ≤ l.length := by unfold drtO; rw [List.length_map]; exact List.length_filter_le _ _
theorem dtyK_sorted (d : Nat → Bool) : ∀ k, (dtyK d k).Pairwise (fun a b => a < b)
  | 0 => List.Pairwise.nil
  | k + 1 => by
    rw [dtyK, List.pairwise_append]
    refine ⟨dtyK_sorted d k, ?_, fun a ha b hb => ?_⟩
    · split
      · exact List.pairwise_singleton _ _
      · exact List.Pairwise.nil
    · obtain ⟨j, rfl, hj, _⟩ := dtyK_mem.1 ha
      split at hb
      · have := List.mem_singleton.1 hb; omega
      · cases hb
theorem sort_dirty {s : ShS} (h : ShOk s) : (drtO s.dty s.o).mergeSort (fun x y => decide (x ≤ y)) = s.aW := by
  have tr : ∀ a b c : Int, decide (a ≤ b) = true → decide (b ≤ c) = true → decide (a ≤ c) = true := fun a b c h1 h2 => by simp only [decide_eq_true_eq] at *; omega
  have tot : ∀ a b : Int, (decide (a ≤ b) || decide (b ≤ a)) = true := fun a b => by simp only [Bool.or_eq_true, decide_eq_true_eq]; omega
  have hs := dtyK_sorted s.dty s.T
  refine List.Perm.eq_of_pairwise (le := fun a b => decide (a ≤ b) = true) (fun a b _ _ h1 h2 => by simp only [decide_eq_true_eq] at h1 h2; omega) (List.pairwise_mergeSort tr tot _) (hs.imp fun {a b} hab => by simp only [decide_eq_true_eq]; omega) ((List.mergeSort_perm _ _).trans ?_)
  refine (List.perm_ext_iff_of_nodup ?_ (hs.imp fun {a b} hab e => by omega)).2 fun a => ?_
  · unfold drtO
    refine List.pairwise_map.2 ((h.nd.filter _).imp fun {a b} hab e => hab (by omega))
  · unfold drtO
    rw [List.mem_map]
    constructor
    · rintro ⟨n, hn, rfl⟩
      have := List.mem_filter.1 hn
      exact ShS.dirty_mem.2 ⟨h.lt n this.1, this.2⟩
    · intro ha
      obtain ⟨j, rfl, hj, hd⟩ := dtyK_mem.1 ha
      exact ⟨j, List.mem_filter.2 ⟨(h.mem j).2 (bF hd), hd⟩, rfl⟩
theorem unlk_append : ∀ (a b l : List Int), unlk l (a ++ b) = unlk (unlk l a) b
  | [], b, l => rfl
  | x :: a, b, l => by rw [List.cons_append, unlk, unlk, unlk_append a b]
theorem unlk_mono : ∀ (r l : List Int), l.length ≤ (unlk l r).length
  | [], l => Nat.le_refl _
  | x :: r, l => by
    rw [unlk]
    refine Nat.le_trans ?_ (unlk_mono r _)
    split <;> simp
theorem unlk_snocP (l r : List Int) (x : Int) : unlk l (r ++ [x]) = if (unlk l r).contains x = true then unlk l r else unlk l r ++ [x] := by rw [unlk_append]; rfl
theorem takeP_ {l : List Int} {i : Nat} (hi : i < l.length) : l.take (i + 1) = l.take i ++ [l.getD i 0] := by
  rw [List.take_add_one, List.getElem?_eq_getElem hi, List.getD, List.getElem?_eq_getElem hi]; rfl
theorem unlk_take (l r : List Int) (i : Nat) : (unlk l (r.take i)).length ≤ (unlk l r).length := by
  conv => rhs; rw [← List.take_append_drop i r, unlk_append]
  exact unlk_mono _ _
theorem unlk_self {s : ShS} : ∀ (l r : List Int), (l ++ r).Nodup → unlk l r = l ++ r
  | l, [], _ => by simp [unlk]
  | l, x :: r, h => by
    have hx : ¬ l.contains x = true := fun e => by
      have hm : x ∈ l := by simpa using e
      rw [List.nodup_append] at h
      exact h.2.2 x hm x (List.mem_cons_self ..) rfl
    rw [unlk, if_neg hx, unlk_self (s := s) (l ++ [x]) r (by rw [List.append_assoc]; exact h), List.append_assoc]
    rfl
theorem dirty_nodup (s : ShS) : s.aW.Nodup := (dtyK_sorted s.dty s.T).imp fun {a b} hab e => by omega
theorem unlk_nil (s : ShS) (i : Nat) : unlk [] (s.aW.take i) = s.aW.take i := by
  have := unlk_self (s := s) [] (s.aW.take i) (by rw [List.nil_append]; exact (dirty_nodup s).sublist (List.take_sublist _ _))
  rw [this, List.nil_append]
theorem ShOk.dirty_le {s : ShS} (h : ShOk s) : s.aW.length ≤ s.room := by
  rw [← sort_dirty h, List.length_mergeSort]
  exact Nat.le_trans (drtO_len _ _) h.len
open Go.RowKit Go.Shelf
def sortR : Ren := { f := fun x => match x with | 189 => 21 | 125 => 36 | 257 => 35 | 128 => 55 | 129 => 56 | 294 => 46 | 295 => 47 | 296 => 48 | 297 => 49 | 298 => 50 | 299 => 51 | 216 => 52 | 300 => 53 | 301 => 54 | 328 => 66 | 329 => 67 | 330 => 68 | 331 => 69 | 332 => 70 | 215 => 71 | 343 => 72 | n => n, t := fun x => match x with | 28 => 41 | 3 => 3 | 46 => 80 | 0 => 0 | 51 => 106 | 53 => 46 | 4 => 4 | 183 => 98 | 182 => 97 | 131 => 103 | 5 => 5 | 9 => 9 | 218 => 113 | 222 => 116 | 228 => 118 | 229 => 119 | n => n, g := fun x => x }
theorem sortL : Lays.n189 Try.prog sortR := {
  mixed := (by kernel_rfl),
  f125 := Try.func36.trans (congrArg some (by kernel_rfl)),
  f128 := Try.func55.trans (congrArg some (by kernel_rfl)),
  f129 := Try.func56.trans (congrArg some (by kernel_rfl)),
  f189 := Try.func21.trans (congrArg some (by kernel_rfl)),
  f215 := Try.func71.trans (congrArg some (by kernel_rfl)),
  f216 := Try.func52.trans (congrArg some (by kernel_rfl)),
  f257 := Try.func35.trans (congrArg some (by kernel_rfl)),
  f294 := Try.func46.trans (congrArg some (by kernel_rfl)),
  f295 := Try.func47.trans (congrArg some (by kernel_rfl)),
  f296 := Try.func48.trans (congrArg some (by kernel_rfl)),
  f297 := Try.func49.trans (congrArg some (by kernel_rfl)),
  f298 := Try.func50.trans (congrArg some (by kernel_rfl)),
  f299 := Try.func51.trans (congrArg some (by kernel_rfl)),
  f300 := Try.func53.trans (congrArg some (by kernel_rfl)),
  f301 := Try.func54.trans (congrArg some (by kernel_rfl)),
  f328 := Try.func66.trans (congrArg some (by kernel_rfl)),
  f329 := Try.func67.trans (congrArg some (by kernel_rfl)),
  f330 := Try.func68.trans (congrArg some (by kernel_rfl)),
  f331 := Try.func69.trans (congrArg some (by kernel_rfl)),
  f332 := Try.func70.trans (congrArg some (by kernel_rfl)),
  f343 := Try.func72.trans (congrArg some (by kernel_rfl)),
  t0 := Try.underlying0,
  a0 := Try.isAgg0,
  z0 := Try.sizeOf0,
  v0 := Try.zeroValue0,
  t3 := Try.underlying3,
  a3 := Try.isAgg3,
  z3 := Try.sizeOf3,
  v3 := Try.zeroValue3,
  t4 := Try.underlying4,
  a4 := Try.isAgg4,
  z4 := Try.sizeOf4,
  v4 := Try.zeroValue4,
  t5 := Try.underlying5,
  a5 := Try.isAgg5,
  z5 := Try.sizeOf5,
  v5 := Try.zeroValue5,
  t9 := Try.underlying9,
  a9 := Try.isAgg9,
  z9 := Try.sizeOf9,
  v9 := Try.zeroValue9,
  t28 := Try.underlying41,
  a28 := Try.isAgg41,
  z28 := Try.sizeOf41,
  v28 := Try.zeroValue41,
  t46 := Try.underlying80,
  a46 := Try.isAgg80,
  z46 := Try.sizeOf80,
  v46 := Try.zeroValue80,
  t51 := Try.underlying106,
  a51 := Try.isAgg106,
  z51 := Try.sizeOf106,
  v51 := Try.zeroValue106,
  t53 := Try.underlying46,
  a53 := Try.isAgg46,
  z53 := Try.sizeOf46,
  v53 := Try.zeroValue46,
  t131 := Try.underlying103,
  a131 := Try.isAgg103,
  z131 := Try.sizeOf103,
  v131 := Try.zeroValue103,
  t182 := Try.underlying97,
  a182 := Try.isAgg97,
  z182 := Try.sizeOf97,
  v182 := Try.zeroValue97,
  t183 := Try.underlying98,
  a183 := Try.isAgg98,
  z183 := Try.sizeOf98,
  v183 := Try.zeroValue98,
  t218 := Try.underlying113,
  a218 := Try.isAgg113,
  z218 := Try.sizeOf113,
  v218 := Try.zeroValue113,
  t222 := Try.underlying116,
  a222 := Try.isAgg116,
  z222 := Try.sizeOf116,
  v222 := Try.zeroValue116,
  t228 := Try.underlying118,
  a228 := Try.isAgg118,
  z228 := Try.sizeOf118,
  v228 := Try.zeroValue118,
  t229 := Try.underlying119,
  a229 := Try.isAgg119,
  z229 := Try.sizeOf119,
  v229 := Try.zeroValue119 }
section
variable {w : World} {g c n B : Nat} {os : Array Obj} {l ts : List Int}
theorem grown_sort (d : Array Int) : w.grownBy (Go.Sort.grow (Go.Sort.putRow (Value.int .i64) (Go.Sort.ahead w n) g 0 d) os) (some g) := by
  refine ⟨rfl, rfl, rfl, by simp, fun k hk hne => ?_⟩
  rw [Go.Sort.heap_grow_old _ _ (by simpa using hk)]
  have : g ≠ k := fun e => hne (by rw [e])
  simp [Go.Sort.putRow, Go.Sort.mapBlock, Go.Sort.ahead, Array.getElem?_modify, this]
theorem made_sort (h : ax aH w B (.slice (some ⟨g, 0, none⟩) l.length c) l) (hl : ts.length = l.length) : ax aH (Go.Sort.grow (Go.Sort.putRow (Value.int .i64) (Go.Sort.ahead w n) g 0 ts.toArray) os) B (.slice (some ⟨g, 0, none⟩) l.length c) ts := by
  rcases h.2 with ⟨h0, _⟩ | ⟨g', cap, cur, hv, hB, hg, h1, h2, h3, h4⟩
  · cases h0
  · injection hv with hv _ hc
    injection hv with hv
    injection hv with hv
    subst hv hc
    have hgl : g < w.heap.size := (Array.getElem?_eq_some_iff.1 hg).1
    have e3 : cur.size = c := by rw [h3]; show c * 1 = c; omega
    refine ⟨by simp [aJ], .inr ⟨g, c, Go.Sort.putCells (Value.int .i64) 0 ts.toArray cur, by rw [hl], hB, ?_, by omega, h2, by simp [Go.Sort.putCells, h3], ?_⟩⟩
    · rw [Go.Sort.heap_grow_old _ _ (by simpa using hgl)]
      simp [Go.Sort.putRow, Go.Sort.mapBlock, Go.Sort.ahead, Array.getElem?_modify, hg, Go.Sort.onCells]
    · rw [flat_ints, show ts.length * aH.n = ts.length from Nat.mul_one _]
      apply List.ext_getElem?
      intro j
      by_cases hj : j < ts.length
      · rw [List.getElem?_take_of_lt hj, Array.getElem?_toList]
        simp [Go.Sort.putCells, hj, show j < cur.size by omega]
      · rw [List.getElem?_take_eq_none (by omega), List.getElem?_eq_none (by simp; omega)]
end
theorem sort_any {w : World} {B : Nat} {v : Value} {l : List Int} (h : ax aH w B v l) (hB : B ≤ w.heap.size) (hl : l.length < 4611686018427387904) :
    Calls Try.prog 21 #[v] w fun e w' => e = .returned (.tuple #[]) ∧ ax aH w' B v (l.mergeSort fun x y => decide (x ≤ y)) ∧ Below B w w' := by
  rcases h.2 with ⟨hv, h0⟩ | ⟨g, cap, cur, hv, hg0, hg, h1, h2, h3, h4⟩
  · have hl0 : l = [] := List.eq_nil_of_length_eq_zero h0
    subst hl0 hv
    exact (Any.slices_Sort_int_none sortL none 0 w).mono fun e w' ⟨h1, h2⟩ => ⟨h1, by subst h2; rw [List.mergeSort_nil]; exact h, by subst h2; exact Below.refl _ _⟩
  · subst hv
    have hH : Go.Sort.Holds (Value.int .i64) w g 0 l.toArray := fun j hj => by
      have hj' : j < l.length := by simpa using hj
      refine ⟨?_, by simp [World.frozen?, hg]⟩
      rw [flat_ints, show l.length * aH.n = l.length from Nat.mul_one _] at h4
      have e1 : (cur.toList.take l.length)[j]? = (l.map fun x => Value.int .i64 x)[j]? := by rw [h4]
      rw [List.getElem?_take_of_lt hj'] at e1
      simp only [World.cell?, hg, Nat.zero_add]
      simp only [Option.isSome_none, Bool.false_eq_true, if_false]
      rw [← Array.getElem?_toList, e1]
      simp [hj']
    refine (Any.slices_Sort_int sortL g 0 cap l w hH (Array.getElem?_eq_some_iff.1 hg).1 hl).mono ?_
    rintro e w' ⟨k1, n, os, rfl⟩
    exact ⟨k1, made_sort h (by rw [List.length_mergeSort]), (Below.refl B w).grown (grown_sort _) hB fun k hk => by injection hk with hk; subst hk; exact hg0⟩
end Go.Proofs.Ytdmhelalbemlcaa
