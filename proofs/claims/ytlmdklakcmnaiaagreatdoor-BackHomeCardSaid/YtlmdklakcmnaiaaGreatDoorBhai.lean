import Derived.Test.YtlmdklakcmnaiaaGreatDoorBhah
namespace Go.Proofs.YtlmdklakcmnaiaaGreatDoor
set_option maxHeartbeats 8000000
open Go.Proofs.Tryz
open Go.RowKit
set_option linter.unusedVariables false
set_option linter.unusedSimpArgs false
set_option maxRecDepth 100000
def iy (m s r : Int) : Value := .agg #[.int .i64 m, .int .i64 s, .int .i64 r]
def eM (s m : Int) : Value := .agg #[.int .i64 s, .int .i64 m]
def may (m s r : Int) : Bool := decide (3 <= m /\ m <= 16 /\ 1 <= s /\ s <= 64 /\ 40 <= r /\ r <= 256)
theorem iA {m s r : Int} : may m s r = true ↔ (3 <= m /\ m <= 16 /\ 1 <= s /\ s <= 64 /\ 40 <= r /\ r <= 256) := by unfold may; rw [decide_eq_true_iff]
theorem aga {m s r : Int} : may m s r = false ↔ ¬(3 <= m /\ m <= 16 /\ 1 <= s /\ s <= 64 /\ 40 <= r /\ r <= 256) := by unfold may; rw [decide_eq_false_iff_not]
def has (s t : Int) : Bool := decide (0 <= t /\ t < s)
theorem gi {s t : Int} : has s t = true ↔ (0 <= t /\ t < s) := by unfold has; rw [decide_eq_true_iff]
theorem aeu {s t : Int} : has s t = false ↔ ¬(0 <= t /\ t < s) := by unfold has; rw [decide_eq_false_iff_not]
theorem ji (m s r : Int) (w : World) : Calls prog 47 #[iy m s r] w fun e w' => e = .returned (.bool (may m s r)) /\ Below w.heap.size w w' := by
 unfold iy;go_enter func47, ntmps47;go_wp2
 all_goals
  go_ret;refine ⟨bf ?_, ak.alloc aj _⟩
  first
   |(refine Eq.symm (aga.2 ?_); omega)
   |(rw [Bool.eq_iff_iff, iA, decide_eq_true_iff]; omega)
theorem kt (m s r t : Int) (w : World) : Calls prog 119 #[iy m s r, .int .i64 t] w fun e w' => e = .returned (.bool (has s t)) /\ Below w.heap.size w w' := by
 unfold iy;go_enter func119, ntmps119;go_wp2
 all_goals
  go_ret;refine ⟨bf ?_, ak.alloc aj _⟩
  first
   |(refine Eq.symm (aeu.2 ?_); omega)
   |(rw [Bool.eq_iff_iff, gi, decide_eq_true_iff]; omega)
theorem vt (M : Nat) (s r : Int) (w : World) (h3 : 3 <= M) (h16 : M <= 16) : Calls prog 121 #[iy M s r] w fun e w' => e = .returned (.int .i64 ((M - 1 : Nat) : Int)) /\ Below w.heap.size w w' := by
 unfold iy;go_enter func121, ntmps121;go_wp2;go_ret;exact ⟨dv (by omega), ak.alloc aj _⟩
def par (M T : Nat) : Nat := M - 1 - T % M
def dat (M T d : Nat) : Nat := (par M T + 1 + d) % M
section
variable {fn : Func} {p u : Tmp} {x y z : Int} {tmps : Array Value} {w : World} {b : Nat}
theorem wW (h0 : w.cell? ⟨b, 0, none⟩ = some (.int .i64 x)) (h1 : w.cell? ⟨b, 1, none⟩ = some (.int .i64 y)) : (loadVar 42 ⟨b, 0, none⟩).run prog w = .ok (eM x y) w := by
 simp [go_sem, loadVar, h0, h1, eM]
 done
end
section
variable {fn : Func} {p u : Tmp} {x y z : Int} {tmps : Array Value} {w : World} {b : Nat}
theorem zJ (h : fn.results = #[.cell p 42]) (hp : tmps.getD p undef = .pointer (some ⟨b, 0, none⟩)) (h0 : w.cell? ⟨b, 0, none⟩ = some (.int .i64 x)) (h1 : w.cell? ⟨b, 1, none⟩ = some (.int .i64 y)) :
  (results fn tmps).run prog w = .ok (eM x y) w := by
 have hp' : tmps[p]?.getD undef = .pointer (some ⟨b, 0, none⟩) := by simpa using hp
 simp [results, h, hp', asAddr, wW h0 h1]
end
theorem ad8 {M : Nat} (T : Nat) (h3 : 3 <= M) : (M : Int) - 1 - (T : Int) % (M : Int) = ((par M T : Nat) : Int) := by
 have hlt : T % M < M := Nat.mod_lt _ (by omega);have e : (T : Int) % (M : Int) = ((T % M : Nat) : Int) := rfl;rw [e];unfold par;omega
theorem mu {M : Nat} (T : Nat) (h3 : 3 <= M) : par M T < M := by unfold par; omega
section
variable {w : World} {a : Addr} {b : Nat} {m s r : Int}
theorem agk : (Instr.fieldAt 51 (.pointer (some ⟨b, 0, none⟩)) 0).run prog w = .ok (.pointer (some ⟨b, 0, none⟩)) w := by kernel_rfl
theorem yc : (Instr.fieldAt 42 (.pointer (some ⟨b, 0, none⟩)) 0).run prog w = .ok (.pointer (some ⟨b, 0, none⟩)) w := by kernel_rfl
theorem yy : (Instr.fieldAt 42 (.pointer (some ⟨b, 0, none⟩)) 1).run prog w = .ok (.pointer (some ⟨b, 1, none⟩)) w := by kernel_rfl
theorem ajW {k : IntKind} {x : Int} (h : w.cell? a = some (.int k x)) : (Instr.loadAt 3 (.pointer (some a))).run prog w = .ok (.int k x) w := by
 simp [go_sem, h]
theorem aj9 (h0 : w.cell? ⟨b, 0, none⟩ = some (.int .i64 m)) (h1 : w.cell? ⟨b, 1, none⟩ = some (.int .i64 s)) (h2 : w.cell? ⟨b, 2, none⟩ = some (.int .i64 r)) : (Instr.loadAt 51 (.pointer (some ⟨b, 0, none⟩))).run prog w = .ok (iy m s r) w := by
 simp [go_sem, h0, h1, h2, iy]
end
theorem ae0 (x y : Int) : ∀ w : World, (Instr.field 42 (.agg #[.int .i64 x, .int .i64 y]) 1).run prog w = .ok (.int .i64 y) w := fun _ => by kernel_rfl
theorem oy (M T : Nat) (s r : Int) (w : World) (h3 : 3 <= M) (h16 : M <= 16) (ht : T <= 64) : Calls prog 120 #[iy M s r, .int .i64 T] w fun e w' => e = .returned (eM T (par M T)) /\ Below w.heap.size w w' := by
 have hne : (M : Int) ≠ 0 := by omega
 unfold iy;go_enter func120, ntmps120;go_wp2
 go_region
 go_wp2;refine bodyPost_ret (zJ (b := w.heap.size + 1) (x := T) (y := par M T) rfl rfl (by go_simp) (by go_simp; rw [ad8 T h3]; exact wT (by have := mu T h3; omega))) rfl ⟨rfl, ?_⟩;exact bd ((ak.alloc aj _).alloc (by go_simp) _)
theorem aen {M S : Nat} (h3 : 3 <= M) (h16 : M <= 16) (h64 : S <= 64) : IntKind.i64.wrap ((S : Int) * ((M - 1 : Nat) : Int)) = ((S * (M - 1) : Nat) : Int) := by
 have h := Nat.mul_le_mul h64 (show M - 1 <= 15 by omega);rw [<- Int.natCast_mul];exact IntWalk.i64_in _ (by omega)
theorem aey {m s r : Int} (h : may m s r = true) : ∃ M S : Nat, m = M /\ s = S /\ 3 <= M /\ M <= 16 /\ 1 <= S /\ S <= 64 := by
 have := iA.1 h;exact ⟨m.toNat, s.toNat, by omega, by omega, by omega, by omega, by omega, by omega⟩
def aaV (t : Int) : Int := if has 64 t = true then 2 + t else 0
def aas (t : Int) : Int := if has 64 t = true then 0 else 12
theorem na (t : Int) (w : World) : Calls prog 80 #[.int .i64 t] w fun e w' => e = .returned (.tuple #[.int .i64 (aaV t), .int .i64 (aas t)]) /\ Below w.heap.size w w' := by
 go_enter func80, ntmps80;go_wp2
 all_goals
  go_ret2;refine ⟨uT ?_ ?_, ak⟩
  all_goals
   first
   |unfold aaV
   |unfold aas
   first
   |rw [if_pos (gi.2 (by omega))]
   |rw [if_neg (by rw [gi]; omega)]
section
variable {M T d m : Nat}
theorem aiG {x M : Nat} (h : x < 2 * M) : x % M = if x < M then x else x - M := by
 split
 ·exact Nat.mod_eq_of_lt (by assumption)
 ·rw [Nat.mod_eq_sub_mod (by omega), Nat.mod_eq_of_lt (by omega)]
def nth (M T m : Nat) : Nat := (m + M - par M T - 1) % M
theorem aiA (h3 : 3 <= M) (hd : d < M - 1) : dat M T d = if par M T + 1 + d < M then par M T + 1 + d else par M T + 1 + d - M := aiG (by have := mu T h3; omega)
theorem ac5 (h3 : 3 <= M) (hm : m < M) : nth M T m = if par M T < m then m - par M T - 1 else m + M - par M T - 1 := by
 unfold nth;have := mu T h3;rw [aiG (by omega)]
 split <;> split <;> omega
theorem aeT (h3 : 3 <= M) (hm : m < M) (hne : m ≠ par M T) : nth M T m < M - 1 /\ dat M T (nth M T m) = m := by
 have := mu T h3;have h1 : nth M T m < M - 1 := by rw [ac5 h3 hm]; split <;> omega
 refine ⟨h1, ?_⟩;rw [aiA h3 h1, ac5 h3 hm]
 split <;> split <;> omega
theorem afQ {M : Nat} (T m : Nat) (h3 : 3 <= M) : ((m : Int) + (M : Int) - ((par M T : Nat) : Int) - 1) % (M : Int) = ((nth M T m : Nat) : Int) := by
 have := mu T h3;have e : ((m : Int) + (M : Int) - ((par M T : Nat) : Int) - 1) = ((m + M - par M T - 1 : Nat) : Int) := by omega
 rw [e]; rfl
end
def inP (m s t k : Int) : Bool := decide (0 <= t /\ t < s /\ 0 <= k /\ k < m)
theorem n6 {m s t k : Int} : inP m s t k = true ↔ (0 <= t /\ t < s /\ 0 <= k /\ k < m) := by unfold inP; rw [decide_eq_true_iff]
theorem yi {m s t k : Int} : inP m s t k = false ↔ ¬(0 <= t /\ t < s /\ 0 <= k /\ k < m) := by unfold inP; rw [decide_eq_false_iff_not]
def blE (m s r t k : Int) : Int := if may m s r = true then (if inP m s t k = true then (if k.toNat = par m.toNat t.toNat then 7 else 0) else 12) else 2
def blN (m s r t k : Int) : Int := if may m s r = true then (if inP m s t k = true then (if k.toNat = par m.toNat t.toNat then 0 else ((t.toNat * (m.toNat - 1) + nth m.toNat t.toNat k.toNat : Nat) : Int)) else 0) else 0
def blV (m s r t k : Int) : Value := .tuple #[.int .i64 (blN m s r t k), .int .i64 (blE m s r t k)]
theorem agF {m s r : Int} (t k : Int) (h : may m s r = false) : blV m s r t k = .tuple #[.int .i64 0, .int .i64 2] := by simp [blV, blN, blE, h]
theorem ad2 {m s r t k : Int} (h : may m s r = true) (h' : inP m s t k = false) : blV m s r t k = .tuple #[.int .i64 0, .int .i64 12] := by simp [blV, blN, blE, h, h']
theorem afl {M S T k : Nat} {r : Int} (h : may M S r = true) (h' : inP M S T k = true) (hp : k = par M T) : blV M S r T k = .tuple #[.int .i64 0, .int .i64 7] := by
 unfold blV blN blE;simp only [h, h', if_true];rw [if_pos (show (k : Int).toNat = par (M : Int).toNat (T : Int).toNat from hp), if_pos (show (k : Int).toNat = par (M : Int).toNat (T : Int).toNat from hp)]
theorem agL {M S T k : Nat} {r : Int} (h : may M S r = true) (h' : inP M S T k = true) (hp : k ≠ par M T) : blV M S r T k = .tuple #[.int .i64 ((T * (M - 1) + nth M T k : Nat) : Int), .int .i64 0] := by
 unfold blV blN blE;simp only [h, h', if_true];rw [if_neg (show (k : Int).toNat ≠ par (M : Int).toNat (T : Int).toNat from hp), if_neg (show (k : Int).toNat ≠ par (M : Int).toNat (T : Int).toNat from hp)]
 rfl
theorem ads (m s r t k : Int) (w : World) (h : may m s r = false) : Calls prog 83 #[iy m s r, eM t k] w fun e w' => e = .returned (blV m s r t k) /\ Below w.heap.size w w' := by
 rw [agF t k h];have H := ae h;clear h;unfold iy eM;go_enter func83, ntmps83;go_wp2_with fail;refine (ji m s r _).mono ?_;rintro e w1 ⟨rfl, hb1⟩;rw [H.out];obtain ⟨K0, K1, hs, HB⟩ := jm hb1 (lM ..) (abZ ..);clear hb1;go_wp2;go_ret2;exact ⟨rfl, HB⟩
theorem zX (m s r t k : Int) (w : World) (h : may m s r = true) (h' : inP m s t k = false) : Calls prog 83 #[iy m s r, eM t k] w fun e w' => e = .returned (blV m s r t k) /\ Below w.heap.size w w' := by
 rw [ad2 h h'];have hn := yi.1 h';have H := ae h;clear h h';have h3 : has s t = false \/ (has s t = true /\ k < 0) \/ (has s t = true /\ 0 <= k /\ m <= k) := by
  cases hh : has s t
  ·exact .inl rfl
  ·have := gi.1 hh;by_cases hk : k < 0
   ·exact .inr (.inl ⟨rfl, hk⟩)
   ·exact .inr (.inr ⟨rfl, by omega, by omega⟩)
 clear hn;have go : ∀ (b : Bool), has s t = b -> (b = true -> (k < 0 \/ (0 <= k /\ m <= k))) -> Calls prog 83 #[iy m s r, eM t k] w fun e w' => e = .returned (.tuple #[.int .i64 0, .int .i64 12]) /\ Below w.heap.size w w' := by
  intro b hb hor;have HBo := ae hb;unfold iy eM;cases b
  ·clear hor h3 hb;go_enter func83, ntmps83;go_wp2_with fail;refine (ji m s r _).mono ?_;rintro e w1 ⟨rfl, hb1⟩;rw [H.out];obtain ⟨K0, K1, hs, HB⟩ := jm hb1 (lM ..) (abZ ..);obtain ⟨c0, c1, c2⟩ := cells3 K0;obtain ⟨p0, p1, f0, f1⟩ := iY K1;clear hb1;go_wp2_with fail;refine (kt m s r t _).mono ?_;rintro e w2 ⟨rfl, hb2⟩;rw [HBo.out];go_wp2;go_ret2;exact ⟨rfl, HB.out.trans (hb2.mono HB.out.size)⟩
  ·have hor := hor rfl;clear h3 hb;rcases hor with hk | ⟨hk, hk'⟩
   all_goals
    go_enter func83, ntmps83;go_wp2_with fail;refine (ji m s r _).mono ?_;rintro e w1 ⟨rfl, hb1⟩;rw [H.out];obtain ⟨K0, K1, hs, HB⟩ := jm hb1 (lM ..) (abZ ..);obtain ⟨c0, c1, c2⟩ := cells3 K0;obtain ⟨p0, p1, f0, f1⟩ := iY K1;clear hb1;go_wp2_with fail;refine (kt m s r t _).mono ?_;rintro e w2 ⟨rfl, hb2⟩;rw [HBo.out];obtain ⟨d0, d1, d2⟩ := cells3 (aC K0 hb2);obtain ⟨q0, q1, g0, g1⟩ := iY (aC K1 hb2);have HB2 := ae (HB.out.trans (hb2.mono HB.out.size));clear hb2 c0 c1 c2 p0 p1 f0 f1;go_wp2;go_ret2;exact ⟨rfl, HB2⟩
 rcases h3 with hh | ⟨hh, hk⟩ | ⟨hh, hk⟩
 ·exact go false hh (fun e => by cases e)
 ·exact go true hh (fun _ => .inl hk)
 ·exact go true hh (fun _ => .inr hk)
theorem aay (M S T k : Nat) (r : Int) (w : World) (h : may M S r = true) (h' : inP M S T k = true) (hp : k = par M T) : Calls prog 83 #[iy M S r, eM T k] w fun e w' => e = .returned (blV M S r T k) /\ Below w.heap.size w w' := by
 rw [afl h h' hp];have hn := n6.1 h';have hm := iA.1 h;have HH := ae (show has S T = true from gi.2 (by omega));have H := ae h;clear h h';have HP := ae hp;clear hp;unfold iy eM;go_enter func83, ntmps83;go_wp2_with fail;refine (ji M S r _).mono ?_;rintro e w1 ⟨rfl, hb1⟩;rw [H.out];obtain ⟨K0, K1, hs, HB⟩ := jm hb1 (lM ..) (abZ ..);obtain ⟨c0, c1, c2⟩ := cells3 K0;obtain ⟨p0, p1, f0, f1⟩ := iY K1;clear hb1;go_wp2_with fail;refine (kt M S r T _).mono ?_;rintro e w2 ⟨rfl, hb2⟩;rw [HH.out];have K02 := ae (aC K0 hb2);have K12 := ae (aC K1 hb2);obtain ⟨d0, d1, d2⟩ := cells3 K02;obtain ⟨q0, q1, g0, g1⟩ := iY K12;have HB2 := ae (HB.out.trans (hb2.mono HB.out.size));clear hb2 c0 c1 c2 p0 p1 f0 f1 K0 K1;go_wp2_with fail;refine (oy M T S r _ (by omega) (by omega) (by omega)).mono ?_;rintro e w3 ⟨rfl, hb3⟩;unfold eM;rw [<- HP.out];have K03 := ae (aC K02 hb3);have K13 := ae (aC K12 hb3);obtain ⟨c0, c1, c2⟩ := cells3 K03;obtain ⟨p0, p1, f0, f1⟩ := iY K13;have hs3 : w.heap.size + 1 < w3.heap.size := aU K13;have hs4 : w.heap.size < w3.heap.size := aU K03;have HB3 := ae (HB2.out.trans (hb3.mono HB2.out.size));clear hb3 d0 d1 d2 q0 q1 g0 g1 K02 K12 hs;go_wp2;go_ret2;exact ⟨rfl, HB3.out.alloc HB3.out.size _⟩
theorem aa4 (M S T k : Nat) (r : Int) (w : World) (h : may M S r = true) (h' : inP M S T k = true) (hp : k ≠ par M T) : Calls prog 83 #[iy M S r, eM T k] w fun e w' => e = .returned (blV M S r T k) /\ Below w.heap.size w w' := by
 rw [agL h h' hp];have hn := n6.1 h';have hm := iA.1 h;have HH := ae (show has S T = true from gi.2 (by omega));have H := ae h;clear h h';have hpl := mu T (M := M) (by omega);have hni := afQ (M := M) T k (by omega);have hnl : nth M T k < M - 1 := (aeT (T := T) (by omega) (by omega) hp).1;have HNI := ae hni;have HM := ae (aen (M := M) (S := T) (by omega) (by omega) (by omega));have HA := ae (show IntKind.i64.wrap (((T * (M - 1) : Nat) : Int) + ((nth M T k : Nat) : Int)) = ((T * (M - 1) + nth M T k : Nat) : Int) by
  have h := Nat.mul_le_mul (show T <= 64 by omega) (show M - 1 <= 15 by omega);generalize T * (M - 1) = q at *;rw [<- Int.natCast_add];exact IntWalk.i64_in _ (by omega))
 clear hni;generalize hpq : par M T = P at *;have HPQ := ae hpq;clear hpq;unfold iy eM;go_enter func83, ntmps83;go_wp2_with fail;refine (ji M S r _).mono ?_;rintro e w1 ⟨rfl, hb1⟩;rw [H.out];obtain ⟨K0, K1, hs, HB⟩ := jm hb1 (lM ..) (abZ ..);obtain ⟨c0, c1, c2⟩ := cells3 K0;obtain ⟨p0, p1, f0, f1⟩ := iY K1;clear hb1;go_wp2_with fail;refine (kt M S r T _).mono ?_;rintro e w2 ⟨rfl, hb2⟩;rw [HH.out];have K02 := ae (aC K0 hb2);have K12 := ae (aC K1 hb2);obtain ⟨d0, d1, d2⟩ := cells3 K02;obtain ⟨q0, q1, g0, g1⟩ := iY K12;have HB2 := ae (HB.out.trans (hb2.mono HB.out.size));clear hb2 c0 c1 c2 p0 p1 f0 f1 K0 K1;go_wp2_with fail;refine (oy M T S r _ (by omega) (by omega) (by omega)).mono ?_;rintro e w3 ⟨rfl, hb3⟩;unfold eM;rw [HPQ.out];have K03 := ae (aC K02 hb3);have K13 := ae (aC K12 hb3);obtain ⟨c0, c1, c2⟩ := cells3 K03;obtain ⟨p0, p1, f0, f1⟩ := iY K13;have hs3 : w.heap.size + 1 < w3.heap.size := aU K13;have hs4 : w.heap.size < w3.heap.size := aU K03;have HB3 := ae (HB2.out.trans (hb3.mono HB2.out.size));clear hb3 d0 d1 d2 q0 q1 g0 g1 K02 K12 hs;go_wp2;rw [HNI.out];have K04 := ae (bu K03 (.cells #[.int .i64 T, .int .i64 P] 42));have K14 := ae (bu K13 (.cells #[.int .i64 T, .int .i64 P] 42));have HB4 := ae (HB3.out.alloc HB3.out.size (.cells #[.int .i64 T, .int .i64 P] 42));clear c0 c1 c2 p0 p1 f0 f1 hs3 hs4 K03 K13 HB3;generalize w3.alloc (.cells #[.int .i64 T, .int .i64 P] 42) = w4 at *;have CC := fun (w' : World) (hw : Below w4.heap.size w4 w') => cells3 (aC K04 hw)
 have PP := fun (w' : World) (hw : Below w4.heap.size w4 w') => iY (aC K14 hw)
 refine aS (B := w4.heap.size) (by kernel_rfl) ?_;refine akr (fun _ hw => ax rfl akt yc) ?_;refine akr (fun w' hw => aD rfl akt (ajW (PP w' hw).1)) ?_;refine akr (fun w' hw => aD rfl akt (aj9 (CC w' hw).1 (CC w' hw).2.1 (CC w' hw).2.2)) ?_;refine bQ rfl (fun _ => aB call121 rfl (evc akt evn)) (bz aj fun w' hw => vt M S r w' (by omega) (by omega)) ?_;simp only [aa];refine akr (fun _ hw => ac3 rfl akt akt HM) ?_;refine cC 1 ?_;refine akr (fun _ hw => bH rfl akt akt HA) ?_;refine cC 2 ?_;refine wpQuiet_nil ?_;intro w5 hw5;go_wp2_with fail;go_ret2;exact ⟨rfl, HB4.out.trans (hw5.mono HB4.out.size)⟩
theorem oT (m s r t k : Int) (w : World) : Calls prog 83 #[iy m s r, eM t k] w fun e w' => e = .returned (blV m s r t k) /\ Below w.heap.size w w' := by
 cases h : may m s r
 ·exact ads m s r t k w h
 ·cases h' : inP m s t k
  ·exact zX m s r t k w h h'
  ·obtain ⟨M, S, rfl, rfl, _⟩ := aey h;have hn := n6.1 h';obtain ⟨T, rfl⟩ := Int.eq_ofNat_of_zero_le hn.1;obtain ⟨j, rfl⟩ := Int.eq_ofNat_of_zero_le hn.2.2.1;by_cases hp : j = par M T
   ·exact aay M S T j r w h h' hp
   ·exact aa4 M S T j r w h h' hp
def NoH (w : World) (v : Value) : Prop := v = .pointer none \/ ∃ p, v = .pointer (some ⟨p, 0, none⟩) /\ PHo w p none ⟨0, 0, 0, bK⟩
theorem NoH.below {w w' : World} {v : Value} (h : NoH w v) (hb : Below w.heap.size w w') : NoH w' v := by
 rcases h with h | ⟨p, h, h1⟩
 ·exact .inl h
 ·exact .inr ⟨p, h, h1.below hb⟩
section
variable {w : World} {p q : Nat} {qa : Option Addr} {x : HpS} {v : Value}
theorem kb (h : PHo w p (some ⟨q, 0, none⟩) x) : Calls prog 102 #[.pointer (some ⟨p, 0, none⟩)] w fun e w' => e = .returned (.bool true) /\ w = w' := by
 have HL := ae h;clear h;go_enter func102, ntmps102;go_upto_region 1 with fail;refine aI 1 ?_;refine akj (dc true underlying24 rfl akt evk rfl) ?_;refine runs 3 ?_;refine akq (ax rfl akt oZ) ?_;refine akq (aD rfl akt (vD (PHo.c0 HL))) ?_;refine akq (dc true underlying25 rfl akt evk rfl) ?_;refine aF 2 ?_;go_wp2_with fail;go_ret;exact ⟨rfl, rfl⟩
theorem acI (h : PHo w p none x) : Calls prog 102 #[.pointer (some ⟨p, 0, none⟩)] w fun e w' => e = .returned (.bool false) /\ w = w' := by
 have HL := ae h;clear h;go_enter func102, ntmps102;go_upto_region 1 with fail;refine aI 1 ?_;refine akj (dc true underlying24 rfl akt evk rfl) ?_;refine runs 3 ?_;refine akq (ax rfl akt oZ) ?_;refine akq (aD rfl akt (vD (PHo.c0 HL))) ?_;refine akq (dc false underlying25 rfl akt evk rfl) ?_;refine aF 2 ?_;go_wp2_with fail;go_ret;exact ⟨rfl, rfl⟩
theorem abk : Calls prog 102 #[.pointer none] w fun e w' => e = .returned (.bool false) /\ w = w' := by
 go_enter func102, ntmps102;go_upto_region 1 with fail;refine aI 1 ?_;refine akj (dc false underlying24 rfl akt evk rfl) ?_;refine a7 5 rfl (aM rfl akt) (by kernel_rfl) ?_;simp only [bL, ac, aa];refine aF 2 ?_;go_wp2_with fail;go_ret;exact ⟨rfl, rfl⟩
theorem x8 (h : NoH w v) : Calls prog 102 #[v] w fun e w' => e = .returned (.bool false) /\ w = w' := by
 rcases h with rfl | ⟨p, rfl, h⟩
 ·exact abk
 ·exact acI h
theorem qJ (h : PHo w p qa x) : Calls prog 134 #[.pointer (some ⟨p, 0, none⟩)] w fun e w' => e = .returned (ros (x.R)) /\ Below w.heap.size w w' := by
 have HL := ae (h.below ((Below.refl w.heap.size w).alloc aj (.cells (aZ bK).toArray 58)));clear h;have HA := ae (bJ.new w bK);have HB := ae ((Below.refl w.heap.size w).alloc aj (.cells (aZ bK).toArray 58));go_enter func134, ntmps134;go_upto_region 0 with fail;refine af ?_;refine akj (cT rfl) ?_;generalize w.alloc (.cells (aZ bK).toArray 58) = w1 at *
 skip
 refine ah ?_;go_upto_region 1 with fail;refine aI 1 ?_;refine akj (dl false underlying24 rfl akt evk rfl) ?_;refine ah ?_;go_upto_region 3 with fail;refine aI 2 ?_;refine akj (ax rfl akt pW) ?_;refine akj (bi rfl akt (PHo.ros HL)) ?_;refine aG rfl (dP rfl (ev rfl) (ev rfl) HA.out) ?_;simp only [aa];refine ah ?_;go_wp2_with fail;exact bodyPost_ret (aa7 rfl _ _ _ rfl (jO HA)) rfl ⟨rfl, gZ HB aj⟩
theorem wi : Calls prog 134 #[.pointer none] w fun e w' => e = .returned (ros (bK)) /\ Below w.heap.size w w' := by
 have HA := ae (bJ.new w bK);have HB := ae ((Below.refl w.heap.size w).alloc aj (.cells (aZ bK).toArray 58));go_enter func134, ntmps134;go_upto_region 0 with fail;refine af ?_;refine akj (cT rfl) ?_;generalize w.alloc (.cells (aZ bK).toArray 58) = w1 at *
 skip
 refine ah ?_;go_upto_region 1 with fail;refine aI 1 ?_;refine akj (dl true underlying24 rfl akt evk rfl) ?_;refine ah ?_;go_upto_region 2 with fail;refine af ?_;refine akj (pI rfl) ?_;refine aG rfl (dP rfl (ev rfl) (ev rfl) HA.out) ?_;simp only [aa];refine ah ?_;go_wp2_with fail;exact bodyPost_ret (aa7 rfl _ _ _ rfl (jO HA)) rfl ⟨rfl, gZ HB aj⟩
theorem age (h : PHo w p qa x) : Calls prog 66 #[.pointer (some ⟨p, 0, none⟩)] w fun e w' => e = .returned (.int .u64 (x.id : Int)) /\ w = w' := by
 have HL := ae h;clear h;go_enter func66, ntmps66;go_upto_region 1 with fail;refine aI 1 ?_;refine akj (dl false underlying24 rfl akt evk rfl) ?_;refine ah ?_;go_upto_region 3 with fail;refine aI 2 ?_;refine akj (ax rfl akt agi) ?_;refine akj (aD rfl akt (mc (PHo.c1 HL))) ?_;refine aF 1 ?_;go_wp2_with fail;go_ret;exact ⟨rfl, rfl⟩
theorem ahA : Calls prog 66 #[.pointer none] w fun e w' => e = .returned (.int .u64 0) /\ w = w' := by
 go_enter func66, ntmps66;go_upto_region 1 with fail;refine aI 1 ?_;refine akj (dl true underlying24 rfl akt evk rfl) ?_;refine ah ?_;go_upto_region 2 with fail;refine cf 1 ?_;go_wp2_with fail;go_ret;exact ⟨rfl, rfl⟩
theorem lX (h : PHo w p qa x) : Calls prog 103 #[.pointer (some ⟨p, 0, none⟩)] w fun e w' => e = .returned (.int .i64 (stN (x.R) : Nat)) /\ Below w.heap.size w w' := by
 have HL := ae h;clear h;obtain ⟨n, hn⟩ : ∃ n, stN (x.R) = n := ⟨_, rfl⟩;rw [hn];have HN := ae hn;clear hn;go_enter func103, ntmps103;go_upto_region 1 with fail;refine aI 1 ?_;refine ay rfl (aB call134 rfl (evc akt evn)) ?_;refine (qJ HL).mono ?_;rintro e w1 ⟨rfl, b1⟩;have HB1 := ae b1;clear b1;refine aR ?_;refine ay rfl (aB call133 rfl (evc akt evn)) ?_;refine (tB w1 HN).mono ?_;rintro e w2 ⟨rfl, b2⟩;have HB2 := ae (HB1.out.trans (b2.mono HB1.out.size));clear b2;refine aR ?_;refine aF 1 ?_;go_wp2_with fail;go_ret;exact ⟨rfl, HB2⟩
theorem z6 : Calls prog 103 #[.pointer none] w fun e w' => e = .returned (.int .i64 (stN (bK) : Nat)) /\ Below w.heap.size w w' := by
 obtain ⟨n, hn⟩ : ∃ n, stN (bK) = n := ⟨_, rfl⟩;rw [hn];have HN := ae hn;clear hn;go_enter func103, ntmps103;go_upto_region 1 with fail;refine aI 1 ?_;refine ay rfl (aB call134 rfl (evc akt evn)) ?_;refine (wi).mono ?_;rintro e w1 ⟨rfl, b1⟩;have HB1 := ae b1;clear b1;refine aR ?_;refine ay rfl (aB call133 rfl (evc akt evn)) ?_;refine (tB w1 HN).mono ?_;rintro e w2 ⟨rfl, b2⟩;have HB2 := ae (HB1.out.trans (b2.mono HB1.out.size));clear b2;refine aR ?_;refine aF 1 ?_;go_wp2_with fail;go_ret;exact ⟨rfl, HB2⟩
theorem fA (h : PHo w p (some ⟨q, 0, none⟩) x) : Calls prog 67 #[.pointer (some ⟨p, 0, none⟩)] w fun e w' => e = .returned (.int .i64 (if eH x.R = true then 16 else 0)) /\ Below w.heap.size w w' := by
 obtain ⟨n, hn⟩ : ∃ n, stN x.R = n := ⟨_, rfl⟩;have HN := ae hn;have HL := ae h;clear h;cases hf : eH x.R
 ·have H5 : Hid (((n : Int) == 5) = false) := ae (by
   unfold eH at hf;rw [hn] at hf;have := of_decide_eq_false hf; exact av (by omega))
  clear hf hn;go_enter func67, ntmps67;go_upto_region 1 with fail;refine aI 1 ?_;refine ay rfl (aB call102 rfl (evc akt evn)) ?_;refine (kb HL).mono ?_;rintro e w1 ⟨rfl, rfl⟩;refine aR ?_;refine aF 2 ?_;go_upto_region 3 with fail;refine aI 1 ?_;refine ay rfl (aB call103 rfl (evc akt evn)) ?_;refine (lX HL).mono ?_;rintro e w1 ⟨rfl, b1⟩;rw [HN.out];have HB1 := ae b1;clear b1;refine aR ?_;refine akj (aH false rfl akt evk H5) ?_;refine aF 1 ?_;go_upto_region 5 with fail;refine cf 1 ?_;go_wp2_with fail;go_ret;exact ⟨rfl, HB1⟩
 ·have H5 : Hid (((n : Int) == 5) = true) := ae (by
   unfold eH at hf;rw [hn] at hf;have := of_decide_eq_true hf; subst this; rfl)
  clear hf hn;go_enter func67, ntmps67;go_upto_region 1 with fail;refine aI 1 ?_;refine ay rfl (aB call102 rfl (evc akt evn)) ?_;refine (kb HL).mono ?_;rintro e w1 ⟨rfl, rfl⟩;refine aR ?_;refine aF 2 ?_;go_upto_region 3 with fail;refine aI 1 ?_;refine ay rfl (aB call103 rfl (evc akt evn)) ?_;refine (lX HL).mono ?_;rintro e w1 ⟨rfl, b1⟩;rw [HN.out];have HB1 := ae b1;clear b1;refine aR ?_;refine akj (aH true rfl akt evk H5) ?_;refine aF 1 ?_;go_upto_region 4 with fail;refine cf 1 ?_;go_wp2_with fail;go_ret;exact ⟨rfl, HB1⟩
theorem nr (h : NoH w v) : Calls prog 67 #[v] w fun e w' => e = .returned (.int .i64 1) /\ w = w' := by
 have HL := ae h;clear h;go_enter func67, ntmps67;go_upto_region 1 with fail;refine aI 1 ?_;refine ay rfl (aB call102 rfl (evc akt evn)) ?_;refine (x8 HL).mono ?_;rintro e w1 ⟨rfl, rfl⟩;refine aR ?_;refine aF 2 ?_;go_upto_region 2 with fail;refine cf 1 ?_;go_wp2_with fail;go_ret;exact ⟨rfl, rfl⟩
theorem afy {R : Ros} (s m : Int) (hg : dH R = true) : (blE R.m R.s R.r s m != 12) = nJ R s m := by
 have hm : may R.m R.s R.r = true := by
  have := gW.1 hg;exact iA.2 (by omega)
 have e : inP R.m R.s s m = nJ R s m := rfl;rw [<- e];unfold blE;rw [if_pos hm];cases hp : inP R.m R.s s m
 ·rw [if_neg (by decide)]; rfl
 ·rw [if_pos rfl]
  split <;> rfl
theorem wq (s m : Int) (hg : dH x.R = true) (h : PHo w p qa x) : Calls prog 110 #[.pointer (some ⟨p, 0, none⟩), .agg #[.int .i64 s, .int .i64 m]] w fun e w' => e = .returned (.bool (nJ x.R s m)) /\ Below w.heap.size w w' := by
 have hb := (Below.refl w.heap.size w).alloc aj (.cells ([.int .i64 s, .int .i64 m] : List Value).toArray 42);have HL := ae (h.below hb);have HA := ae (heap_alloc_new w (.cells ([.int .i64 s, .int .i64 m] : List Value).toArray 42));have HB := ae hb;have HP := afy s m hg;obtain ⟨bv, hbv⟩ : ∃ bv, nJ x.R s m = bv := ⟨_, rfl⟩;rw [hbv] at HP ⊢;have HPP := ae HP;clear h hb HP hg;go_enter func110, ntmps110;go_upto_region 0 with fail;refine af ?_;refine akj (cO (cs := [.int .i64 s, .int .i64 m]) rfl akt) ?_;generalize w.alloc (.cells ([.int .i64 s, .int .i64 m] : List Value).toArray 42) = w1 at *;refine aF 1 ?_;go_upto_region 1 with fail;refine aS (B := w1.heap.size) (by kernel_rfl) ?_;refine cC 2 ?_;refine akr (fun _ hw => ax rfl akt pW) ?_;refine akr (fun _ hw => ax rfl akt aiY) ?_;refine akr (fun _ hw => dm rfl akt (PHo.geo (HL.out.below hw))) ?_;refine akr (fun _ hw => cv (cs := [.int .i64 s, .int .i64 m]) underlying42 rfl (by kernel_rfl) rfl akt (aQ (aC HA hw))) ?_;refine bQ rfl (fun _ => aB call83 rfl (evc akt (evc akt evn))) (bz aj fun w' hw => oT x.R.m x.R.s x.R.r s m w') ?_;simp only [aa];refine cC 3 ?_;refine cC 2 ?_;refine wpQuiet_nil ?_;intro w2 hw;have HBB := ae (HB.out.trans (hw.mono HB.out.size));clear hw;go_upto_region 2 with fail;refine aI 1 ?_;refine akj (aK bv rfl akt evk HPP) ?_;refine aF 1 ?_;go_wp2_with fail;go_ret;exact ⟨rfl, HBB⟩
end
theorem ahF : (prog.info? 199).map (fun i => i.zero) = some (some (.agg (cel aJ ++ cel aJ).toArray)) := by kernel_rfl
def Ar2 (w : World) (b : Nat) (a0 a1 : Blk) : Prop := w.heap[b]? = some (.cells (cel a0 ++ cel a1).toArray 199 (0, 0))
theorem Ar2.r0 {w : World} {b : Nat} {a0 a1 : Blk} (h : Ar2 w b a0 a1) : w.rangeAt b 0 (cel a0) := fc (cs := cel a0 ++ cel a1) (ds := []) (es := cel a0) (fs := cel a1) (k := 0) (aQ h) rfl rfl
theorem Ar2.r1 {w : World} {b : Nat} {a0 a1 : Blk} (h : Ar2 w b a0 a1) : w.rangeAt b 64 (cel a1) := by
 have := fc (cs := cel a0 ++ cel a1) (ds := cel a0) (es := cel a1) (fs := []) (k := 64) (aQ h) (by rw [List.append_nil]) (aO a0);rwa [Nat.zero_add] at this
theorem Ar2.there {w : World} {b k : Nat} {a0 a1 : Blk} (h : Ar2 w b a0 a1) (hk : k < 2) : w.there b (0 + k * 64) 64 := dY h (by rw [List.length_append, aO, aO]; omega)
theorem Ar2.set {w : World} {b k : Nat} {a0 a1 : Blk} (h : Ar2 w b a0 a1) (hk : k < 2) (y : Blk) : Ar2 (w.setCells b (0 + k * 64) (cel y)) b (if k = 0 then y else a0) (if k = 1 then y else a1) := by
 rcases (show k = 0 \/ k = 1 by omega) with rfl | rfl
 ·exact heap_put b 199 (cel a1) (cel y) (cel a0) [] w (by rw [aO, aO]) h
 ·have h' : w.heap[b]? = some (.cells (cel a0 ++ cel a1 ++ []).toArray 199 (0, 0)) := by rw [List.append_nil]; exact h
  have := heap_put b 199 [] (cel y) (cel a1) (cel a0) w (by rw [aO, aO]) h';rw [List.append_nil, aO] at this;exact this
theorem aiv {w : World} {b k : Nat} (hk : k < 2) : (Instr.indexAt 199 (.pointer (some ⟨b, 0, none⟩)) (.int .i64 (k : Int))).run prog w = .ok (.pointer (some ⟨b, 0 + k * 64, none⟩)) w := by
 have e : (0 <= (k : Int) /\ (k : Int) < 2) := by omega
 simp [Instr.indexAt, Instr.sureAddr, asIntOf, run_underlying underlying199, Tryz.sizeOf44, Addr.add_mid, e, hk]
theorem aiT {w : World} {b : Nat} : (Instr.indexAt 199 (.pointer (some ⟨b, 0, none⟩)) (.int .i64 0)).run prog w = .ok (.pointer (some ⟨b, 0, none⟩)) w := aiv (k := 0) (by omega)
theorem ajy {w : World} {b : Nat} : (Instr.indexAt 199 (.pointer (some ⟨b, 0, none⟩)) (.int .i64 1)).run prog w = .ok (.pointer (some ⟨b, 64, none⟩)) w := aiv (k := 1) (by omega)
theorem ajR {w : World} {ad : Addr} {u : Value} {n : Int} (h : w.cell? ad = some u) (hf : w.frozen? ad = false) : (Instr.storeAt 34 (.pointer (some ad)) (.int .u64 n)).run prog w = .ok () (w.setCell ad (.int .u64 n)) := by simp [go_sem, h, hf]
theorem aa9 {w : World} {b : Nat} : (Instr.fieldAt 198 (.pointer (some ⟨b, 0, none⟩)) 1).run prog w = .ok (.pointer (some ⟨b, 1, none⟩)) w := by kernel_rfl
theorem i5 {ρ : Operand -> Value} {o : Oper} {x y : Operand} {w : World} {b j : Nat} {u : Value} {n : Int} (ho : o.op = .store 34 x y) (hx : ρ x = .pointer (some ⟨b, j, none⟩)) (hy : ρ y = .int .u64 n) (h : w.cell? ⟨b, j, none⟩ = some u) (hf : w.frozen? ⟨b, j, none⟩ = false) : (execOp ρ o).run prog w = .ok .skip (w.setCell ⟨b, j, none⟩ (.int .u64 n)) :=
 df ho hx hy (ajR h hf)
section
variable {id en m : Nat} {R : Ros} {M : aV} {n : Nat} {b : Blk}
theorem aeR (h : dr M m 0 ≠ 0) : dF id en R M m = dr M m 0 /\ eg id en R M m = M := ⟨if_neg h, if_neg fun e => h e.1⟩
theorem ad0 (h0 : dr M m 0 = 0) (h : dr M m 1 ≠ 0) : dF id en R M m = dr M m 1 /\ eg id en R M m = M := ⟨by unfold dF; rw [if_pos h0, if_neg h], if_neg fun e => h e.2⟩
theorem ahm (h0 : dr M m 0 = 0) (h1 : dr M m 1 = 0) (hn : mD (gF M m 0) (gF M m 1) = n) (hb : gC en ⟨id, m, R⟩ = b) (h : eG M m n ≠ 0) : dF id en R M m = eG M m n /\ eg id en R M m = dW M m n b := by
 have := ags (d := (m : Int)) (M := M) (s := .wr (n : Int) b) (l := [.fl]) h;unfold dF eg sY;rw [if_pos h0, if_pos h1, if_pos ⟨h0, h1⟩, hn, hb];exact this
theorem ahk (h0 : dr M m 0 = 0) (h1 : dr M m 1 = 0) (hn : mD (gF M m 0) (gF M m 1) = n) (hb : gC en ⟨id, m, R⟩ = b) (h : eG M m n = 0) : dF id en R M m = eI (dW M m n b) m /\ eg id en R M m = fL (dW M m n b) m := by
 have h2 := go_ok (d := (m : Int)) (M := M) (s := .wr (n : Int) b) (l := [.fl]) h;unfold dF eg sY;rw [if_pos h0, if_pos h1, if_pos ⟨h0, h1⟩, hn, hb, h2.1, h2.2]
 show goE m (dW M m n b) [.fl] = _ /\ goB m (dW M m n b) [.fl] = _
 by_cases hf : eI (dW M m n b) m = 0
 ·have h3 := go_ok (d := (m : Int)) (M := dW M m n b) (s := .fl) (l := []) hf;rw [h3.1, h3.2, hf];exact ⟨rfl, rfl⟩
 ·have h3 := ags (d := (m : Int)) (M := dW M m n b) (s := .fl) (l := []) hf;rw [h3.1, h3.2];exact ⟨rfl, rfl⟩
end
def rdK (M : aV) (m k j : Nat) : Blk := if j < k then gF M m j else aJ
def zr (p : Nat) (qa : Option Addr) (x : HpS) (b5 b7 b11 : Nat) (sx : Sup) (a0 a1 y : Blk) (w : World) : Prop :=
 PHo w p qa x /\ w.heap[b5]? = some (.cells (bD sx).toArray 198 (0, 0)) /\ Ar2 w b7 a0 a1 /\ w.heap[b11]? = some (.cells (cel y).toArray 44 (0, 0))
theorem zr.below {p : Nat} {qa : Option Addr} {x : HpS} {b5 b7 b11 : Nat} {sx : Sup} {a0 a1 y : Blk} {w w' : World} (h : zr p qa x b5 b7 b11 sx a0 a1 y w) (hb : Below w.heap.size w w') : zr p qa x b5 b7 b11 sx a0 a1 y w' :=
 ⟨h.1.below hb, aC h.2.1 hb, aC h.2.2.1 hb, aC h.2.2.2 hb⟩
section
variable {w0 w : World} {H K : Nat -> Prop} {p q : Nat} {M : aV} {x : HpS}
theorem agJ {en m : Nat} {R : Ros} (hr : Room M 2) (hev : 1 <= en /\ en <= 4611686018427387904) (hid : x.id ≠ 0 /\ x.id < 18446744073709551616) (hf : aW R = true) (hm : m < R.m.toNat) (h : HJ w0 H K w p q M x) : Calls prog 140 #[.pointer (some ⟨p, 0, none⟩), .int .u64 (en : Int), sup ⟨x.id, (m : Int), R⟩] w fun e w' =>
  e = .returned (.int .i64 (dF x.id en R M m)) /\ (∃ us, (us = x.us \/ us = en) /\ HJ w0 H K w' p q (eg x.id en R M m) { x with us := us }) /\ cj K w w' := by
 have hev' : evB en = true := by unfold evB; rw [decide_eq_true_iff]; omega
 have hsp : gQ ⟨x.id, (m : Int), R⟩ = true := by
  unfold gQ;simp only [Bool.and_eq_true, decide_eq_true_eq];exact ⟨⟨hid.1, hf⟩, by omega, by omega⟩
 have HSP : Hid (xJ en ⟨x.id, (m : Int), R⟩ = 0) := ae (vl hev' hsp);obtain ⟨sb, hsb⟩ : ∃ sb, gC en ⟨x.id, (m : Int), R⟩ = sb := ⟨_, rfl⟩;have HSB' := ae hsb;obtain ⟨E, hE⟩ : ∃ E, dF x.id en R M m = E := ⟨_, rfl⟩;obtain ⟨M2, hM2⟩ : ∃ M2, eg x.id en R M m = M2 := ⟨_, rfl⟩;rw [hE, hM2];have HE := ae hE;have HM2 := ae hM2;have HRM := ae hr;have HEV : Hid (en < 18446744073709551616) := ae (by omega);have HID := ae hid.2;have HJ := ae h;clear hr hev hid hf hm h hev' hsp hsb hE hM2;go_enter func140, ntmps140;go_upto_region 0 with fail;refine af ?_;refine akj (jp (c := ⟨x.id, (m : Int), R⟩) rfl akt) ?_;have hb0 := (Below.refl w.heap.size w).alloc aj (.cells (bD (⟨x.id, (m : Int), R⟩ : Sup)).toArray 198);have HS1 := ae (heap_alloc_new w (.cells (bD (⟨x.id, (m : Int), R⟩ : Sup)).toArray 198));have HB1 := ae hb0;obtain ⟨b5, hb5⟩ : ∃ b5, w.heap.size = b5 := ⟨_, rfl⟩;have HG5 : Hid (w.heap.size <= b5) := ae (Nat.le_of_eq hb5);rw [hb5] at HS1 ⊢;clear hb5 hb0;generalize w.alloc (.cells (bD (⟨x.id, (m : Int), R⟩ : Sup)).toArray 198) = w1 at *;refine aF 1 ?_;go_upto_region 1 with fail;refine af ?_;refine akj (di ahF rfl) ?_;have hb0 := (Below.refl w1.heap.size w1).alloc aj (.cells (cel aJ ++ cel aJ).toArray 199);have HA2 : Hid (Ar2 _ w1.heap.size aJ aJ) := ae (heap_alloc_new w1 (.cells (cel aJ ++ cel aJ).toArray 199));have HS2 := ae (aC HS1 hb0);have HB2 := ae (HB1.out.trans (hb0.mono HB1.out.size));obtain ⟨b7, hb7⟩ : ∃ b7, w1.heap.size = b7 := ⟨_, rfl⟩;have HG7 : Hid (w.heap.size <= b7) := ae (by rw [<- hb7]; exact HB1.out.size);have HSZ : Hid (b5 < b7) := ae (by rw [<- hb7]; exact aU HS1);rw [hb7] at HA2 ⊢;clear hb7 hb0;generalize w1.alloc (.cells (cel aJ ++ cel aJ).toArray 199) = w2 at *;clear HS1 HB1;refine ah ?_;go_upto_region 2 with fail;refine cf 1 ?_;go_wp2_with fail
 go_loopw [14] (fun z wr => ∃ i : Nat, z = .int .i64 i /\ i <= 2 /\ Below w.heap.size w wr /\ wr.heap[b5]? = some (.cells (bD (⟨x.id, (m : Int), R⟩ : Sup)).toArray 198 (0, 0)) /\ Ar2 wr b7 (rdK M m i 0) (rdK M m i 1) /\ ∀ j : Nat, j < i -> dr M m (j : Int) = 0) (fun z _ => 2 - (intOf z).toNat)
 case atStart => exact ⟨0, by go_num, by omega, HB2, HS2, HA2, fun j hj => absurd hj (by omega)⟩
 case round =>
  obtain ⟨i, rfl, hi, hb, hs, ha, hz⟩ := hrel;have HBr := ae hb;have HSr := ae hs;have HAr := ae ha;have HZr := ae hz;have HJr := ae (HJ.out.below hb);clear hb hs ha hz HB2 HS2 HA2;by_cases hlt : i < 2
  ·have HI := ae hlt;have HLT : Hid (decide ((i : Int) < 2) = true) := ae (ao (by omega));have HIA : Hid (IntKind.i64.wrap ((i : Int) + 1) = ((i + 1 : Nat) : Int)) := ae (by rw [el ⟨by omega, by omega⟩]; omega);obtain ⟨xb, hxb⟩ : ∃ xb, gF M m (i : Int) = xb := ⟨_, rfl⟩;obtain ⟨ee, hee⟩ : ∃ ee, dr M m (i : Int) = ee := ⟨_, rfl⟩;have HXB := ae hxb;have HEE := ae hee;clear hi hlt hxb hee;go_upto_region 3 with fail;refine af ?_;refine akj (aY true rfl akt evk HLT) ?_;refine ah ?_;go_upto_region 4 with fail;refine cf 2 ?_;have HSD : Hid (Below wr.heap.size wr (World.drew wr)) := ae ((Below.refl wr.heap.size wr).drew);have HSB : Hid (Below wr.heap.size wr ((World.drew wr).alloc (.cells (cel aJ).toArray 44))) := ae (HSD.out.alloc aj _);go_upto_region 5 with fail;refine wp_region_held (S := fun w' => Below wr.heap.size wr w') (by kernel_rfl) ?_;change wpAnyH _ _ _ _ _ 14 _ _ wr.drew;apply aa8 (F := fun (vb : Value) (wz : World) => ∃ b, vb = .pointer (some ⟨b, 0, none⟩) /\ wz.heap[b]? = some (.cells (cel xb).toArray 44 (0, 0)) /\ Below wr.heap.size wr wz /\ wr.heap.size <= b)
   ·intro kk;refine akG 0 rfl HSD ?_;refine akI 1 rfl HSD ?_;refine akm 2 rfl (fun _ hw => ax rfl akt oZ) HSD ?_;refine akm 3 rfl (fun _ hw => aD rfl akt (vD (PHo.c0 (HJr.out.hul.below hw)))) HSD ?_;refine akm 4 rfl (fun _ hw => ax rfl akt aa9) HSD ?_;refine akm 5 rfl (fun _ hw => aD rfl akt (cd ((aQ (aC HSr hw)) 1 _ rfl))) HSD ?_;refine akG 6 rfl HSD ?_;refine ny 7 11 rfl rfl (by kernel_rfl) rfl rfl (aB call141 rfl (evc akt (evc akt (evc akt evn)))) ?_ (bU rfl) HSB ?_
    ·refine ((HJr.out.below HSD).read (m : Int) (i : Int)).mono ?_;rintro e wA ⟨rfl, bA⟩;rw [HXB.out, HEE.out];have HSA := ae (Below.trans HSD (bA.mono (Below.size HSD)));clear bA;refine ⟨_, rfl, HSA, ?_⟩;simp only [aa];refine akG 8 rfl HSA ?_;refine akJ 9 rfl HSA ?_;refine akJ 10 rfl HSA ?_;have HSA2 := ae (HSA.out.alloc HSA.out.size (.cells (cel aJ).toArray 44));have HSA3 := ae (HSA.out.alloc HSA.out.size (.cells (cel xb).toArray 44));refine kP 11 rfl (by kernel_rfl) rfl (bU rfl) HSA2.out ?_;simp only [aa];refine dK 12 rfl (by kernel_rfl) rfl (ip (c := xb) rfl (ev rfl) (ev rfl)) HSA3.out ?_;simp only [Act.put];refine akH 13 rfl HSA3 ?_;refine wpAnyH_done (by kernel_rfl) ?_ _;have hz : (wA.alloc (.cells (cel xb).toArray 44)).heap[wA.heap.size]? = _ := heap_alloc_new wA (.cells (cel xb).toArray 44);have hy := HSA3.out;have hge := HSA.out.size;obtain ⟨bb, hbb⟩ : ∃ bb, wA.heap.size = bb := ⟨_, rfl⟩;rw [hbb] at hz hge ⊢;clear HSA2 HSA3;generalize wA.alloc (.cells (cel xb).toArray 44) = wz at *;obtain ⟨vb, hvb⟩ : ∃ vb, Value.pointer (some ⟨bb, 0, none⟩) = vb := ⟨_, rfl⟩;rw [hvb];exact kk vb wz ⟨bb, hvb.symm, hz, hy, hge⟩
    ·skip
     simp only [aa];obtain ⟨wa, hwa⟩ : ∃ wa, wr.drew.alloc (.cells (cel aJ).toArray 44) = wa := ⟨_, rfl⟩;have HSa := HSB;have HQa := ae (heap_alloc_new wr.drew (.cells (cel aJ).toArray 44));obtain ⟨bb, hbb⟩ : ∃ bb, wr.drew.heap.size = bb := ⟨_, rfl⟩;have HBL : Hid (wr.heap.size <= bb) := ae (Nat.le_of_eq hbb);rw [hwa] at HSa HQa;rw [hbb] at HQa;rw [hwa, hbb];clear hwa hbb;refine eB 7 rfl (by kernel_rfl) rfl (aB call141 rfl (evc akt (evc akt (evc akt evn)))) ?_;refine ((HJr.out.below HSa).read (m : Int) (i : Int)).mono ?_;rintro e wA ⟨rfl, bA⟩;rw [HXB.out, HEE.out];have HQB := ae (aC HQa bA);have HSb := ae (HSa.out.trans (bA.mono HSa.out.size));clear bA;refine ⟨_, rfl, HSb, ?_⟩;simp only [aa];refine akG 8 rfl HSb ?_;refine akJ 9 rfl HSb ?_;refine akJ 10 rfl HSb ?_;have HSc := ae (below_setCells HSb HBL (o := 0) (cel xb));refine dK 12 rfl (by kernel_rfl) rfl (bO (c := xb) rfl (ev rfl) (ev rfl) (je HQB.out)) HSc.out ?_;simp only [Act.put];refine akH 13 rfl HSc ?_;refine wpAnyH_done (by kernel_rfl) ?_ _;have hz : (wA.setCells bb 0 (cel xb)).heap[bb]? = _ := uF HQB;have hy := HSc.out;clear HSc;generalize wA.setCells bb 0 (cel xb) = wz at *;obtain ⟨vb, hvb⟩ : ∃ vb, Value.pointer (some ⟨bb, 0, none⟩) = vb := ⟨_, rfl⟩;rw [hvb];exact kk vb wz ⟨bb, hvb.symm, hz, hy, HBL⟩
   rintro _ wz ⟨g9, rfl, hz9, hy, hge⟩;have HG9 := ae hz9;have HBz := ae (HBr.out.trans (hy.mono HBr.out.size));have HSz := ae (aC HSr hy);have HAz : Hid (Ar2 wz b7 (rdK M m i 0) (rdK M m i 1)) := ae (aC HAr hy);have HNE : Hid (b5 ≠ b7) := ae (by have := HSZ.out; omega);clear hz9 hy hge HSB HSD;by_cases h0 : ee = 0;rotate_left 1
   ·have H0 : Hid ((ee != 0) = true) := ae (bne_iff_ne.2 h0);have HFI : Hid (E = ee /\ M2 = M) := ae (by
     rcases (show i = 0 \/ i = 1 by have := HI.out; omega) with rfl | rfl
     ·have := aeR (id := x.id) (en := en) (R := R) (M := M) (m := m) (by rw [show ((0 : Nat) : Int) = 0 from rfl] at HEE; rw [HEE.out]; exact h0);exact ⟨by rw [<- HE.out, this.1]; exact HEE, by rw [<- HM2.out, this.2]⟩
     ·have := ad0 (id := x.id) (en := en) (R := R) (M := M) (m := m) (HZr.out 0 (by omega)) (by rw [show ((1 : Nat) : Int) = 1 from rfl] at HEE; rw [HEE.out]; exact h0);exact ⟨by rw [<- HE.out, this.1]; exact HEE, by rw [<- HM2.out, this.2]⟩)
    clear h0;go_upto_region 6 with fail;refine aI 1 ?_;refine akj (aK true rfl akt evk H0) ?_;refine ah ?_;go_upto_region 7 with fail;refine cf 2 ?_;go_wp2_with fail;go_ret;exact ⟨by rw [HFI.out.1]; rfl, ⟨x.us, .inl rfl, by rw [HFI.out.2]; exact HJ.out.below HBz⟩, HJ.out.kept HBz⟩
   subst h0;go_upto_region 6 with fail;refine aI 1 ?_;refine akj (aK false rfl akt evk rfl) ?_;refine ah ?_;have hset := HAz.out.set HI xb;have hk0 : (if i = 0 then xb else rdK M m i 0) = rdK M m (i + 1) 0 := by
    rcases (show i = 0 \/ i = 1 by have := HI.out; omega) with rfl | rfl
    ·rw [if_pos rfl, <- HXB.out]; rfl
    ·rfl
   have hk1 : (if i = 1 then xb else rdK M m i 1) = rdK M m (i + 1) 1 := by
    rcases (show i = 0 \/ i = 1 by have := HI.out; omega) with rfl | rfl
    ·rfl
    ·rw [if_pos rfl, <- HXB.out]; rfl
   rw [hk0, hk1] at hset;have HAs := ae hset;have HSs := ae ((eY b7 (cel xb) (0 + i * 64) wz b5 HNE).trans HSz);have HBs := ae (below_setCells HBz HG7 (o := 0 + i * 64) (cel xb));have HTH := ae (HAz.out.there HI);clear hset hk0 hk1;go_upto_region 8 with fail;refine aI 1 ?_;refine akj (bI (c := xb) rfl akt (aQ HG9)) ?_;refine akj (cU rfl akt akt (aiv HI)) ?_;refine aG rfl (bO (c := xb) rfl (ev rfl) (ev rfl) HTH.out) ?_;simp only [aa];generalize wz.setCells b7 (0 + i * 64) (cel xb) = ws at *;refine ah ?_;go_upto_region 9 with fail;refine af ?_;refine akj (bH rfl akt evk HIA) ?_;refine aF 1 ?_;go_wp2_with fail;go_roundw
   case rel => exact ⟨i + 1, by go_num, by have := HI.out; omega, HBs, HSs, HAs, fun j hj => by
    by_cases e : j = i
    ·subst e; exact HEE
    ·exact HZr.out j (by omega)⟩
   case measure => have := HI.out; simp [intOf]; omega
  have h2 : i = 2 := by omega
  subst h2;have HLT : Hid (decide (((2 : Nat) : Int) < 2) = false) := ae (am (by omega));obtain ⟨a0, ha0⟩ : ∃ a0, gF M m 0 = a0 := ⟨_, rfl⟩;obtain ⟨a1, ha1⟩ : ∃ a1, gF M m 1 = a1 := ⟨_, rfl⟩;have HAq : Hid (Ar2 wr b7 a0 a1) := ae (by rw [<- ha0, <- ha1]; exact HAr);have HR0 : Hid (dr M m 0 = 0) := ae (HZr.out 0 (by omega));have HR1 : Hid (dr M m 1 = 0) := ae (HZr.out 1 (by omega));obtain ⟨n, hn⟩ : ∃ n, mD a0 a1 = n := ⟨_, rfl⟩;have HN := ae hn;have HNN : Hid (mD (gF M m 0) (gF M m 1) = n) := ae (by rw [ha0, ha1]; exact hn);clear ha0 ha1 hn hi hlt HAr HZr;go_upto_region 3 with fail;refine af ?_;refine akj (aY false rfl akt evk HLT) ?_;refine ah ?_;go_upto_region 10 with fail;refine aI 1 ?_;refine akj (dz (c := ⟨x.id, (m : Int), R⟩) rfl akt (aQ HSr)) ?_;refine ay rfl (aB call142 rfl (evc akt (evc akt evn))) ?_;refine (aiX en ⟨x.id, (m : Int), R⟩ wr HJr.out.tab HEV HID).mono ?_;rintro e w3 ⟨rfl, b3⟩;rw [HSP.out, HSB'.out];have HB3 := ae (HBr.out.trans (b3.mono HBr.out.size));have HS3 := ae (aC HSr b3);have HA3 : Hid (Ar2 w3 b7 a0 a1) := ae (aC HAq b3);clear b3 HSr HAq;refine aR ?_;refine runs 3 ?_;refine akj (bU rfl) ?_;refine aG rfl (ip (c := sb) rfl (ev rfl) (ev rfl)) ?_;simp only [aa];have hb0 := HB3.out.alloc HB3.out.size (.cells (cel sb).toArray 44);have hb00 := (Below.refl w3.heap.size w3).alloc aj (.cells (cel sb).toArray 44);have HG4 := ae (heap_alloc_new w3 (.cells (cel sb).toArray 44));have HS4 := ae (aC HS3 hb00);have HA4 : Hid (Ar2 _ b7 a0 a1) := ae (aC HA3 hb00);have HB4 := ae hb0;obtain ⟨b11, hb11⟩ : ∃ b11, w3.heap.size = b11 := ⟨_, rfl⟩;have HG11 : Hid (w.heap.size <= b11) := ae (by rw [<- hb11]; exact HB3.out.size);rw [hb11] at HG4 ⊢;clear hb11 hb0 hb00 HS3 HA3 HB3;generalize w3.alloc (.cells (cel sb).toArray 44) = w4 at *;refine aF 1 ?_;go_upto_region 11 with fail;refine aI 1 ?_;refine akj (aK false rfl akt evk rfl) ?_;refine ah ?_;have HL4 : Hid (zr p (some ⟨q, 0, none⟩) x b5 b7 b11 ⟨x.id, (m : Int), R⟩ a0 a1 sb (World.drew w4)) := ae ⟨(HJ.out.below HB4).hul, HS4, HA4, HG4⟩;have HB4d : Hid (Below w.heap.size w (World.drew w4)) := ae (bd HB4);obtain ⟨we, hwe⟩ : ∃ we, eG M m (n : Int) = we := ⟨_, rfl⟩;have HWE := ae hwe;clear HS4 HA4 HG4 hwe;go_upto_region 13 with fail;refine wp_region_held (S := zr p (some ⟨q, 0, none⟩) x b5 b7 b11 ⟨x.id, (m : Int), R⟩ a0 a1 sb) (by kernel_rfl) ?_;change wpAnyH _ _ _ _ _ 14 _ _ w4.drew;refine akG 0 rfl HL4 ?_;refine akI 1 rfl HL4 ?_;refine akm 2 rfl (fun _ hw => ax rfl akt oZ) HL4 ?_;refine akm 3 rfl (fun _ hw => aD rfl akt (vD (PHo.c0 hw.1))) HL4 ?_;refine akm 4 rfl (fun _ hw => ax rfl akt aa9) HL4 ?_;refine akm 5 rfl (fun _ hw => aD rfl akt (cd ((aQ hw.2.1) 1 _ rfl))) HL4 ?_;refine akm 6 rfl (fun _ hw => cU rfl akt evk aiT) HL4 ?_;refine akm 7 rfl (fun _ hw => bI (c := a0) rfl akt hw.2.2.1.r0) HL4 ?_;refine akm 8 rfl (fun _ hw => cU rfl akt evk ajy) HL4 ?_;refine akm 9 rfl (fun _ hw => bI (c := a1) rfl akt hw.2.2.1.r1) HL4 ?_;refine akm 11 rfl (fun _ hw => bI (c := sb) rfl akt (aQ hw.2.2.2)) HL4 ?_;refine eB 10 rfl (by kernel_rfl) rfl (aB call143 rfl (evc akt (evc akt evn))) ?_;refine (afw a0 a1 n (World.drew w4) (HJ.out.below HB4d).tab HN).mono ?_;rintro e w5 ⟨rfl, b5'⟩;have HL5 := ae (HL4.out.below b5');have HB5 := ae (HB4d.out.trans (b5'.mono HB4d.out.size));have HJ5 := ae (HJ.out.up HB5);clear b5';refine ⟨_, rfl, HL5, ?_⟩;simp only [aa];refine eB 12 rfl (by kernel_rfl) rfl (aB call76 rfl (evc akt (evc akt (evc akt (evc akt evn))))) ?_;refine (HJ5.out.write (m : Int) (n : Int) sb (cM HRM (by omega))).mono ?_;rintro e w6 ⟨rfl, j6, k6⟩;rw [HWE.out];have HJ6 := ae j6;have HK6 : Hid (cj K w w6) := ae ((HJ.out.kept HB5).trans (k6.less fun b e => .inl e));have HS6 := ae (k6.at_ (.inr ⟨HG5, aU HL5.out.2.1⟩) HL5.out.2.1);have HL6 : Hid (zr p (some ⟨q, 0, none⟩) x b5 b7 b11 ⟨x.id, (m : Int), R⟩ a0 a1 sb w6) := ae ⟨j6.hul, HS6, k6.at_ (.inr ⟨HG7, aU HL5.out.2.2.1⟩) HL5.out.2.2.1, k6.at_ (.inr ⟨HG11, aU HL5.out.2.2.2⟩) HL5.out.2.2.2⟩;clear j6 k6;refine ⟨_, rfl, HL6, ?_⟩;simp only [aa];refine akH 13 rfl HL6 ?_;refine wpAnyH_done (by kernel_rfl) ?_ _;by_cases h0 : we = 0;rotate_left 1
  ·have H0 : Hid ((we != 0) = true) := ae (bne_iff_ne.2 h0);have hput := ahm (id := x.id) (en := en) (R := R) HR0 HR1 HNN HSB' (by rw [HWE.out]; exact h0);have HFI : Hid (E = we /\ M2 = dW M m n sb) := ae ⟨by rw [<- HE.out, hput.1, HWE.out], by rw [<- HM2.out, hput.2]⟩;clear h0 hput;go_upto_region 14 with fail;refine aI 1 ?_;refine akj (aK true rfl akt evk H0) ?_;refine ah ?_;go_upto_region 15 with fail;refine cf 2 ?_;go_wp2_with fail;go_ret;exact ⟨by rw [HFI.out.1]; rfl, ⟨x.us, .inl rfl, by rw [HFI.out.2]; exact HJ6.out.less fun b e => .inl e⟩, HK6⟩
  subst h0;have hput := ahk (id := x.id) (en := en) (R := R) HR0 HR1 HNN HSB' HWE;have HFI : Hid (E = eI (dW M m n sb) m /\ M2 = fL (dW M m n sb) m) := ae ⟨by rw [<- HE.out, hput.1], by rw [<- HM2.out, hput.2]⟩;clear hput;go_upto_region 14 with fail;refine aI 1 ?_;refine akj (aK false rfl akt evk rfl) ?_;refine ah ?_;obtain ⟨M3, hM3⟩ : ∃ M3, dW M m n sb = M3 := ⟨_, rfl⟩;have HRM3 : Hid (Room M3 1) := ae (by rw [<- hM3]; exact sC HRM _ _ _);rw [hM3] at HFI HJ6;clear hM3;go_upto_region 16 with fail;refine aI 3 ?_;refine akj (ax rfl akt acT) ?_;refine aG rfl (i5 rfl (ev rfl) (ev rfl) HJ6.out.hul.c24 (HJ6.out.hul.acC 24)) ?_;simp only [aa];have ho := (Only.refl (fun b => b = p) w6).setCell (p := ⟨p, 24, none⟩) (.inl rfl) (.int .u64 (en : Int));have hset := HJ6.out.hul.set (acp _ x en);obtain ⟨hj7, hk7⟩ := HJ6.out.obj ho hset;have HJ7 := ae hj7;have HK7 : Hid (cj K w _) := ae (HK6.out.trans (hk7.less fun b e => .inl e));have HS7 := ae (hk7.at_ (.inr ⟨HG5, by have := aU HL5.out.2.1; exact this⟩) HS6);clear ho hset hj7 hk7;generalize w6.setCell ⟨p, 24, none⟩ (.int .u64 (en : Int)) = w7 at *;refine ah ?_;go_upto_region 17 with fail;refine wp_region_still_tail 6 (by kernel_rfl) (by kernel_rfl) ?_;simp only [ac];refine aP rfl (aM rfl akt) ?_;simp only [aa];refine aP rfl (bq rfl akt) ?_;simp only [aa];refine aP rfl (ax rfl akt oZ) ?_;simp only [aa];refine aP rfl (aD rfl akt (vD (PHo.c0 HJ7.out.hul))) ?_;simp only [aa];refine aP rfl (ax rfl akt aa9) ?_;simp only [aa];refine aP rfl (aD rfl akt (cd ((aQ HS7) 1 _ rfl))) ?_;simp only [aa];refine wpStill_nil ?_;change wpList _ _ _ _ _ (World.drew _);refine ay rfl (aB call72 rfl (evc akt (evc akt evn))) ?_;refine (HJ7.out.drew.flush (m : Int) HRM3).mono ?_;rintro e w8 ⟨rfl, j8, k8⟩;refine aR ?_;refine aF 1 ?_;go_wp2_with fail;go_ret;exact ⟨by rw [HFI.out.1]; rfl, ⟨en, .inr rfl, by rw [HFI.out.2]; exact j8.less fun b e => .inl e⟩, HK7.out.trans (k8.less fun b e => .inl e)⟩
end
section
variable {ρ : Operand -> Value} {o : Oper} {x y x1 x2 x3 : Operand} {w : World} {t : TypeId} {v v1 v2 v3 : Value} {f : FuncId}
theorem eW (hv : v.cells = #[v]) (ho : o.op = .box t x) (hx : ρ x = v) : (execOp ρ o).run prog w = .ok (.value (.pointer (some ⟨w.heap.size, 0, none⟩))) (w.alloc (.cells #[v] t)) := by
 unfold execOp;simp [ho, hx, Instr.box, newVar, newRow, hv]
theorem m9 (hv : v.cells = #[v]) (h : (prog.info? t).map (fun i => i.zero) = some (some v)) (ho : o.op = .alloc t) : (execOp ρ o).run prog w = .ok (.value (.pointer (some ⟨w.heap.size, 0, none⟩))) (w.alloc (.cells #[v] t)) := by
 have hz := fZ h w;unfold execOp;simp [ho, Instr.alloc, hz, newVar, newRow, hv]
theorem aij : (prog.info? 34).map (fun i => i.zero) = some (some (.int .u64 0)) := by kernel_rfl
theorem ah0 : (prog.info? 3).map (fun i => i.zero) = some (some (.int .i64 0)) := by kernel_rfl
theorem rZ (fn : Fn) (fs cs : Array Value) (w : World) : (Instr.makeFunc fn fs cs).run prog w = .ok (.func fn fs cs) w := rfl
theorem aaI (ho : o.op = .makeFunc (.func f) #[] #[x1]) (h1 : ρ x1 = v1) : (execOp ρ o).run prog w = .ok (.value (.func (.func f) #[] #[v1])) w := by
 unfold execOp;simp [ho, h1, rZ]
theorem q6 (ho : o.op = .makeFunc (.func f) #[] #[x1, x2]) (h1 : ρ x1 = v1) (h2 : ρ x2 = v2) : (execOp ρ o).run prog w = .ok (.value (.func (.func f) #[] #[v1, v2])) w := by
 unfold execOp;simp [ho, h1, h2, rZ]
theorem mF (ho : o.op = .makeFunc (.func f) #[] #[x1, x2, x3]) (h1 : ρ x1 = v1) (h2 : ρ x2 = v2) (h3 : ρ x3 = v3) : (execOp ρ o).run prog w = .ok (.value (.func (.func f) #[] #[v1, v2, v3])) w := by
 unfold execOp;simp [ho, h1, h2, h3, rZ]
theorem aiB : (prog.info? 198).map (fun i => i.zero) = some (some (.agg (.int .u64 0 :: .int .i64 0 :: aZ bK).toArray)) := by kernel_rfl
theorem zH (id : Nat) (m : Int) (R : Ros) : (Instr.build 198 #[(0, .int .u64 (id : Int)), (1, .int .i64 m), (2, ros R)]).run prog w = .ok (sup ⟨id, m, R⟩) w := by
 have hz := fZ aiB w;have h0 := dk (place := fun i => (#[(0, 1), (1, 1), (2, 21)] : Array (Nat × Nat))[i]?) (i := 0) (off := 0) (size := 1) (v := .int .u64 (id : Int)) (pre := []) (mid := [.int .u64 0]) (post := .int .i64 0 :: aZ bK) (vs := [.int .u64 (id : Int)]) (rest := [(1, .int .i64 m), (2, ros R)]) rfl rfl rfl rfl rfl;have h1 := dk (place := fun i => (#[(0, 1), (1, 1), (2, 21)] : Array (Nat × Nat))[i]?) (i := 1) (off := 1) (size := 1) (v := .int .i64 m) (pre := [.int .u64 (id : Int)]) (mid := [.int .i64 0]) (post := aZ bK) (vs := [.int .i64 m]) (rest := [(2, ros R)]) rfl rfl rfl rfl rfl;have h2 := dk (place := fun i => (#[(0, 1), (1, 1), (2, 21)] : Array (Nat × Nat))[i]?) (i := 2) (off := 2) (size := 21) (v := ros R) (pre := [.int .u64 (id : Int), .int .i64 m]) (mid := aZ bK) (post := []) (vs := aZ R) (rest := []) rfl rfl (br R) rfl (br bK);simp only [List.nil_append, List.append_nil, List.cons_append] at h0 h1 h2;have h4 := h0.trans (h1.trans h2);have hz' : (zeroValue 198).run prog w = .ok (.agg (.int .u64 0 :: .int .i64 0 :: aZ bK).toArray) w := hz;have hc : (Value.agg (.int .u64 0 :: .int .i64 0 :: aZ bK).toArray).cells = (.int .u64 0 :: .int .i64 0 :: aZ bK).toArray := rfl;simp only [Instr.build, Sem.run_bind, hz', run_underlying underlying198, Result.andThen_ok, hc];refine Eq.trans (congrArg (fun r => Result.andThen r _) (?h : _ = Result.ok #[(0, 1), (1, 1), (2, 21)] w)) ?_
 case h => kernel_rfl
 simp only [Result.andThen_ok];have h5 : Instr.fill (fun i => (#[(0, 1), (1, 1), (2, 21)] : Array (Nat × Nat))[i]?) (.int .u64 (id : Int) :: .int .i64 m :: aZ R).toArray [] = some (.int .u64 (id : Int) :: .int .i64 m :: aZ R).toArray := by rw [Instr.fill]
 rw [h4.trans h5]
 rfl
theorem xE {id : Nat} {m : Int} {R : Ros} (ho : o.op = .build 198 #[(0, x1), (1, x2), (2, x3)]) (h1 : ρ x1 = .int .u64 (id : Int)) (h2 : ρ x2 = .int .i64 m) (h3 : ρ x3 = ros R) : (execOp ρ o).run prog w = .ok (.value (sup ⟨id, m, R⟩)) w := by
 unfold execOp;simp only [ho, h1, h2, h3, List.map_toArray, List.map_cons, List.map_nil, Sem.run_bind, zH, Result.andThen_ok, Sem.run_pure]
theorem ajt {b off : Nat} : (Instr.fieldAt 58 (.pointer (some ⟨b, off, none⟩)) 0).run prog w = .ok (.pointer (some ⟨b, off, none⟩)) w := by kernel_rfl
theorem ajk {b off : Nat} : (Instr.fieldAt 58 (.pointer (some ⟨b, off, none⟩)) 1).run prog w = .ok (.pointer (some ⟨b, off + 3, none⟩)) w := by kernel_rfl
theorem ai9 {b off : Nat} : (Instr.fieldAt 51 (.pointer (some ⟨b, off, none⟩)) 0).run prog w = .ok (.pointer (some ⟨b, off, none⟩)) w := by kernel_rfl
theorem aj3 {b off j : Nat} {w : World} (hj : j < 16) : (Instr.indexAt 56 (.pointer (some ⟨b, off, none⟩)) (.int .i64 (j : Int))).run prog w = .ok (.pointer (some ⟨b, off + j, none⟩)) w := by
 have e : (0 <= (j : Int) /\ (j : Int) < 16) := by omega
 simp [Instr.indexAt, Instr.sureAddr, asIntOf, run_underlying underlying56, Tryz.sizeOf5, Addr.add_mid, e, hj]
end
theorem ajF {w : World} {b off : Nat} {R : Ros} (h : w.rangeAt b off (aZ R)) : w.cell? ⟨b, off, none⟩ = some (.int .i64 R.m) := h 0 _ rfl
theorem af4 {w : World} {b off j : Nat} {R : Ros} (h : w.rangeAt b off (aZ R)) (hj : j < 16) : w.cell? ⟨b, off + 3 + j, none⟩ = some (.int .u8 (sta R j)) := by
 have h1 := fc (k := 3) (ds := [.int .i64 R.m, .int .i64 R.s, .int .i64 R.r]) (es := vals R.st.toList) (fs := [.int .i64 R.cur, .bool R.gone]) h rfl rfl;exact h1 j _ (iP (by simpa using hj))
theorem yv {b off N : Nat} (s : Fu) (P : Nat -> Ros -> World -> Prop) (Q : Int -> World -> Prop) (hN : N <= 16)
  (hR : ∀ {m R w}, P m R w -> w.rangeAt b off (aZ R) /\ R.m = (N : Int))
  (hskip : ∀ {m R w}, m < N -> sta R m = 1 -> P m R w -> P (m + 1) R w)
  (hdo : ∀ {m R w}, m < N -> sta R m ≠ 1 -> P m R w -> Calls prog s.f (.int .i64 (m : Int) :: s.cap).toArray w fun e w' => ∃ E : Int, e = .returned (.int .i64 E) /\ ((E = 0 /\ ∃ R', P (m + 1) R' w') \/ (E ≠ 0 /\ Q E w')))
  (hend : ∀ {R w}, P N R w -> Q 0 w) {R : Ros} {w : World} (h : P 0 R w) :
  Calls prog 68 #[.pointer (some ⟨b, off, none⟩), s.val] w fun e w' => ∃ E : Int, e = .returned (.int .i64 E) /\ Q E w' := by
 have HP := ae h;have HR := ae (hR h);have HN := ae hN;obtain ⟨PP, hPP⟩ : ∃ PP, PP = P := ⟨_, rfl⟩;clear h hN;go_enter func68, ntmps68;go_upto_region 1 with fail;refine aI 2 ?_;refine akj (ax rfl akt ajt) ?_;refine akj (ax rfl akt ai9) ?_;refine akj (aD rfl akt (cd (k := (N : Int)) (by rw [<- HR.out.2]; exact ajF HR.out.1))) ?_;refine aF 1 ?_;go_wp2_with fail
 go_loopw [12] (fun z wr => ∃ (i : Nat) (Ri : Ros), z = .int .i64 i /\ i <= N /\ P i Ri wr) (fun z _ => N - (intOf z).toNat)
 case atStart => exact ⟨0, R, by go_num, Nat.zero_le _, HP⟩
 case round =>
  clear HP HR;obtain ⟨i, Ri, rfl, hi, hp⟩ := hrel;have HPr := ae hp;have HRr := ae (hR hp);clear hp;by_cases hlt : i < N
  ·have HI := ae hlt;have HI16 : Hid (i < 16) := ae (by have := HN.out; omega);have HLT : Hid (decide ((i : Int) < (N : Int)) = true) := ae (ao (by omega));have HIA : Hid (IntKind.i64.wrap ((i : Int) + 1) = ((i + 1 : Nat) : Int)) := ae (by have := HI16.out; rw [el ⟨by omega, by omega⟩]; omega);clear hi hlt;go_upto_region 2 with fail;refine af ?_;refine akj (aY true rfl akt akt HLT) ?_;refine ah ?_;go_upto_region 3 with fail;refine cf 2 ?_;go_upto_region 4 with fail;refine aI 3 ?_;refine akj (ax rfl akt ajk) ?_;refine akj (cU rfl akt akt (aj3 HI16)) ?_;refine akj (aD rfl akt (qy (af4 HRr.out.1 HI16))) ?_;by_cases hs : sta Ri i = 1
   ·have HS : Hid ((sta Ri i == 1) = true) := ae (beq_iff_eq.2 hs);have HP1 := ae (hskip HI hs HPr);clear hs;refine akj (aH true rfl akt evk HS) ?_;refine ah ?_;go_upto_region 8 with fail;refine af ?_;refine akj (bH rfl akt evk HIA) ?_;refine aF 1 ?_;go_wp2_with fail;go_roundw
    case rel => exact ⟨i + 1, Ri, by go_num, HI, HP1⟩
    case measure => have := HI.out; simp [intOf]; omega
   have HS : Hid ((sta Ri i == 1) = false) := ae (av hs);have HD := ae (hdo HI hs HPr);clear hs;refine akj (aH false rfl akt evk HS) ?_;refine ah ?_;go_upto_region 5 with fail;refine aI 2 ?_;refine ay rfl (nj (s := s) (v := .int .i64 (i : Int)) rfl akt akt) ?_;refine (HD.out).mono ?_;rintro e w2 ⟨E, rfl, hE⟩;refine aR ?_;refine aF 1 ?_;by_cases h0 : E = 0
   ·subst h0;have hE1 : ∃ R', P (i + 1) R' w2 := by
     rcases hE with ⟨_, h⟩ | ⟨h, _⟩
     ·exact h
     ·exact absurd rfl h
    obtain ⟨R2, hE2⟩ := hE1;have HE2 := ae hE2;clear hE hE2;go_upto_region 6 with fail;refine aI 1 ?_;refine akj (aK false rfl akt evk rfl) ?_;refine ah ?_;go_upto_region 8 with fail;refine af ?_;refine akj (bH rfl akt evk HIA) ?_;refine aF 1 ?_;go_wp2_with fail;go_roundw
    case rel => exact ⟨i + 1, R2, by go_num, HI, HE2⟩
    case measure => have := HI.out; simp [intOf]; omega
   have H0 : Hid ((E != 0) = true) := ae (bne_iff_ne.2 h0);have HE2 : Hid (Q E w2) := ae (by
    rcases hE with ⟨h, _⟩ | ⟨_, h⟩
    ·exact absurd h h0
    ·exact h)
   clear hE h0;go_upto_region 6 with fail;refine aI 1 ?_;refine akj (aK true rfl akt evk H0) ?_;refine ah ?_;go_upto_region 7 with fail;refine cf 2 ?_;go_wp2_with fail;go_ret;exact ⟨E, rfl, HE2⟩
  have hin : i = N := by omega
  subst hin;have HLT : Hid (decide ((i : Int) < (i : Int)) = false) := ae (am (by omega));have HQ := ae (hend HPr);clear hi hlt;go_upto_region 2 with fail;refine af ?_;refine akj (aY false rfl akt akt HLT) ?_;refine ah ?_;go_upto_region 9 with fail;refine cf 1 ?_;go_wp2_with fail;go_ret;exact ⟨0, rfl, HQ⟩
structure SvL (w0 : World) (H K : Nat -> Prop) (ws : World) (p q b2 b3 b5 : Nat) (x : HpS) (R : Ros) (en : Nat) (M : aV) (w : World) : Prop where
 j : ∃ us, us <= en /\ HJ w0 H (fun b => K b \/ b = b2 \/ b = b3 \/ b = b5) w p q M { x with us := us }
 h2 : w.heap[b2]? = some (.cells #[.pointer (some ⟨p, 0, none⟩)] 24 (0, 0))
 h3 : bJ w b3 R
 h5 : w.heap[b5]? = some (.cells #[.int .u64 (en : Int)] 34 (0, 0))
 k : cj K ws w
 g : w0.heap.size <= b2 /\ w0.heap.size <= b3 /\ w0.heap.size <= b5
 d : b2 ≠ b3 /\ b2 ≠ b5 /\ b3 ≠ b5
 n : ∀ b, K b -> b ≠ b2 /\ b ≠ b3 /\ b ≠ b5
section
variable {w0 ws w w' : World} {H K : Nat -> Prop} {p q b2 b3 b5 en : Nat} {x : HpS} {R : Ros} {M : aV}
theorem SvL.below (h : SvL w0 H K ws p q b2 b3 b5 x R en M w) (hb : Below w.heap.size w w') : SvL w0 H K ws p q b2 b3 b5 x R en M w' := by
 obtain ⟨us, h0, h1⟩ := h.j;exact ⟨⟨us, h0, h1.below hb⟩, aC h.h2 hb, aC h.h3 hb, aC h.h5 hb, h.k.trans ((h1.kept hb).less fun b e => .inl e), h.g, h.d, h.n⟩
theorem SvL.drew (h : SvL w0 H K ws p q b2 b3 b5 x R en M w) : SvL w0 H K ws p q b2 b3 b5 x R en M w.drew := h.below (bd ak)
theorem SvL.turn {M' : aV} {us : Nat} (h : SvL w0 H K ws p q b2 b3 b5 x R en M w) (hu : us <= en) (j : HJ w0 H (fun b => K b \/ b = b2 \/ b = b3 \/ b = b5) w' p q M' { x with us := us }) (kk : cj (fun b => K b \/ b = b2 \/ b = b3 \/ b = b5) w w') : SvL w0 H K ws p q b2 b3 b5 x R en M' w' :=
 ⟨⟨us, hu, j⟩, kk.at_ (.inr (.inl rfl)) h.h2, kk.at_ (.inr (.inr (.inl rfl))) h.h3, kk.at_ (.inr (.inr (.inr rfl))) h.h5, h.k.trans (kk.less fun b e => .inl e), h.g, h.d, h.n⟩
theorem SvL.ajI (h : SvL w0 H K ws p q b2 b3 b5 x R en M w) (y : Ros) : SvL w0 H K ws p q b2 b3 b5 x y en M (i3 w b3 y) := by
 obtain ⟨us, h0, h1⟩ := h.j;have ho : Only (fun b => b = b3) w (i3 w b3 y) := (Only.refl (fun b => b = b3) w).setCells (.inl rfl) _ _;exact ⟨⟨us, h0, h1.mine (.inr (.inr (.inl rfl))) h.g.2.1 ho⟩, ho.keep h.h2 h.d.1, jO h.h3, ho.keep h.h5 (fun e => h.d.2.2 e.symm), h.k.trans (cj.xM ho fun b e => ⟨(h.n b e).2.1, h1.lt (.inl e)⟩), h.g, h.d, h.n⟩
theorem SvL.ix {em : Nat} (h : SvL w0 H K ws p q b2 b3 b5 x R en M w) (he : en <= em) : SvL w0 H K ws p q b2 b3 b5 x R em M (w.setCell ⟨b5, 0, none⟩ (.int .u64 (em : Int))) := by
 obtain ⟨us, h0, h1⟩ := h.j;have ho : Only (fun b => b = b5) w (w.setCell ⟨b5, 0, none⟩ (.int .u64 (em : Int))) := (Only.refl (fun b => b = b5) w).setCell (p := ⟨b5, 0, none⟩) (.inl rfl) _;exact ⟨⟨us, by omega, h1.mine (.inr (.inr (.inr rfl))) h.g.2.2 ho⟩, ho.keep h.h2 h.d.2.1, ho.keep h.h3 h.d.2.2, heap_setCell_same w b5 0 _ _ _ h.h5, h.k.trans (cj.xM ho fun b e => ⟨(h.n b e).2.2, h1.lt (.inl e)⟩), h.g, h.d, h.n⟩
theorem acG {m : Nat} (hr : Room M 2) (hev : 1 <= en /\ en <= 4611686018427387904) (hid : x.id ≠ 0 /\ x.id < 18446744073709551616) (hf : aW R = true) (hm : m < R.m.toNat) (h : SvL w0 H K ws p q b2 b3 b5 x R en M w) : Calls prog 139 #[.int .i64 (m : Int), .pointer (some ⟨b2, 0, none⟩), .pointer (some ⟨b5, 0, none⟩), .pointer (some ⟨b3, 0, none⟩)] w fun e w' =>
  e = .returned (.int .i64 (dF x.id en R M m)) /\ SvL w0 H K ws p q b2 b3 b5 x (if dF x.id en R M m = 9 then dM R (m : Int) else R) en (eg x.id en R M m) w' := by
 obtain ⟨E, hE⟩ : ∃ E, dF x.id en R M m = E := ⟨_, rfl⟩;obtain ⟨M2, hM2⟩ : ∃ M2, eg x.id en R M m = M2 := ⟨_, rfl⟩;rw [hE, hM2];obtain ⟨us, hus, hj⟩ := h.drew.j;have hlay := agJ hr hev (x := { x with us := us }) hid hf hm hj;have hlay : Calls prog 140 #[.pointer (some ⟨p, 0, none⟩), .int .u64 (en : Int), sup ⟨x.id, (m : Int), R⟩] w.drew fun e w' => e = .returned (.int .i64 E) /\ SvL w0 H K ws p q b2 b3 b5 x R en M2 w' :=
  hlay.mono fun e w' ⟨e1, ⟨us', e2, e3⟩, e4⟩ => ⟨by rw [e1]; show Ending.returned (.int .i64 (dF x.id en R M m)) = _; rw [hE], h.drew.turn (us := us') (by rcases e2 with e2 | e2 <;> (rw [e2]; first | exact hus | exact aj)) (by rw [<- hM2]; exact e3) e4⟩
 have HLAY := ae hlay;have HJ := ae hj;have HL := ae h.drew;obtain ⟨y, hy⟩ : ∃ y, dM R (m : Int) = y := ⟨_, rfl⟩;rw [hy];obtain ⟨z, hz⟩ : ∃ z, (if E = 9 then y else R) = z := ⟨_, rfl⟩;rw [hz];have HZ := ae hz;have HY := ae hy;clear hz;clear hr hev hid hf hm h hE hM2 hus hj hlay hy;go_enter func139, ntmps139;go_upto_region 1 with fail;refine wp_region_still_tail 9 (by kernel_rfl) (by kernel_rfl) ?_;simp only [ac];refine aP rfl (aD rfl akt (lz ((aQ HL.out.h2) 0 _ rfl))) ?_;simp only [aa];refine aP rfl (aD rfl akt (mc ((aQ HL.out.h5) 0 _ rfl))) ?_;simp only [aa];refine aP rfl (aD rfl akt (lz ((aQ HL.out.h2) 0 _ rfl))) ?_;simp only [aa];refine aP rfl (bq rfl akt) ?_;simp only [aa];refine aP rfl (ax rfl akt agi) ?_;simp only [aa];refine aP rfl (aD rfl akt (mc (PHo.c1 HJ.out.hul))) ?_;simp only [aa];refine aP rfl (aM rfl akt) ?_;simp only [aa];refine aP rfl (bi rfl akt (aQ HL.out.h3)) ?_;simp only [aa];refine aP rfl (xE rfl akt akt akt) ?_;simp only [aa];refine wpStill_nil ?_;change wpList _ _ _ _ _ (World.drew _);refine ay rfl (aB call140 rfl (evc akt (evc akt (evc akt evn)))) ?_;refine (HLAY.out).mono ?_;rintro e w2 ⟨rfl, l2⟩;have HL2 := ae l2;clear l2;refine aR ?_;refine aF 1 ?_;by_cases h9 : E = 9;rotate_left 1
 ·have H9 : Hid ((E == 9) = false) := ae (av h9);have HZZ : Hid (z = R) := ae (by rw [<- HZ.out, if_neg h9]);clear h9;go_upto_region 2 with fail;refine aI 1 ?_;refine akj (aH false rfl akt evk H9) ?_;refine ah ?_;go_upto_region 4 with fail;refine cf 2 ?_;go_wp2_with fail;go_ret;exact ⟨rfl, by rw [HZZ.out]; exact HL2⟩
 subst h9;have HZZ : Hid (z = y) := ae (by rw [<- HZ.out, if_pos rfl]);go_upto_region 2 with fail;refine aI 1 ?_;refine akj (aH true rfl akt evk rfl) ?_;refine ah ?_;obtain ⟨lb, hlb⟩ : ∃ lb, lY R (m : Int) = lb := ⟨_, rfl⟩;have HLB := ae hlb;clear hlb;go_upto_region 3 with fail;refine af ?_;refine akj (bi rfl akt HL2.out.h3.range) ?_;refine runs 1 ?_;refine ay rfl (aB call135 rfl (evc akt (evc akt evn))) ?_;refine (xV w2 HY HLB).mono ?_;rintro e w3 ⟨rfl, b3'⟩;have HL3 := ae (HL2.out.below b3');clear b3';refine aR ?_;refine runs 3 ?_;refine aG rfl (dP rfl (ev rfl) (ev rfl) HL3.out.h3) ?_;simp only [aa];have HL4 := ae (HL3.out.ajI y);generalize i3 w3 b3 y = w4 at *;refine ah ?_;go_upto_region 4 with fail;refine cf 2 ?_;go_wp2_with fail;go_ret;exact ⟨rfl, by rw [HZZ.out]; exact HL4⟩
end
theorem wU {ρ : Operand -> Value} {o : Oper} {x1 x2 : Operand} {w : World} {b off : Nat} {y : Ros} (ho : o.op = .store 58 x1 x2) (hx : ρ x1 = .pointer (some ⟨b, off, none⟩)) (hy : ρ x2 = ros y) (ht : w.there b off 21) : (execOp ρ o).run prog w = .ok .skip (w.setCells b off (aZ y)) :=
 f6 (by rw [br]; kernel_rfl) (me y) ho hx hy (by rw [br]; exact ht)
theorem vB {ρ : Operand -> Value} {o : Oper} {x y : Operand} {w : World} {t r : TypeId} {a b c : Int} (ho : o.op = .binOp .add t x y r) (hx : ρ x = .int .u64 a) (hy : ρ y = .int .u64 b) (h : IntKind.u64.wrap (a + b) = c) : (execOp ρ o).run prog w = .ok (.value (.int .u64 c)) w := by
 unfold execOp;simp [ho, hx, hy, eqGuard, binOp, Op.intArith, h]
def svF (b2 b5 b3 : Nat) : Fu := ⟨139, [.pointer (some ⟨b2, 0, none⟩), .pointer (some ⟨b5, 0, none⟩), .pointer (some ⟨b3, 0, none⟩)], call139⟩
def ahr (b : Nat) (w : World) : Nat := (intOf ((w.cell? ⟨b, 0, none⟩).getD undef)).toNat
theorem yB {w : World} {b n : Nat} (h : w.heap[b]? = some (.cells #[.int .u64 (n : Int)] 34 (0, 0))) : ahr b w = n := by
 unfold ahr;rw [cell_of_row w b 0 _ _ _ h]
 rfl
def SvQ (w0 : World) (H K : Nat -> Prop) (w : World) (p q : Nat) (x : HpS) (h0 : HuS) (w' : World) : Prop :=
 cj K w w' /\ (fT h0 = 0 -> HJ w0 H K w' p q (fk h0).M ⟨x.id, (fk h0).ev, (fk h0).ev, (fk h0).R⟩ /\ aW (fk h0).R = true /\ (fk h0).id = x.id /\ (fk h0).ev <= x.us + 17) /\ (fT h0 ≠ 0 -> ∃ us, us <= x.us + 17 /\ HJ w0 H K w' p q (fk h0).M { x with us := us })
section
variable {w0 ws w w' : World} {H K : Nat -> Prop} {p q b2 b3 b5 en : Nat} {x : HpS} {R : Ros} {M : aV}
def OnQ (w0 : World) (H K : Nat -> Prop) (ws : World) (p q b2 b3 b5 : Nat) (x : HpS) (R : Ros) (en : Nat) (O : Option Nat × Int × aV) (E : Int) (w' : World) : Prop :=
 (O.1 = none /\ E = O.2.1 /\ E ≠ 9 /\ SvL w0 H K ws p q b2 b3 b5 x R en O.2.2 w') \/ (E = 9 /\ ∃ d : Nat, O.1 = some d /\ SvL w0 H K ws p q b2 b3 b5 x (dM R (d : Int)) en O.2.2 w')
theorem afK {O : Option Nat × Int × aV} (hO : dn x.id en R R.m.toNat 0 M = O) (hr : Room M 32) (hev : 1 <= en /\ en <= 4611686018427387904) (hid : x.id ≠ 0 /\ x.id < 18446744073709551616) (hf : aW R = true) (h : SvL w0 H K ws p q b2 b3 b5 x R en M w) :
  Calls prog 68 #[.pointer (some ⟨b3, 0, none⟩), (svF b2 b5 b3).val] w fun e w' => ∃ E : Int, e = .returned (.int .i64 E) /\ OnQ w0 H K ws p q b2 b3 b5 x R en O E w' := by
 have hm := lD hf;have hm0 : 0 <= R.m := by have hf' := hf; unfold aW at hf'; simp only [Bool.and_eq_true] at hf'; have := ew hf'.1.1.1; omega
 obtain ⟨N, hN⟩ : ∃ N : Nat, R.m = (N : Int) := ⟨R.m.toNat, by omega⟩;have hN' : R.m.toNat = N := by rw [hN]; rfl
 rw [hN'] at hO hm;refine yv (N := N) (svF b2 b5 b3) (fun m R' w' => ∃ Mm, R' = R /\ m <= N /\ SvL w0 H K ws p q b2 b3 b5 x R en Mm w' /\ dn x.id en R (N - m) m Mm = O /\ Room Mm (2 * (N - m))) (OnQ w0 H K ws p q b2 b3 b5 x R en O) hm ?_ ?_ ?_ ?_ (R := R) ⟨M, rfl, Nat.zero_le _, h, hO, cM hr (by omega)⟩
 ·rintro m R' w' ⟨Mm, rfl, _, l, _⟩;exact ⟨l.h3.range, hN⟩
 ·rintro m R' w' hlt hs ⟨Mm, rfl, _, l, ho, hrm⟩;refine ⟨Mm, rfl, hlt, l, ?_, cM hrm (by omega)⟩;obtain ⟨k0, hk0⟩ : ∃ k0, N - m = k0 + 1 := ⟨N - m - 1, by omega⟩;rw [hk0, pa hs] at ho;rw [show N - (m + 1) = k0 by omega];exact ho
 ·rintro m R' w' hlt hs ⟨Mm, rfl, _, l, ho, hrm⟩;obtain ⟨k0, hk0⟩ : ∃ k0, N - m = k0 + 1 := ⟨N - m - 1, by omega⟩;rw [hk0] at ho hrm;refine (acG (m := m) (cM hrm (by omega)) hev hid hf (by omega) l).mono ?_;rintro e w2 ⟨rfl, l2⟩;refine ⟨_, rfl, ?_⟩;by_cases h0 : dF x.id en R' Mm m = 0
  ·refine .inl ⟨h0, R', eg x.id en R' Mm m, rfl, hlt, ?_, ?_, ?_⟩
   ·rw [if_neg (by rw [h0]; decide)] at l2;exact l2
   ·rw [ox hs h0] at ho;rw [show N - (m + 1) = k0 by omega];exact ho
   ·rw [show N - (m + 1) = k0 by omega];exact ada (cM hrm (by omega))
  ·refine .inr ⟨h0, ?_⟩;by_cases h9 : dF x.id en R' Mm m = 9
   ·rw [if_pos h9] at l2;rw [wM hs h9] at ho;subst ho;exact .inr ⟨h9, m, rfl, l2⟩
   ·rw [if_neg h9] at l2;rw [aal hs h0 h9] at ho;subst ho;exact .inl ⟨rfl, rfl, h9, l2⟩
 ·rintro R' w' ⟨Mm, rfl, _, l, ho, _⟩;rw [Nat.sub_self] at ho;subst ho;exact .inl ⟨rfl, rfl, by decide, l⟩
def acu (b2 b3 b5 p en : Nat) (R : Ros) (w : World) : Prop :=
 w.heap[b2]? = some (.cells #[.pointer (some ⟨p, 0, none⟩)] 24 (0, 0)) /\ bJ w b3 R /\ w.heap[b5]? = some (.cells #[.int .u64 (en : Int)] 34 (0, 0))
theorem acu.only (h : acu b2 b3 b5 p en R w) (ho : Only (fun b => b = p) w w') (hn : b2 ≠ p /\ b3 ≠ p /\ b5 ≠ p) : acu b2 b3 b5 p en R w' := ⟨ho.keep h.1 hn.1, ho.keep h.2.1 hn.2.1, ho.keep h.2.2 hn.2.2⟩
theorem afX (hf : aW R = true) (hid : x.id ≠ 0 /\ x.id < 18446744073709551616) (hr : Room M 600) (he : x.us <= 4611686018427387000) (h : HJ w0 H K w p q M x) : Calls prog 136 #[.pointer (some ⟨p, 0, none⟩), ros R] w fun e w' =>
  e = .returned (.int .i64 (fT ⟨M, x.id, x.us, R⟩)) /\ SvQ w0 H K w p q x ⟨M, x.id, x.us, R⟩ w' := by
 obtain ⟨h0, hh0⟩ : ∃ h0 : HuS, h0 = ⟨M, x.id, x.us, R⟩ := ⟨_, rfl⟩;rw [<- hh0];have HST : Hid (OnS h0 17 h0) := ae (OnS.start (by rw [hh0]; exact hf) (by rw [hh0]; exact hr));have HH0 := ae hh0;have HJ := ae h;have HIDs := ae hid;have HUS := ae he;clear hf hid hr he h hh0;go_enter func136, ntmps136;go_upto_region 0 with fail;refine af ?_;refine akj (eW rfl rfl akt) ?_;have hb0 := (Below.refl w.heap.size w).alloc aj (.cells #[.pointer (some ⟨p, 0, none⟩)] 24);have HP1 := ae (heap_alloc_new w (.cells #[.pointer (some ⟨p, 0, none⟩)] 24));have HB1 := ae hb0;obtain ⟨b2, hb2⟩ : ∃ b2, w.heap.size = b2 := ⟨_, rfl⟩;have HG2 : Hid (w.heap.size <= b2) := ae (Nat.le_of_eq hb2);rw [hb2] at HP1 ⊢;clear hb2 hb0;generalize w.alloc (.cells #[.pointer (some ⟨p, 0, none⟩)] 24) = w1 at *;refine akj (a6 rfl akt) ?_;have hb0 := (Below.refl w1.heap.size w1).alloc aj (.cells (aZ R).toArray 58);have HR2 := ae (bJ.new w1 R);have HP2 := ae (aC HP1 hb0);have HB2 := ae (HB1.out.trans (hb0.mono HB1.out.size));obtain ⟨b3, hb3⟩ : ∃ b3, w1.heap.size = b3 := ⟨_, rfl⟩;have HG3 : Hid (b2 < b3) := ae (by rw [<- hb3]; exact aU HP1);rw [hb3] at HR2 ⊢;clear hb3 hb0 HP1 HB1;generalize w1.alloc (.cells (aZ R).toArray 58) = w2 at *;refine aF 1 ?_;go_upto_region 1 with fail;refine af ?_;refine akj (aD rfl akt (lz ((aQ HP2) 0 _ rfl))) ?_;refine runs 1 ?_;refine akj (ax rfl akt acT) ?_;refine akj (aD rfl akt (mc (PHo.c24 (HJ.out.below HB2).hul))) ?_;refine akj (m9 rfl aij rfl) ?_;have hb0 := (Below.refl w2.heap.size w2).alloc aj (.cells #[.int .u64 0] 34);have HE3 := ae (heap_alloc_new w2 (.cells #[.int .u64 0] 34));have HP3 := ae (aC HP2 hb0);have HR3 : Hid (bJ _ b3 R) := ae (aC HR2 hb0);have HB3 := ae (HB2.out.trans (hb0.mono HB2.out.size));obtain ⟨b5, hb5⟩ : ∃ b5, w2.heap.size = b5 := ⟨_, rfl⟩;have HG5 : Hid (b3 < b5) := ae (by rw [<- hb5]; exact aU HR2);rw [hb5] at HE3 ⊢;clear hb5 hb0 HP2 HR2;generalize w2.alloc (.cells #[.int .u64 0] 34) = w3 at *;refine aG rfl (i5 rfl (ev rfl) (ev rfl) (cell_of_row _ b5 0 _ _ _ HE3.out) (frozen_of_row _ b5 0 _ _ HE3.out)) ?_;simp only [aa];have ho : Only (fun b => b = b5) w3 (w3.setCell ⟨b5, 0, none⟩ (.int .u64 (x.us : Int))) := (Only.refl (fun b => b = b5) w3).setCell (p := ⟨b5, 0, none⟩) (.inl rfl) _;have HE4 := ae (heap_setCell_same w3 b5 0 _ _ (.int .u64 (x.us : Int)) HE3);have HP4 := ae (ho.keep HP3 (by have := HG3.out; have := HG5.out; omega));have HR4 : Hid (bJ _ b3 R) := ae (ho.keep HR3 (by have := HG5.out; omega));have HB4 := ae (HB3.out.setCell (p := ⟨b5, 0, none⟩) (by have := HG2.out; have := HG3.out; have := HG5.out; show w.heap.size <= b5; omega) (.int .u64 (x.us : Int)));clear ho HE3 HP3 HR3 HB3;generalize w3.setCell ⟨b5, 0, none⟩ (.int .u64 (x.us : Int)) = w4 at *;refine ah ?_;have HSV : Hid (SvL w0 H K w p q b2 b3 b5 x R x.us M w4) := ae (by
  have g2 := HG2.out;have g3 := HG3.out;have g5 := HG5.out;have hs := HJ.out.size;have hl5 := aU HE4;refine ⟨⟨x.us, aj, HJ.out.guard HB4 fun b e => ?_⟩, HP4, HR4, HE4, HJ.out.kept HB4, ⟨by omega, by omega, by omega⟩, ⟨by omega, by omega, by omega⟩, fun b e => ?_⟩
  ·rcases e with e | e | e | e
   ·exact .inl e
   ·exact .inr ⟨by omega, by omega⟩
   ·exact .inr ⟨by omega, by omega⟩
   ·exact .inr ⟨by omega, by omega⟩
  ·have := HJ.out.lt e;exact ⟨by omega, by omega, by omega⟩)
 clear HE4 HP4 HR4 HB4 HB2;go_upto_region 2 with fail;refine af ?_;refine akj (mF rfl akt akt akt) ?_;refine aF 1 ?_;go_wp2_with fail
 go_loopw [7] (fun z wr => ∃ (f : Nat) (hi : HuS), OnS h0 f hi /\ SvL w0 H K w p q b2 b3 b5 x hi.R hi.ev hi.M wr) (fun _ wr => 4611686018427390000 - ahr b5 wr)
 case atStart => exact ⟨17, h0, HST, by rw [HH0.out]; exact HSV⟩
 case round =>
  clear HSV HST;obtain ⟨f, hi, hs, hl⟩ := hrel;have hev : hi.ev < 4611686018427387900 := by have h1 := hs.ev; rw [HH0.out] at h1; have h2 : hi.ev + f <= x.us + 17 := h1; have := HUS.out; omega
  have HOS := ae hs;have HSV := ae hl;have HEV := ae hev;have HIX : Hid (hi.id = x.id) := ae (by rw [hs.id, HH0.out]);have HEA : Hid (IntKind.u64.wrap ((hi.ev : Int) + 1) = ((hi.ev + 1 : Nat) : Int)) := ae (by rw [IntKind.wrap_u64]; rw [Int.emod_eq_of_lt (by omega) (by omega)]; omega);have HMS := ae (yB hl.h5);clear hs hl hev;go_upto_region 3 with fail;refine af ?_;refine akj (aD rfl akt (mc (cell_of_row _ b5 0 _ _ _ HSV.out.h5))) ?_;refine akj (vB rfl akt evk HEA) ?_;refine aG rfl (i5 rfl (ev rfl) (ev rfl) (cell_of_row _ b5 0 _ _ _ HSV.out.h5) (frozen_of_row _ b5 0 _ _ HSV.out.h5)) ?_;simp only [aa];have HS1 := ae (HSV.out.ix (em := hi.ev + 1) (Nat.le_succ _));generalize wr.setCell ⟨b5, 0, none⟩ (.int .u64 ((hi.ev + 1 : Nat) : Int)) = w5 at *;refine ah ?_;obtain ⟨O, hO⟩ : ∃ O, dn x.id (hi.ev + 1) hi.R hi.R.m.toNat 0 hi.M = O := ⟨_, rfl⟩;have HO := ae hO;have HO2 : Hid (dn hi.id (hi.ev + 1) hi.R hi.R.m.toNat 0 hi.M = O) := ae (by rw [HIX.out]; exact hO);clear hO;go_upto_region 4 with fail;refine aI 1 ?_;refine ay rfl (aB call68 rfl (evc akt (evc akt evn))) ?_;refine (afK (O := O) (b2 := b2) (b3 := b3) (b5 := b5) HO (cM HOS.out.rm (by obtain ⟨f', hf'⟩ := HOS.out.pos; omega)) ⟨by omega, by have := HEV.out; omega⟩ HIDs HOS.out.fine HS1).mono ?_;rintro e w6 ⟨E, rfl, hq⟩;have HQ := ae hq;clear hq;refine aR ?_;refine aF 1 ?_;go_upto_region 5 with fail;refine cf 1 ?_;by_cases h0' : E = 0
  ·subst h0';obtain ⟨M9, hM9⟩ : ∃ M9, O.2.2 = M9 := ⟨_, rfl⟩;have hq : O.1 = none /\ O.2.1 = 0 /\ SvL w0 H K w p q b2 b3 b5 x hi.R (hi.ev + 1) M9 w6 := by
    rcases HQ.out with ⟨q1, q2, _, q3⟩ | ⟨q1, _⟩
    ·exact ⟨q1, q2.symm, by rw [<- hM9]; exact q3⟩
    ·exact absurd q1 (by decide)
   have hO : O = (none, 0, M9) := by
    obtain ⟨o1, o2, o3⟩ := O;obtain ⟨q1, q2, _⟩ := hq;simp only at q1 q2 hM9;rw [q1, q2, hM9]
   have hfin := HOS.out.fin (by rw [HO2.out]; exact hO);have HFI := ae hfin;have HS9 := ae hq.2.2;clear hq hO hfin hM9 HQ HS1;go_upto_region 7 with fail;refine af ?_;refine akj (aH true rfl akt evk rfl) ?_;refine aF 1 ?_;obtain ⟨us, hus, hj⟩ := HS9.out.drew.j;have HJ9 := ae hj;have HNP : Hid (b2 ≠ p /\ b3 ≠ p /\ b5 ≠ p) := ae ⟨hj.ne (.inr (.inl rfl)), hj.ne (.inr (.inr (.inl rfl))), hj.ne (.inr (.inr (.inr rfl)))⟩;have HEN : Hid (acu b2 b3 b5 p (hi.ev + 1) hi.R (World.drew w6)) := ae ⟨HS9.out.drew.h2, HS9.out.drew.h3, HS9.out.drew.h5⟩;have ho1 : Only (fun b => b = p) (World.drew w6) ((World.drew w6).setCell ⟨p, 2, none⟩ (.int .u64 ((hi.ev + 1 : Nat) : Int))) := (Only.refl (fun b => b = p) (World.drew w6)).setCell (p := ⟨p, 2, none⟩) (.inl rfl) _;have hp1 : PHo ((World.drew w6).setCell ⟨p, 2, none⟩ (.int .u64 ((hi.ev + 1 : Nat) : Int))) p (some ⟨q, 0, none⟩) { x with ev := hi.ev + 1, us := us } := hj.hul.set (ahO _ _ (hi.ev + 1));have HEN1 := ae (HEN.out.only ho1 HNP);have HP1 := ae hp1;have HO1 := ae ho1;clear hj hus hp1 ho1;go_upto_region 8 with fail;refine wp_region_held (S := acu b2 b3 b5 p (hi.ev + 1) hi.R) (by kernel_rfl) ?_;change wpAnyH _ _ _ _ _ 15 _ _ w6.drew;refine akm 0 rfl (fun _ hw => aD rfl akt (lz ((aQ hw.1) 0 _ rfl))) HEN ?_;refine akm 1 rfl (fun _ hw => aD rfl akt (lz ((aQ hw.1) 0 _ rfl))) HEN ?_;refine akm 2 rfl (fun _ hw => aD rfl akt (lz ((aQ hw.1) 0 _ rfl))) HEN ?_;refine akm 3 rfl (fun _ hw => aD rfl akt (mc (cell_of_row _ b5 0 _ _ _ hw.2.2))) HEN ?_;refine akm 4 rfl (fun _ hw => aD rfl akt (mc (cell_of_row _ b5 0 _ _ _ hw.2.2))) HEN ?_;refine akm 5 rfl (fun _ hw => bi rfl akt hw.2.1.range) HEN ?_;refine akI 6 rfl HEN ?_;refine akm 7 rfl (fun _ hw => ax rfl akt ajj) HEN ?_;refine dK 8 rfl (by kernel_rfl) rfl (i5 rfl (ev rfl) (ev rfl) HJ9.out.hul.c2 (HJ9.out.hul.acC 2)) HEN1.out ?_;simp only [Act.put];generalize (World.drew w6).setCell ⟨p, 2, none⟩ (.int .u64 ((hi.ev + 1 : Nat) : Int)) = w7 at *;have ho2 : Only (fun b => b = p) w7 (w7.setCell ⟨p, 24, none⟩ (.int .u64 ((hi.ev + 1 : Nat) : Int))) := (Only.refl (fun b => b = p) w7).setCell (p := ⟨p, 24, none⟩) (.inl rfl) _;have HP2 := ae (HP1.out.set (acp _ _ (hi.ev + 1)));have HEN2 := ae (HEN1.out.only ho2 HNP);have HO2' := ae (HO1.out.trans ho2 fun b e => .inl e);clear ho2;refine akI 9 rfl HEN1 ?_;refine akm 10 rfl (fun _ hw => ax rfl akt acT) HEN1 ?_;refine dK 11 rfl (by kernel_rfl) rfl (i5 rfl (ev rfl) (ev rfl) HP1.out.c24 (HP1.out.acC 24)) HEN2.out ?_;simp only [Act.put];generalize w7.setCell ⟨p, 24, none⟩ (.int .u64 ((hi.ev + 1 : Nat) : Int)) = w8 at *;have ho3 : Only (fun b => b = p) w8 (w8.setCells p 3 (aZ hi.R)) := (Only.refl (fun b => b = p) w8).setCells (.inl rfl) _ _;have HP3 := ae (HP2.out.put hi.R);have HEN3 := ae (HEN2.out.only ho3 HNP);have HO3 := ae (HO2'.out.trans ho3 fun b e => .inl e);clear ho3;refine akI 12 rfl HEN2 ?_;refine akm 13 rfl (fun _ hw => ax rfl akt pW) HEN2 ?_;refine dK 14 rfl (by kernel_rfl) rfl (wU rfl (ev rfl) (ev rfl) (HP2.out.there (by omega))) HEN3.out ?_;simp only [Act.put];generalize w8.setCells p 3 (aZ hi.R) = w9 at *;refine wpAnyH_done (by kernel_rfl) ?_ _;go_upto_region 9 with fail;refine cf 1 ?_;go_wp2_with fail;go_ret;have hx : fT h0 = 0 := HFI.out.1;have hS : fk h0 = ⟨M9, hi.id, hi.ev + 1, hi.R⟩ := HFI.out.2;obtain ⟨j9, k9⟩ := HJ9.out.obj HO3 HP3;refine ⟨by rw [hx]; rfl, HS9.out.drew.k.trans (k9.less fun b e => .inl e), fun _ => ?_, fun e => absurd hx e⟩;rw [hS];exact ⟨j9.less fun b e => .inl e, HOS.out.fine, HIX, by obtain ⟨f', hf'⟩ := HOS.out.pos; have h1 := HOS.out.ev; rw [HH0.out] at h1; have h2 : hi.ev + f <= x.us + 17 := h1; show hi.ev + 1 <= _; omega⟩
  have H0 : Hid ((E == 0) = false) := ae (av h0');go_upto_region 7 with fail;refine af ?_;refine akj (aH false rfl akt evk H0) ?_;refine aF 1 ?_;by_cases h9 : E = 9
  ·subst h9;have hq : ∃ d : Nat, O.1 = some d /\ SvL w0 H K w p q b2 b3 b5 x (dM hi.R (d : Int)) (hi.ev + 1) O.2.2 w6 := by
    rcases HQ.out with ⟨_, _, q1, _⟩ | ⟨_, q1⟩
    ·exact absurd rfl q1
    ·exact q1
   obtain ⟨d, hd, hl⟩ := hq;obtain ⟨f', hf', hg⟩ := HOS.out.go (d := d) (e := O.2.1) (M' := O.2.2) (by rw [HO2.out]; obtain ⟨o1, o2, o3⟩ := O; simp only at hd; rw [hd]);have HG := ae hg;have HL := ae hl;clear hd hl hf' hg HQ HS1 h0';go_upto_region 10 with fail;refine af ?_;refine akj (aH true rfl akt evk rfl) ?_;refine aF 1 ?_;go_wp2_with fail;go_roundw
   case rel => exact ⟨f', _, HG, HL⟩
   case measure => have h1 := yB HL.out.h5; have h2 := HMS.out; have h3 := HEV.out; rw [h1, h2]; omega
  have H9 : Hid ((E == 9) = false) := ae (av h9);have hq : O.1 = none /\ E = O.2.1 /\ SvL w0 H K w p q b2 b3 b5 x hi.R (hi.ev + 1) O.2.2 w6 := by
   rcases HQ.out with ⟨q1, q2, _, q3⟩ | ⟨q1, _⟩
   ·exact ⟨q1, q2, q3⟩
   ·exact absurd q1 h9
  have hfin := HOS.out.fin (e := E) (M' := O.2.2) (by rw [HO2.out]; obtain ⟨o1, o2, o3⟩ := O; obtain ⟨q1, q2, _⟩ := hq; simp only at q1 q2; rw [q1, q2]);have HFI := ae hfin;have HL := ae hq.2.2;have HE0 := ae h0';clear hq hfin h9 h0' HQ HS1;go_upto_region 10 with fail;refine af ?_;refine akj (aH false rfl akt evk H9) ?_;refine aF 1 ?_;go_upto_region 6 with fail;refine cf 2 ?_;go_wp2_with fail;go_ret;have hx : fT h0 = E := HFI.out.1;have hS : fk h0 = ⟨O.2.2, hi.id, hi.ev + 1, hi.R⟩ := HFI.out.2;obtain ⟨us, hus, hj⟩ := HL.out.j;refine ⟨by rw [hx]; rfl, HL.out.k, fun e => absurd (hx.symm.trans e) HE0, fun _ => ⟨us, ?_, ?_⟩⟩
  ·obtain ⟨f', hf'⟩ := HOS.out.pos;have h1 := HOS.out.ev;rw [HH0.out] at h1;have h2 : hi.ev + f <= x.us + 17 := h1;omega
  ·rw [hS];exact hj.less fun b e => .inl e
end
end Go.Proofs.YtlmdklakcmnaiaaGreatDoor
