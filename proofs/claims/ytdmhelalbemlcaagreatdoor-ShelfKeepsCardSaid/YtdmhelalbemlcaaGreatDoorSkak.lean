import Derived.Test.YtdmhelalbemlcaaGreatDoorSkaj
import Derived.Shelf.Sort.Plain
import Derived.Shelf.Slices.In.SortNone
namespace Go.Proofs.YtdmhelalbemlcaaGreatDoor
set_option maxHeartbeats 8000000
open Go.Proofs.Tryz
open Go.RowKit
set_option linter.unusedVariables false
set_option linter.unusedSimpArgs false
set_option maxRecDepth 100000
def iT (m s r : Int) : Value := .agg #[.int .i64 m, .int .i64 s, .int .i64 r]
def fd (s m : Int) : Value := .agg #[.int .i64 s, .int .i64 m]
def may (m s r : Int) : Bool := decide (3 <= m /\ m <= 16 /\ 1 <= s /\ s <= 64 /\ 40 <= r /\ r <= 256)
theorem iW {m s r : Int} : may m s r = true ↔ (3 <= m /\ m <= 16 /\ 1 <= s /\ s <= 64 /\ 40 <= r /\ r <= 256) := by unfold may; rw [decide_eq_true_iff]
theorem ahy {m s r : Int} : may m s r = false ↔ ¬(3 <= m /\ m <= 16 /\ 1 <= s /\ s <= 64 /\ 40 <= r /\ r <= 256) := by unfold may; rw [decide_eq_false_iff_not]
def has (s t : Int) : Bool := decide (0 <= t /\ t < s)
theorem gK {s t : Int} : has s t = true ↔ (0 <= t /\ t < s) := by unfold has; rw [decide_eq_true_iff]
theorem afz {s t : Int} : has s t = false ↔ ¬(0 <= t /\ t < s) := by unfold has; rw [decide_eq_false_iff_not]
theorem jz (m s r : Int) (w : World) : Calls prog 25 #[iT m s r] w fun e w' => e = .returned (.bool (may m s r)) /\ Below w.heap.size w w' := by
 unfold iT;go_enter func25, ntmps25;go_wp2
 all_goals
  go_ret;refine ⟨bF ?_, ak.alloc aj _⟩
  first
   |(refine Eq.symm (ahy.2 ?_); omega)
   |(rw [Bool.eq_iff_iff, iW, decide_eq_true_iff]; omega)
theorem kX (m s r t : Int) (w : World) : Calls prog 156 #[iT m s r, .int .i64 t] w fun e w' => e = .returned (.bool (has s t)) /\ Below w.heap.size w w' := by
 unfold iT;go_enter func156, ntmps156;go_wp2
 all_goals
  go_ret;refine ⟨bF ?_, ak.alloc aj _⟩
  first
   |(refine Eq.symm (afz.2 ?_); omega)
   |(rw [Bool.eq_iff_iff, gK, decide_eq_true_iff]; omega)
theorem wP (M : Nat) (s r : Int) (w : World) (h3 : 3 <= M) (h16 : M <= 16) : Calls prog 158 #[iT M s r] w fun e w' => e = .returned (.int .i64 ((M - 1 : Nat) : Int)) /\ Below w.heap.size w w' := by
 unfold iT;go_enter func158, ntmps158;go_wp2;go_ret;exact ⟨cp (by omega), ak.alloc aj _⟩
def par (M T : Nat) : Nat := M - 1 - T % M
def dat (M T d : Nat) : Nat := (par M T + 1 + d) % M
section
variable {fn : Func} {p u : Tmp} {x y z : Int} {tmps : Array Value} {w : World} {b : Nat}
theorem yc (h0 : w.cell? ⟨b, 0, none⟩ = some (.int .i64 x)) (h1 : w.cell? ⟨b, 1, none⟩ = some (.int .i64 y)) : (loadVar 43 ⟨b, 0, none⟩).run prog w = .ok (fd x y) w := by
 simp [go_sem, loadVar, h0, h1, fd]
 done
end
section
variable {fn : Func} {p u : Tmp} {x y z : Int} {tmps : Array Value} {w : World} {b : Nat}
theorem aaJ (h : fn.results = #[.cell p 43]) (hp : tmps.getD p undef = .pointer (some ⟨b, 0, none⟩)) (h0 : w.cell? ⟨b, 0, none⟩ = some (.int .i64 x)) (h1 : w.cell? ⟨b, 1, none⟩ = some (.int .i64 y)) :
  (results fn tmps).run prog w = .ok (fd x y) w := by
 have hp' : tmps[p]?.getD undef = .pointer (some ⟨b, 0, none⟩) := by simpa using hp
 simp [results, h, hp', asAddr, yc h0 h1]
end
theorem afh {M : Nat} (T : Nat) (h3 : 3 <= M) : (M : Int) - 1 - (T : Int) % (M : Int) = ((par M T : Nat) : Int) := by
 have hlt : T % M < M := Nat.mod_lt _ (by omega);have e : (T : Int) % (M : Int) = ((T % M : Nat) : Int) := rfl;rw [e];unfold par;omega
theorem nj {M : Nat} (T : Nat) (h3 : 3 <= M) : par M T < M := by unfold par; omega
section
variable {w : World} {a : Addr} {b : Nat} {m s r : Int}
theorem adg : (Instr.fieldAt 24 (.pointer (some ⟨b, 0, none⟩)) 0).run prog w = .ok (.pointer (some ⟨b, 0, none⟩)) w := by kernel_rfl
theorem zk : (Instr.fieldAt 43 (.pointer (some ⟨b, 0, none⟩)) 0).run prog w = .ok (.pointer (some ⟨b, 0, none⟩)) w := by kernel_rfl
theorem vF : (Instr.fieldAt 43 (.pointer (some ⟨b, 0, none⟩)) 1).run prog w = .ok (.pointer (some ⟨b, 1, none⟩)) w := by kernel_rfl
theorem alj {k : IntKind} {x : Int} (h : w.cell? a = some (.int k x)) : (Instr.loadAt 3 (.pointer (some a))).run prog w = .ok (.int k x) w := by
 simp [go_sem, h]
theorem alD (h0 : w.cell? ⟨b, 0, none⟩ = some (.int .i64 m)) (h1 : w.cell? ⟨b, 1, none⟩ = some (.int .i64 s)) (h2 : w.cell? ⟨b, 2, none⟩ = some (.int .i64 r)) : (Instr.loadAt 24 (.pointer (some ⟨b, 0, none⟩))).run prog w = .ok (iT m s r) w := by
 simp [go_sem, h0, h1, h2, iT]
end
theorem agb (x y : Int) : ∀ w : World, (Instr.field 43 (.agg #[.int .i64 x, .int .i64 y]) 1).run prog w = .ok (.int .i64 y) w := fun _ => by kernel_rfl
theorem oZ (M T : Nat) (s r : Int) (w : World) (h3 : 3 <= M) (h16 : M <= 16) (ht : T <= 64) : Calls prog 157 #[iT M s r, .int .i64 T] w fun e w' => e = .returned (fd T (par M T)) /\ Below w.heap.size w w' := by
 have hne : (M : Int) ≠ 0 := by omega
 unfold iT;go_enter func157, ntmps157;go_wp2
 go_region
 go_wp2;refine bodyPost_ret (aaJ (b := w.heap.size + 1) (x := T) (y := par M T) rfl rfl (by go_simp) (by go_simp; rw [afh T h3]; exact x8 (by have := nj T h3; omega))) rfl ⟨rfl, ?_⟩;exact bd ((ak.alloc aj _).alloc (by go_simp) _)
theorem aft {M S : Nat} (h3 : 3 <= M) (h16 : M <= 16) (h64 : S <= 64) : IntKind.i64.wrap ((S : Int) * ((M - 1 : Nat) : Int)) = ((S * (M - 1) : Nat) : Int) := by
 have h := Nat.mul_le_mul h64 (show M - 1 <= 15 by omega);rw [<- Int.natCast_mul];exact IntWalk.i64_in _ (by omega)
theorem afC {m s r : Int} (h : may m s r = true) : ∃ M S : Nat, m = M /\ s = S /\ 3 <= M /\ M <= 16 /\ 1 <= S /\ S <= 64 := by
 have := iW.1 h;exact ⟨m.toNat, s.toNat, by omega, by omega, by omega, by omega, by omega, by omega⟩
def abT (t : Int) : Int := if has 64 t = true then 2 + t else 0
def abo (t : Int) : Int := if has 64 t = true then 0 else 12
theorem nQ (t : Int) (w : World) : Calls prog 128 #[.int .i64 t] w fun e w' => e = .returned (.tuple #[.int .i64 (abT t), .int .i64 (abo t)]) /\ Below w.heap.size w w' := by
 go_enter func128, ntmps128;go_wp2
 all_goals
  go_ret2;refine ⟨vX ?_ ?_, ak⟩
  all_goals
   first
   |unfold abT
   |unfold abo
   first
   |rw [if_pos (gK.2 (by omega))]
   |rw [if_neg (by rw [gK]; omega)]
section
variable {M T d m : Nat}
theorem ajX {x M : Nat} (h : x < 2 * M) : x % M = if x < M then x else x - M := by
 split
 ·exact Nat.mod_eq_of_lt (by assumption)
 ·rw [Nat.mod_eq_sub_mod (by omega), Nat.mod_eq_of_lt (by omega)]
def nth (M T m : Nat) : Nat := (m + M - par M T - 1) % M
theorem ajT (h3 : 3 <= M) (hd : d < M - 1) : dat M T d = if par M T + 1 + d < M then par M T + 1 + d else par M T + 1 + d - M := ajX (by have := nj T h3; omega)
theorem ad6 (h3 : 3 <= M) (hm : m < M) : nth M T m = if par M T < m then m - par M T - 1 else m + M - par M T - 1 := by
 unfold nth;have := nj T h3;rw [ajX (by omega)]
 split <;> split <;> omega
theorem af2 (h3 : 3 <= M) (hm : m < M) (hne : m ≠ par M T) : nth M T m < M - 1 /\ dat M T (nth M T m) = m := by
 have := nj T h3;have h1 : nth M T m < M - 1 := by rw [ad6 h3 hm]; split <;> omega
 refine ⟨h1, ?_⟩;rw [ajT h3 h1, ad6 h3 hm]
 split <;> split <;> omega
theorem aha {M : Nat} (T m : Nat) (h3 : 3 <= M) : ((m : Int) + (M : Int) - ((par M T : Nat) : Int) - 1) % (M : Int) = ((nth M T m : Nat) : Int) := by
 have := nj T h3;have e : ((m : Int) + (M : Int) - ((par M T : Nat) : Int) - 1) = ((m + M - par M T - 1 : Nat) : Int) := by omega
 rw [e]; rfl
end
def inP (m s t k : Int) : Bool := decide (0 <= t /\ t < s /\ 0 <= k /\ k < m)
theorem oK {m s t k : Int} : inP m s t k = true ↔ (0 <= t /\ t < s /\ 0 <= k /\ k < m) := by unfold inP; rw [decide_eq_true_iff]
theorem zq {m s t k : Int} : inP m s t k = false ↔ ¬(0 <= t /\ t < s /\ 0 <= k /\ k < m) := by unfold inP; rw [decide_eq_false_iff_not]
def blE (m s r t k : Int) : Int := if may m s r = true then (if inP m s t k = true then (if k.toNat = par m.toNat t.toNat then 7 else 0) else 12) else 2
def blN (m s r t k : Int) : Int := if may m s r = true then (if inP m s t k = true then (if k.toNat = par m.toNat t.toNat then 0 else ((t.toNat * (m.toNat - 1) + nth m.toNat t.toNat k.toNat : Nat) : Int)) else 0) else 0
def blV (m s r t k : Int) : Value := .tuple #[.int .i64 (blN m s r t k), .int .i64 (blE m s r t k)]
theorem ah0 {m s r : Int} (t k : Int) (h : may m s r = false) : blV m s r t k = .tuple #[.int .i64 0, .int .i64 2] := by simp [blV, blN, blE, h]
theorem afa {m s r t k : Int} (h : may m s r = true) (h' : inP m s t k = false) : blV m s r t k = .tuple #[.int .i64 0, .int .i64 12] := by simp [blV, blN, blE, h, h']
theorem agB {M S T k : Nat} {r : Int} (h : may M S r = true) (h' : inP M S T k = true) (hp : k = par M T) : blV M S r T k = .tuple #[.int .i64 0, .int .i64 7] := by
 unfold blV blN blE;simp only [h, h', if_true];rw [if_pos (show (k : Int).toNat = par (M : Int).toNat (T : Int).toNat from hp), if_pos (show (k : Int).toNat = par (M : Int).toNat (T : Int).toNat from hp)]
theorem ah5 {M S T k : Nat} {r : Int} (h : may M S r = true) (h' : inP M S T k = true) (hp : k ≠ par M T) : blV M S r T k = .tuple #[.int .i64 ((T * (M - 1) + nth M T k : Nat) : Int), .int .i64 0] := by
 unfold blV blN blE;simp only [h, h', if_true];rw [if_neg (show (k : Int).toNat ≠ par (M : Int).toNat (T : Int).toNat from hp), if_neg (show (k : Int).toNat ≠ par (M : Int).toNat (T : Int).toNat from hp)]
 rfl
theorem aew (m s r t k : Int) (w : World) (h : may m s r = false) : Calls prog 110 #[iT m s r, fd t k] w fun e w' => e = .returned (blV m s r t k) /\ Below w.heap.size w w' := by
 rw [ah0 t k h];have H := ae h;clear h;unfold iT fd;go_enter func110, ntmps110;go_wp2_with fail;refine (jz m s r _).mono ?_;rintro e w1 ⟨rfl, hb1⟩;rw [H.out];obtain ⟨K0, K1, hs, HB⟩ := jC hb1 (kB ..) (ac1 ..);clear hb1;go_wp2;go_ret2;exact ⟨rfl, HB⟩
theorem aaY (m s r t k : Int) (w : World) (h : may m s r = true) (h' : inP m s t k = false) : Calls prog 110 #[iT m s r, fd t k] w fun e w' => e = .returned (blV m s r t k) /\ Below w.heap.size w w' := by
 rw [afa h h'];have hn := zq.1 h';have H := ae h;clear h h';have h3 : has s t = false \/ (has s t = true /\ k < 0) \/ (has s t = true /\ 0 <= k /\ m <= k) := by
  cases hh : has s t
  ·exact .inl rfl
  ·have := gK.1 hh;by_cases hk : k < 0
   ·exact .inr (.inl ⟨rfl, hk⟩)
   ·exact .inr (.inr ⟨rfl, by omega, by omega⟩)
 clear hn;have go : ∀ (b : Bool), has s t = b -> (b = true -> (k < 0 \/ (0 <= k /\ m <= k))) -> Calls prog 110 #[iT m s r, fd t k] w fun e w' => e = .returned (.tuple #[.int .i64 0, .int .i64 12]) /\ Below w.heap.size w w' := by
  intro b hb hor;have HBo := ae hb;unfold iT fd;cases b
  ·clear hor h3 hb;go_enter func110, ntmps110;go_wp2_with fail;refine (jz m s r _).mono ?_;rintro e w1 ⟨rfl, hb1⟩;rw [H.out];obtain ⟨K0, K1, hs, HB⟩ := jC hb1 (kB ..) (ac1 ..);obtain ⟨c0, c1, c2⟩ := cells3 K0;obtain ⟨p0, p1, f0, f1⟩ := jg K1;clear hb1;go_wp2_with fail;refine (kX m s r t _).mono ?_;rintro e w2 ⟨rfl, hb2⟩;rw [HBo.out];go_wp2;go_ret2;exact ⟨rfl, HB.out.trans (hb2.mono HB.out.size)⟩
  ·have hor := hor rfl;clear h3 hb;rcases hor with hk | ⟨hk, hk'⟩
   all_goals
    go_enter func110, ntmps110;go_wp2_with fail;refine (jz m s r _).mono ?_;rintro e w1 ⟨rfl, hb1⟩;rw [H.out];obtain ⟨K0, K1, hs, HB⟩ := jC hb1 (kB ..) (ac1 ..);obtain ⟨c0, c1, c2⟩ := cells3 K0;obtain ⟨p0, p1, f0, f1⟩ := jg K1;clear hb1;go_wp2_with fail;refine (kX m s r t _).mono ?_;rintro e w2 ⟨rfl, hb2⟩;rw [HBo.out];obtain ⟨d0, d1, d2⟩ := cells3 (aC K0 hb2);obtain ⟨q0, q1, g0, g1⟩ := jg (aC K1 hb2);have HB2 := ae (HB.out.trans (hb2.mono HB.out.size));clear hb2 c0 c1 c2 p0 p1 f0 f1;go_wp2;go_ret2;exact ⟨rfl, HB2⟩
 rcases h3 with hh | ⟨hh, hk⟩ | ⟨hh, hk⟩
 ·exact go false hh (fun e => by cases e)
 ·exact go true hh (fun _ => .inl hk)
 ·exact go true hh (fun _ => .inr hk)
theorem abt (M S T k : Nat) (r : Int) (w : World) (h : may M S r = true) (h' : inP M S T k = true) (hp : k = par M T) : Calls prog 110 #[iT M S r, fd T k] w fun e w' => e = .returned (blV M S r T k) /\ Below w.heap.size w w' := by
 rw [agB h h' hp];have hn := oK.1 h';have hm := iW.1 h;have HH := ae (show has S T = true from gK.2 (by omega));have H := ae h;clear h h';have HP := ae hp;clear hp;unfold iT fd;go_enter func110, ntmps110;go_wp2_with fail;refine (jz M S r _).mono ?_;rintro e w1 ⟨rfl, hb1⟩;rw [H.out];obtain ⟨K0, K1, hs, HB⟩ := jC hb1 (kB ..) (ac1 ..);obtain ⟨c0, c1, c2⟩ := cells3 K0;obtain ⟨p0, p1, f0, f1⟩ := jg K1;clear hb1;go_wp2_with fail;refine (kX M S r T _).mono ?_;rintro e w2 ⟨rfl, hb2⟩;rw [HH.out];have K02 := ae (aC K0 hb2);have K12 := ae (aC K1 hb2);obtain ⟨d0, d1, d2⟩ := cells3 K02;obtain ⟨q0, q1, g0, g1⟩ := jg K12;have HB2 := ae (HB.out.trans (hb2.mono HB.out.size));clear hb2 c0 c1 c2 p0 p1 f0 f1 K0 K1;go_wp2_with fail;refine (oZ M T S r _ (by omega) (by omega) (by omega)).mono ?_;rintro e w3 ⟨rfl, hb3⟩;unfold fd;rw [<- HP.out];have K03 := ae (aC K02 hb3);have K13 := ae (aC K12 hb3);obtain ⟨c0, c1, c2⟩ := cells3 K03;obtain ⟨p0, p1, f0, f1⟩ := jg K13;have hs3 : w.heap.size + 1 < w3.heap.size := aS K13;have hs4 : w.heap.size < w3.heap.size := aS K03;have HB3 := ae (HB2.out.trans (hb3.mono HB2.out.size));clear hb3 d0 d1 d2 q0 q1 g0 g1 K02 K12 hs;go_wp2;go_ret2;exact ⟨rfl, HB3.out.alloc HB3.out.size _⟩
theorem ab4 (M S T k : Nat) (r : Int) (w : World) (h : may M S r = true) (h' : inP M S T k = true) (hp : k ≠ par M T) : Calls prog 110 #[iT M S r, fd T k] w fun e w' => e = .returned (blV M S r T k) /\ Below w.heap.size w w' := by
 rw [ah5 h h' hp];have hn := oK.1 h';have hm := iW.1 h;have HH := ae (show has S T = true from gK.2 (by omega));have H := ae h;clear h h';have hpl := nj T (M := M) (by omega);have hni := aha (M := M) T k (by omega);have hnl : nth M T k < M - 1 := (af2 (T := T) (by omega) (by omega) hp).1;have HNI := ae hni;have HM := ae (aft (M := M) (S := T) (by omega) (by omega) (by omega));have HA := ae (show IntKind.i64.wrap (((T * (M - 1) : Nat) : Int) + ((nth M T k : Nat) : Int)) = ((T * (M - 1) + nth M T k : Nat) : Int) by
  have h := Nat.mul_le_mul (show T <= 64 by omega) (show M - 1 <= 15 by omega);generalize T * (M - 1) = q at *;rw [<- Int.natCast_add];exact IntWalk.i64_in _ (by omega))
 clear hni;generalize hpq : par M T = P at *;have HPQ := ae hpq;clear hpq;unfold iT fd;go_enter func110, ntmps110;go_wp2_with fail;refine (jz M S r _).mono ?_;rintro e w1 ⟨rfl, hb1⟩;rw [H.out];obtain ⟨K0, K1, hs, HB⟩ := jC hb1 (kB ..) (ac1 ..);obtain ⟨c0, c1, c2⟩ := cells3 K0;obtain ⟨p0, p1, f0, f1⟩ := jg K1;clear hb1;go_wp2_with fail;refine (kX M S r T _).mono ?_;rintro e w2 ⟨rfl, hb2⟩;rw [HH.out];have K02 := ae (aC K0 hb2);have K12 := ae (aC K1 hb2);obtain ⟨d0, d1, d2⟩ := cells3 K02;obtain ⟨q0, q1, g0, g1⟩ := jg K12;have HB2 := ae (HB.out.trans (hb2.mono HB.out.size));clear hb2 c0 c1 c2 p0 p1 f0 f1 K0 K1;go_wp2_with fail;refine (oZ M T S r _ (by omega) (by omega) (by omega)).mono ?_;rintro e w3 ⟨rfl, hb3⟩;unfold fd;rw [HPQ.out];have K03 := ae (aC K02 hb3);have K13 := ae (aC K12 hb3);obtain ⟨c0, c1, c2⟩ := cells3 K03;obtain ⟨p0, p1, f0, f1⟩ := jg K13;have hs3 : w.heap.size + 1 < w3.heap.size := aS K13;have hs4 : w.heap.size < w3.heap.size := aS K03;have HB3 := ae (HB2.out.trans (hb3.mono HB2.out.size));clear hb3 d0 d1 d2 q0 q1 g0 g1 K02 K12 hs;go_wp2;rw [HNI.out];have K04 := ae (bJ K03 (.cells #[.int .i64 T, .int .i64 P] 43));have K14 := ae (bJ K13 (.cells #[.int .i64 T, .int .i64 P] 43));have HB4 := ae (HB3.out.alloc HB3.out.size (.cells #[.int .i64 T, .int .i64 P] 43));clear c0 c1 c2 p0 p1 f0 f1 hs3 hs4 K03 K13 HB3;generalize w3.alloc (.cells #[.int .i64 T, .int .i64 P] 43) = w4 at *;have CC := fun (w' : World) (hw : Below w4.heap.size w4 w') => cells3 (aC K04 hw)
 have PP := fun (w' : World) (hw : Below w4.heap.size w4 w') => jg (aC K14 hw)
 refine aT (B := w4.heap.size) (by kernel_rfl) ?_;refine alU (fun _ hw => ax rfl alW zk) ?_;refine alU (fun w' hw => aE rfl alW (alj (PP w' hw).1)) ?_;refine alU (fun w' hw => aE rfl alW (alD (CC w' hw).1 (CC w' hw).2.1 (CC w' hw).2.2)) ?_;refine ch rfl (fun _ => aB call158 rfl (evc alW evn)) (bO aj fun w' hw => wP M S r w' (by omega) (by omega)) ?_;simp only [aa];refine alU (fun _ hw => ad2 rfl alW alW HM) ?_;refine cT 1 ?_;refine alU (fun _ hw => bP rfl alW alW HA) ?_;refine cT 2 ?_;refine wpQuiet_nil ?_;intro w5 hw5;go_wp2_with fail;go_ret2;exact ⟨rfl, HB4.out.trans (hw5.mono HB4.out.size)⟩
theorem px (m s r t k : Int) (w : World) : Calls prog 110 #[iT m s r, fd t k] w fun e w' => e = .returned (blV m s r t k) /\ Below w.heap.size w w' := by
 cases h : may m s r
 ·exact aew m s r t k w h
 ·cases h' : inP m s t k
  ·exact aaY m s r t k w h h'
  ·obtain ⟨M, S, rfl, rfl, _⟩ := afC h;have hn := oK.1 h';obtain ⟨T, rfl⟩ := Int.eq_ofNat_of_zero_le hn.1;obtain ⟨j, rfl⟩ := Int.eq_ofNat_of_zero_le hn.2.2.1;by_cases hp : j = par M T
   ·exact abt M S T j r w h h' hp
   ·exact ab4 M S T j r w h h' hp
section
variable {b : Nat} {w : World}
theorem vI : (Instr.fieldAt 66 (.pointer (some ⟨b, 0, none⟩)) 0).run prog w = .ok (.pointer (some ⟨b, 0, none⟩)) w := by kernel_rfl
theorem kr : (Instr.fieldAt 66 (.pointer (some ⟨b, 0, none⟩)) 1).run prog w = .ok (.pointer (some ⟨b, 3, none⟩)) w := by kernel_rfl
theorem gv : (Instr.fieldAt 66 (.pointer (some ⟨b, 0, none⟩)) 2).run prog w = .ok (.pointer (some ⟨b, 4, none⟩)) w := by kernel_rfl
theorem oc {ad : Addr} {a : Option Addr} (h : w.cell? ad = some (.pointer a)) : (Instr.loadAt 63 (.pointer (some ad))).run prog w = .ok (.pointer a) w := by simp [go_sem, h]
theorem kA {ad : Addr} {a : Option Nat} (h : w.cell? ad = some (.map a)) : (Instr.loadAt 64 (.pointer (some ad))).run prog w = .ok (.map a) w := by simp [go_sem, h]
end
section
variable {ρ : Operand -> Value} {o : Oper} {x y : Operand} {w : World} {t rr : TypeId}
theorem qB {k1 v1 : TypeId} {m : Option Nat} (c : Bool) (hp : prog.underlying t = some (.map k1 v1)) (ho : o.op = .binOp .neq t x y rr) (hx : ρ x = .map m) (hy : ρ y = .map none) (h : (!decide (m = none)) = c) : (execOp ρ o).run prog w = .ok (.value (.bool c)) w := by
 have hg : (eqGuard .neq t x y (.map m) (.map none)).run prog w = .ok () w := by simp [eqGuard]
 have hb := run_neq_map_nil w t k1 v1 m hp;unfold execOp;simp only [ho, hx, hy, Sem.run_bind, hg, hb, Result.andThen_ok, Sem.run_pure];rw [<- h];cases m <;> rfl
theorem rX (n : Int) (ho : o.op = .build 43 #[(0, x)]) (hx : ρ x = .int .i64 n) : (execOp ρ o).run prog w = .ok (.value (.agg #[.int .i64 n, .int .i64 0])) w :=
 sd ho hx (by kernel_rfl)
end
theorem yJ {N T : Nat} {r : Int} (h : dW (gx N T r) = true) : may (N : Int) (T : Int) r = true := by
 obtain ⟨k1, k2, k3, k4, k5, k6⟩ := fK h;exact iW.2 ⟨k1, k2, k3, k4, k5, k6⟩
theorem ahP {N T : Nat} {r : Int} (h : dW (gx N T r) = true) : 3 <= N /\ N <= 16 /\ 1 <= T /\ T <= 64 /\ 40 <= r /\ r <= 256 := by
 obtain ⟨k1, k2, k3, k4, k5, k6⟩ := iW.1 (yJ h);exact ⟨by omega, by omega, by omega, by omega, k5, k6⟩
theorem aiw {N T : Nat} {r n m : Int} (h : dW (gx N T r) = true) : (blE (N : Int) (T : Int) r n m != 12) = decide (0 <= n /\ n < (T : Int) /\ 0 <= m /\ m < (N : Int)) := by
 unfold blE;rw [if_pos (yJ h)];cases hi : inP (N : Int) (T : Int) n m
 ·rw [am (zq.1 hi)]
  rfl
 ·rw [ao (oK.1 hi), if_pos rfl]
  split <;> rfl
theorem ak5 (M S T : Nat) (r : Int) (w : World) (h : may M S r = true) (h' : has S T = true) : Calls prog 155 #[iT M S r, .int .i64 T] w fun e w' => e = .returned (.tuple #[.int .i64 (par M T), .int .i64 0]) /\ Below w.heap.size w w' := by
 have hm := iW.1 h;have ht := gK.1 h';have hf := agb T (par M T);have H := ae h;have H' := ae h';clear h h';unfold iT;go_enter func155, ntmps155;go_wp2_with fail;refine (jz M S r _).mono ?_;rintro e w1 ⟨rfl, hb1⟩;obtain ⟨K0, HB⟩ := aem hb1 (kB ..);obtain ⟨c0, c1, c2⟩ := cells3 K0;rw [H.out];clear hb1;go_wp2_with fail;refine (kX M S r T _).mono ?_;rintro e w2 ⟨rfl, hb2⟩;obtain ⟨d0, d1, d2⟩ := cells3 (aC K0 hb2);rw [H'.out];go_wp2_with fail;refine (oZ M T S r _ (by omega) (by omega) (by omega)).mono ?_;rintro e w3 ⟨rfl, hb3⟩;unfold fd;go_wp2;go_ret2;exact ⟨rfl, (HB.out.trans (hb2.mono HB.out.size)).trans (hb3.mono (by have := HB.out.size; have := hb2.size; omega))⟩
section
variable {w : World} {t lp mp cn N T room K : Nat} {FL : Nat -> Prop} {L : List Ky} {m : Nat -> Option Nat} {ln : Nat -> Option LnS} {r : Int} {s : ShS}
theorem lJ (h : PRu w t lp mp FL L cn m ln N T room r) : Calls prog 55 #[.pointer (some ⟨t, 0, none⟩)] w fun e w' => e = .returned (.bool true) /\ w = w' := by
 have HH := ae h;clear h;go_enter func55, ntmps55;go_upto_region 1 with fail;refine aJ 1 ?_;refine alM (dz true underlying26 rfl alW evk rfl) ?_;refine runs 3 ?_;refine alT (ax rfl alW gv) ?_;refine alT (aE rfl alW (kA (PRu.c4 HH))) ?_;refine alT (qB true underlying64 rfl alW evk rfl) ?_;refine aH 2 ?_;go_wp2_with fail;go_ret;exact ⟨rfl, rfl⟩
theorem fR (n m' : Int) (h : PRu w t lp mp FL L cn m ln N T room r) : Calls prog 57 #[.pointer (some ⟨t, 0, none⟩), .agg #[.int .i64 n, .int .i64 m']] w fun e w' => e = .returned (.bool (decide (0 <= n /\ n < (T : Int) /\ 0 <= m' /\ m' < (N : Int)))) /\ Below w.heap.size w w' := by
 have HE := ae (aiw (n := n) (m := m') h.may);obtain ⟨pb, hpb⟩ : ∃ pb, decide (0 <= n /\ n < (T : Int) /\ 0 <= m' /\ m' < (N : Int)) = pb := ⟨_, rfl⟩;rw [hpb] at HE ⊢;clear hpb;have hbx := (Below.refl w.heap.size w).alloc aj (.cells ([.int .i64 n, .int .i64 m'] : List Value).toArray 43);have HP := ae (heap_alloc_new w (.cells ([.int .i64 n, .int .i64 m'] : List Value).toArray 43));have HH := ae (h.below hbx);have HB := ae hbx;clear h hbx;go_enter func57, ntmps57;go_upto_region 0 with fail;refine af ?_;refine alM (ct (cs := [.int .i64 n, .int .i64 m']) rfl alW) ?_;refine aH 1 ?_;generalize w.alloc (.cells ([.int .i64 n, .int .i64 m'] : List Value).toArray 43) = w1 at *;go_upto_region 1 with fail;refine aT (B := w1.heap.size) (by kernel_rfl) ?_;refine cT 2 ?_;refine alU (fun _ hw => ax rfl alW vI) ?_;refine alU (fun _ hw => bN (cs := ([.int .i64 (N : Int), .int .i64 (T : Int), .int .i64 r] : List Value)) underlying24 rfl (by kernel_rfl) rfl alW (PRu.geo (HH.out.below hw))) ?_;refine alU (fun _ hw => bN (cs := [.int .i64 n, .int .i64 m']) underlying43 rfl (by kernel_rfl) rfl alW (aP (aC HP hw))) ?_;refine ch rfl (fun _ => aB call110 rfl (evc alW (evc alW evn))) (bO aj fun _ hw => px (N : Int) (T : Int) r n m' _) ?_;simp only [aa];refine cT 3 ?_;refine cT 2 ?_;refine wpQuiet_nil ?_;intro w2 hw;have HW := ae (HB.out.trans (hw.mono HB.out.size));clear hw;go_upto_region 2 with fail;refine aJ 1 ?_;refine alM (aN pb rfl alW evk HE) ?_;refine aH 1 ?_;go_wp2_with fail;go_ret;exact ⟨rfl, HW⟩
theorem rv {n : Nat} (hn : n < T) (h : PRu w t lp mp FL L cn m ln N T room r) : Calls prog 106 #[.pointer (some ⟨t, 0, none⟩), .int .i64 (n : Int)] w fun e w' => e = .returned (.int .i64 ((N - 1 - n % N : Nat) : Int)) /\ Below w.heap.size w w' := by
 have HM := ae (yJ h.may);have HS : Hid (has (T : Int) (n : Int) = true) := ae (gK.2 ⟨by omega, by omega⟩);have HH := ae h;clear h hn;go_enter func106, ntmps106;go_upto_region 1 with fail;refine aJ 2 ?_;refine alM (ax rfl alW vI) ?_;refine alM (bN (cs := ([.int .i64 (N : Int), .int .i64 (T : Int), .int .i64 r] : List Value)) underlying24 rfl (by kernel_rfl) rfl alW (PRu.geo HH)) ?_;refine runs 1 ?_;refine ay rfl (aB call155 rfl (evc alW (evc alW evn))) ?_;refine (ak5 N T n r w HM HS).mono ?_;rintro e w1 ⟨rfl, b1⟩;have HB := ae b1;clear b1;refine aR ?_;refine runs 3 ?_;refine aH 2 ?_;go_upto_region 2 with fail;refine cC 2 ?_;go_wp2_with fail;go_ret;exact ⟨rfl, HB⟩
def vq (T : Nat) (n : Int) : Int := if decide (0 <= n /\ n < (T : Int)) = true then 0 else 2
theorem nO (n : Int) (h : PRu w t lp mp FL L cn m ln N T room r) : Calls prog 65 #[.pointer (some ⟨t, 0, none⟩), .int .i64 n] w fun e w' => e = .returned (.int .i64 (vq T n)) /\ Below w.heap.size w w' := by
 have hg := ahP h.may;have HE : Hid (decide (0 <= n /\ n < (T : Int) /\ 0 <= (0 : Int) /\ (0 : Int) < (N : Int)) = decide (0 <= n /\ n < (T : Int))) := ae (by
  rw [Bool.eq_iff_iff, decide_eq_true_iff, decide_eq_true_iff]; omega)
 have HH := ae h;clear h hg;go_enter func65, ntmps65;go_upto_region 1 with fail;refine aJ 1 ?_;refine ay rfl (aB call55 rfl (evc alW evn)) ?_;refine (lJ HH).mono ?_;rintro e w' ⟨rfl, rfl⟩;refine aR ?_;refine aH 2 ?_;cases hd : decide (0 <= n /\ n < (T : Int))
 ·have HD := ae hd;clear hd;go_upto_region 3 with fail;refine aJ 2 ?_;refine alM (rX n rfl alW) ?_;refine ay rfl (aB call57 rfl (evc alW (evc alW evn))) ?_;refine (fR n 0 HH).mono ?_;rintro e w1 ⟨rfl, b1⟩;rw [HE.out];rw [HD.out];have HB := ae b1;clear b1;refine aR ?_;refine aH 2 ?_;go_wp2_with fail;go_ret;exact ⟨by unfold vq; rw [HD.out]; rfl, HB⟩
 ·have HD := ae hd;clear hd;go_upto_region 3 with fail;refine aJ 2 ?_;refine alM (rX n rfl alW) ?_;refine ay rfl (aB call57 rfl (evc alW (evc alW evn))) ?_;refine (fR n 0 HH).mono ?_;rintro e w1 ⟨rfl, b1⟩;rw [HE.out];rw [HD.out];have HB := ae b1;clear b1;refine aR ?_;refine aH 2 ?_;go_wp2_with fail;go_ret;exact ⟨by unfold vq; rw [HD.out]; rfl, HB⟩
theorem pM (h : PRu w t lp mp FL L cn m ln N T room r) : Calls prog 18 #[.pointer (some ⟨t, 0, none⟩)] w fun e w' => ∃ v, e = .returned v /\ aQ bg w' w.heap.size v (fM L) /\ Below w.heap.size w w' := by
 have HH := ae h;clear h;go_enter func18, ntmps18;go_upto_region 1 with fail;refine aJ 1 ?_;refine ay rfl (aB call55 rfl (evc alW evn)) ?_;refine (lJ HH).mono ?_;rintro e w' ⟨rfl, rfl⟩;refine aR ?_;refine aH 1 ?_;go_upto_region 3 with fail;refine aJ 2 ?_;refine alM (ax rfl alW kr) ?_;refine alM (aE rfl alW (oc (PRu.c3 HH))) ?_;refine ay rfl (aB call64 rfl (evc alW evn)) ?_;refine (ac5 w HH.out.li).mono ?_;rintro e w1 ⟨v, rfl, m1, b1⟩;have HM := ae m1;have HB := ae b1;clear m1 b1;refine aR ?_;refine aH 1 ?_;go_wp2_with fail;go_ret;exact ⟨v, rfl, HM, HB⟩
end
def kD (d : Nat -> Bool) (l : List Nat) : List Int := (l.filter d).map fun (n : Nat) => (n : Int)
theorem sh {d : Nat -> Bool} {l : List Nat} {i : Nat} {b : Bool} (hi : i < l.length) (h : d (l.getD i 0) = b) : kD d (l.take (i + 1)) = kD d (l.take i) ++ (if b = true then [((l.getD i 0 : Nat) : Int)] else []) := by
 subst h;unfold kD;rw [List.take_add_one, List.getElem?_eq_getElem hi, List.filter_append, List.map_append, List.getD, List.getElem?_eq_getElem hi]
 congr 1
 simp only [Option.toList_some, List.filter_cons, List.filter_nil, Option.getD_some]
 split <;> rfl
theorem qE (d : Nat -> Bool) (l : List Nat) : (kD d l).length <= l.length := by unfold kD; rw [List.length_map]; exact List.length_filter_le _ _
theorem ld (d : Nat -> Bool) : ∀ k, (lO d k).Pairwise (fun a b => a < b)
 |0 => List.Pairwise.nil
 |k + 1 => by
  rw [lO, List.pairwise_append];refine ⟨ld d k, ?_, fun a ha b hb => ?_⟩
  ·split
   ·exact List.pairwise_singleton _ _
   ·exact List.Pairwise.nil
  ·obtain ⟨j, rfl, hj, _⟩ := jn.1 ha
   split at hb
   ·have := List.mem_singleton.1 hb; omega
   ·cases hb
theorem pT {s : ShS} (h : co s) : (kD s.dty s.o).mergeSort (fun x y => decide (x <= y)) = s.cP := by
 have tr : ∀ a b c : Int, decide (a <= b) = true -> decide (b <= c) = true -> decide (a <= c) = true := fun a b c h1 h2 => by simp only [decide_eq_true_eq] at *; omega
 have tot : ∀ a b : Int, (decide (a <= b) || decide (b <= a)) = true := fun a b => by simp only [Bool.or_eq_true, decide_eq_true_eq]; omega
 have hs := ld s.dty s.T;refine List.Perm.eq_of_pairwise (le := fun a b => decide (a <= b) = true) (fun a b _ _ h1 h2 => by simp only [decide_eq_true_eq] at h1 h2; omega) (List.pairwise_mergeSort tr tot _) (hs.imp fun {a b} hab => by simp only [decide_eq_true_eq]; omega) ((List.mergeSort_perm _ _).trans ?_);refine (List.perm_ext_iff_of_nodup ?_ (hs.imp fun {a b} hab e => by omega)).2 fun a => ?_
 ·unfold kD;refine List.pairwise_map.2 ((h.nd.filter _).imp fun {a b} hab e => hab (by omega))
 ·unfold kD;rw [List.mem_map]
  constructor
  ·rintro ⟨n, hn, rfl⟩;have := List.mem_filter.1 hn;exact ShS.rP.2 ⟨h.lt n this.1, this.2⟩
  ·intro ha;obtain ⟨j, rfl, hj, hd⟩ := jn.1 ha;exact ⟨j, List.mem_filter.2 ⟨(h.mem j).2 (eQ hd), hd⟩, rfl⟩
theorem kP : ∀ (a b l : List Int), fm l (a ++ b) = fm (fm l a) b
 |[], b, l => rfl
 |x :: a, b, l => by rw [List.cons_append, fm, fm, kP a b]
theorem rF : ∀ (r l : List Int), l.length <= (fm l r).length
 |[], l => aj
 |x :: r, l => by
  rw [fm];refine ar ?_ (rF r _)
  split <;> simp
theorem qF (l r : List Int) (x : Int) : fm l (r ++ [x]) = if (fm l r).contains x = true then fm l r else fm l r ++ [x] := by rw [kP]; rfl
theorem wR {l : List Int} {i : Nat} (hi : i < l.length) : l.take (i + 1) = l.take i ++ [l.getD i 0] := by
 rw [List.take_add_one, List.getElem?_eq_getElem hi, List.getD, List.getElem?_eq_getElem hi]; rfl
theorem abp (l r : List Int) (i : Nat) : (fm l (r.take i)).length <= (fm l r).length := by
 conv => rhs; rw [<- List.take_append_drop i r, kP]
 exact rF _ _
theorem rz {s : ShS} : ∀ (l r : List Int), (l ++ r).Nodup -> fm l r = l ++ r
 |l, [], _ => by simp [fm]
 |l, x :: r, h => by
  have hx : ¬ l.contains x = true := fun e => by
   have hm : x ∈ l := by simpa using e
   rw [List.nodup_append] at h;exact h.2.2 x hm x (List.mem_cons_self ..) rfl
  rw [fm, if_neg hx, rz (s := s) (l ++ [x]) r (by rw [List.append_assoc]; exact h), List.append_assoc]
  rfl
theorem wk (s : ShS) : s.cP.Nodup := (ld s.dty s.T).imp fun {a b} hab e => by omega
theorem adk (s : ShS) (i : Nat) : fm [] (s.cP.take i) = s.cP.take i := by
 have := rz (s := s) [] (s.cP.take i) (by rw [List.nil_append]; exact (wk s).sublist (List.take_sublist _ _));rw [this, List.nil_append]
theorem co.aeT {s : ShS} (h : co s) : s.cP.length <= s.room := by
 rw [<- pT h, List.length_mergeSort];exact ar (qE _ _) h.len
open Go.RowKit Go.Shelf
def akV : Ren := { f := fun x => match x with | 189 => 63 | 125 => 121 | 257 => 120 | 128 => 175 | 129 => 176 | 294 => 166 | 295 => 167 | 296 => 168 | 297 => 169 | 298 => 170 | 299 => 171 | 216 => 172 | 300 => 173 | 301 => 174 | 328 => 190 | 329 => 191 | 330 => 192 | 331 => 193 | 332 => 194 | 215 => 195 | 343 => 203 | n => n, t := fun x => match x with | 28 => 48 | 3 => 3 | 46 => 53 | 0 => 0 | 51 => 211 | 53 => 46 | 4 => 4 | 183 => 204 | 182 => 203 | 131 => 140 | 5 => 5 | 9 => 9 | 218 => 220 | 222 => 223 | 228 => 229 | 229 => 230 | n => n, g := fun x => x }
theorem ahR : Lays.n189 prog akV := {
 mixed := (by kernel_rfl),
 f125 := func121.trans (congrArg some (by kernel_rfl)),
 f128 := func175.trans (congrArg some (by kernel_rfl)),
 f129 := func176.trans (congrArg some (by kernel_rfl)),
 f189 := func63.trans (congrArg some (by kernel_rfl)),
 f215 := func195.trans (congrArg some (by kernel_rfl)),
 f216 := func172.trans (congrArg some (by kernel_rfl)),
 f257 := func120.trans (congrArg some (by kernel_rfl)),
 f294 := func166.trans (congrArg some (by kernel_rfl)),
 f295 := func167.trans (congrArg some (by kernel_rfl)),
 f296 := func168.trans (congrArg some (by kernel_rfl)),
 f297 := func169.trans (congrArg some (by kernel_rfl)),
 f298 := func170.trans (congrArg some (by kernel_rfl)),
 f299 := func171.trans (congrArg some (by kernel_rfl)),
 f300 := func173.trans (congrArg some (by kernel_rfl)),
 f301 := func174.trans (congrArg some (by kernel_rfl)),
 f328 := func190.trans (congrArg some (by kernel_rfl)),
 f329 := func191.trans (congrArg some (by kernel_rfl)),
 f330 := func192.trans (congrArg some (by kernel_rfl)),
 f331 := func193.trans (congrArg some (by kernel_rfl)),
 f332 := func194.trans (congrArg some (by kernel_rfl)),
 f343 := func203.trans (congrArg some (by kernel_rfl)),
 t0 := underlying0,
 a0 := Tryz.isAgg0,
 z0 := Tryz.sizeOf0,
 v0 := Tryz.zeroValue0,
 t3 := underlying3,
 a3 := Tryz.isAgg3,
 z3 := Tryz.sizeOf3,
 v3 := Tryz.zeroValue3,
 t4 := underlying4,
 a4 := Tryz.isAgg4,
 z4 := Tryz.sizeOf4,
 v4 := Tryz.zeroValue4,
 t5 := underlying5,
 a5 := Tryz.isAgg5,
 z5 := Tryz.sizeOf5,
 v5 := Tryz.zeroValue5,
 t9 := underlying9,
 a9 := Tryz.isAgg9,
 z9 := Tryz.sizeOf9,
 v9 := Tryz.zeroValue9,
 t28 := underlying48,
 a28 := Tryz.isAgg48,
 z28 := Tryz.sizeOf48,
 v28 := Tryz.zeroValue48,
 t46 := underlying53,
 a46 := Tryz.isAgg53,
 z46 := Tryz.sizeOf53,
 v46 := Tryz.zeroValue53,
 t51 := underlying211,
 a51 := Tryz.isAgg211,
 z51 := Tryz.sizeOf211,
 v51 := Tryz.zeroValue211,
 t53 := underlying46,
 a53 := Tryz.isAgg46,
 z53 := Tryz.sizeOf46,
 v53 := Tryz.zeroValue46,
 t131 := underlying140,
 a131 := Tryz.isAgg140,
 z131 := Tryz.sizeOf140,
 v131 := Tryz.zeroValue140,
 t182 := underlying203,
 a182 := Tryz.isAgg203,
 z182 := Tryz.sizeOf203,
 v182 := Tryz.zeroValue203,
 t183 := underlying204,
 a183 := Tryz.isAgg204,
 z183 := Tryz.sizeOf204,
 v183 := Tryz.zeroValue204,
 t218 := underlying220,
 a218 := Tryz.isAgg220,
 z218 := Tryz.sizeOf220,
 v218 := Tryz.zeroValue220,
 t222 := underlying223,
 a222 := Tryz.isAgg223,
 z222 := Tryz.sizeOf223,
 v222 := Tryz.zeroValue223,
 t228 := underlying229,
 a228 := Tryz.isAgg229,
 z228 := Tryz.sizeOf229,
 v228 := Tryz.zeroValue229,
 t229 := underlying230,
 a229 := Tryz.isAgg230,
 z229 := Tryz.sizeOf230,
 v229 := Tryz.zeroValue230 }
section
variable {w : World} {g c n B : Nat} {os : Array Obj} {l ts : List Int}
theorem wT (d : Array Int) : w.grownBy (Go.Sort.grow (Go.Sort.putRow (Value.int .i64) (Go.Sort.ahead w n) g 0 d) os) (some g) := by
 refine ⟨rfl, rfl, rfl, by simp, fun k hk hne => ?_⟩;rw [Go.Sort.heap_grow_old _ _ (by simpa using hk)];have : g ≠ k := fun e => hne (by rw [e])
 simp [Go.Sort.putRow, Go.Sort.mapBlock, Go.Sort.ahead, Array.getElem?_modify, this]
theorem abI (h : aQ bg w B (.slice (some ⟨g, 0, none⟩) l.length c) l) (hl : ts.length = l.length) : aQ bg (Go.Sort.grow (Go.Sort.putRow (Value.int .i64) (Go.Sort.ahead w n) g 0 ts.toArray) os) B (.slice (some ⟨g, 0, none⟩) l.length c) ts := by
 rcases h.2 with ⟨h0, _⟩ | ⟨g', cap, cur, hv, hB, hg, h1, h2, h3, h4⟩
 ·cases h0
 ·injection hv with hv _ hc;injection hv with hv;injection hv with hv;subst hv hc;have hgl : g < w.heap.size := (Array.getElem?_eq_some_iff.1 hg).1;have e3 : cur.size = c := by rw [h3]; show c * 1 = c; omega
  refine ⟨by simp [cy], .inr ⟨g, c, Go.Sort.putCells (Value.int .i64) 0 ts.toArray cur, by rw [hl], hB, ?_, by omega, h2, by simp [Go.Sort.putCells, h3], ?_⟩⟩
  ·rw [Go.Sort.heap_grow_old _ _ (by simpa using hgl)];simp [Go.Sort.putRow, Go.Sort.mapBlock, Go.Sort.ahead, Array.getElem?_modify, hg, Go.Sort.onCells]
  ·rw [sg, show ts.length * bg.n = ts.length from Nat.mul_one _];apply List.ext_getElem?;intro j;by_cases hj : j < ts.length
   ·rw [List.getElem?_take_of_lt hj, Array.getElem?_toList];simp [Go.Sort.putCells, hj, show j < cur.size by omega]
   ·rw [List.getElem?_take_eq_none (by omega), List.getElem?_eq_none (by simp; omega)]
end
theorem vg {w : World} {B : Nat} {v : Value} {l : List Int} (h : aQ bg w B v l) (hB : B <= w.heap.size) (hl : l.length < 4611686018427387904) :
  Calls prog 63 #[v] w fun e w' => e = .returned (.tuple #[]) /\ aQ bg w' B v (l.mergeSort fun x y => decide (x <= y)) /\ Below B w w' := by
 rcases h.2 with ⟨hv, h0⟩ | ⟨g, cap, cur, hv, hg0, hg, h1, h2, h3, h4⟩
 ·have hl0 : l = [] := List.eq_nil_of_length_eq_zero h0;subst hl0 hv;exact (Any.slices_Sort_int_none ahR none 0 w).mono fun e w' ⟨h1, h2⟩ => ⟨h1, by subst h2; rw [List.mergeSort_nil]; exact h, by subst h2; exact ak⟩
 ·subst hv;have hH : Go.Sort.Holds (Value.int .i64) w g 0 l.toArray := fun j hj => by
   have hj' : j < l.length := by simpa using hj
   refine ⟨?_, by simp [World.frozen?, hg]⟩;rw [sg, show l.length * bg.n = l.length from Nat.mul_one _] at h4;have e1 : (cur.toList.take l.length)[j]? = (l.map fun x => Value.int .i64 x)[j]? := by rw [h4]
   rw [List.getElem?_take_of_lt hj'] at e1;simp only [World.cell?, hg, Nat.zero_add];simp only [Option.isSome_none, Bool.false_eq_true, if_false];rw [<- Array.getElem?_toList, e1];simp [hj']
  refine (Any.slices_Sort_int ahR g 0 cap l w hH (Array.getElem?_eq_some_iff.1 hg).1 hl).mono ?_;rintro e w' ⟨k1, n, os, rfl⟩;exact ⟨k1, abI h (by rw [List.length_mergeSort]), (Below.refl B w).grown (wT _) hB fun k hk => by injection hk with hk; subst hk; exact hg0⟩
section
variable {w : World} {t lp mp K : Nat} {FL : Nat -> Prop} {m : Nat -> Option Nat} {r : Int} {s : ShS}
theorem ic {n : Nat} (h : n < 64) : (Lit.int .i64 (n : Int)).wf = true := by
 have h1 : (-9223372036854775808 : Int) <= (n : Int) := by omega
 have h2 : (n : Int) <= 9223372036854775807 := by omega
 have e1 : IntKind.i64.min = -9223372036854775808 := by decide
 have e2 : IntKind.i64.max = 9223372036854775807 := by decide
 show (decide (IntKind.i64.min <= (n : Int)) && decide ((n : Int) <= IntKind.i64.max)) = true
 rw [e1, e2, ao h1, ao h2]
 rfl
theorem py (h : PRu w t lp mp FL (kyL s.dty s.o) s.o.length m s.ln s.N s.T s.room r) (hok : co s) : Calls prog 17 #[.pointer (some ⟨t, 0, none⟩)] w fun e w' => ∃ v, e = .returned v /\ aQ bg w' w.heap.size v s.cP /\ Below w.heap.size w w' := by
 have HH := ae h;have HSD : Hid ((kD s.dty s.o).mergeSort (fun x y => decide (x <= y)) = s.cP) := ae (pT hok);have HPN : Hid (∀ n : Nat, qW (n : Int) (kyL s.dty s.o) = s.dty n) := ae (afK hok);have H64 : Hid (s.o.length <= 64) := ae (by have := hok.len; have := hok.r64; omega);have HLT : Hid (∀ n ∈ s.o, n < 64) := ae fun n hn => by have := hok.lt n hn; have := hok.t64; omega
 clear h hok;go_enter func17, ntmps17;go_upto_region 2 with fail;refine aJ 1 ?_;refine ay rfl (aB call18 rfl (evc alW evn)) ?_;refine (pM HH).mono ?_;rintro e w1 ⟨v1, rfl, m1, b1⟩;rw [sY] at m1;obtain ⟨A1, c1, rfl, m1r, _, _⟩ := m1.open_ (n := s.o.length) (List.length_map _);have HM1 := ae m1;have HB1 := ae b1;have HH1 := ae (HH.out.below b1);clear m1 b1 m1r;refine aR ?_;refine alM (dV bg rfl alW) ?_;refine aH 1 ?_;go_wp2_with fail
 go_loopw [3, 5, 9] (fun z u c wr => ∃ i : Nat, c = .int .i64 i /\ i <= s.o.length /\ aQ bg wr w1.heap.size z (kD s.dty (s.o.take i)) /\ Below w1.heap.size w1 wr) (fun _ _ c _ => s.o.length - (intOf c).toNat)
 case atStart => exact ⟨0, by go_num, Nat.zero_le _, aQ.nil _ _, ak⟩
 case round =>
  obtain ⟨i, rfl, hi, hm, hb⟩ := hrel;have HM := ae hm;have HW := ae hb;have HHr := ae (HH1.out.below hb);have HRr := ae (HM1.out.below hb);clear hm hb;by_cases hlt : i < s.o.length
  ·have HI := ae hlt;have HT : Hid (decide ((i : Int) < (s.o.length : Int)) = true) := ae (ao (by omega));have HA : Hid (IntKind.i64.wrap ((i : Int) + 1) = ((i + 1 : Nat) : Int)) := ae (by have := H64.out; rw [eF ⟨by omega, by omega⟩]; omega);have hrd := HRr.out.rd;obtain ⟨b, off, hAe, _, hc⟩ := hrd.int hlt;subst hAe;rw [getD_map (fun n : Nat => (n : Int)) s.o 0 0 hlt] at hc;obtain ⟨n, hn⟩ : ∃ n, s.o.getD i 0 = n := ⟨_, rfl⟩;have hmem : n ∈ s.o := by rw [<- hn]; exact cO hlt
   rw [hn] at hc;have HC := ae hc;have HNI := ae hn;have HWF := ae (ic (HLT.out n hmem));clear hi hlt hrd hc hn hmem;go_upto_region 3 with fail;refine af ?_;refine alM (aY true rfl alW alW HT) ?_;refine ah ?_;go_upto_region 4 with fail;refine af ?_;refine alM (cu (E := bg) rfl alW alW HI) ?_;refine alM (aE rfl alW (bV (by rw [show i * bg.n = i from Nat.mul_one i]; exact HC.out))) ?_;refine aH 1 ?_;cases hd : s.dty n
   ·have HD := ae hd;have HST : Hid (kD s.dty (s.o.take (i + 1)) = kD s.dty (s.o.take i)) := ae (by rw [sh (b := false) HI.out (by rw [HNI.out]; exact hd)]; simp);clear hd;go_upto_region 5 with fail;refine aJ 2 ?_;refine alM (ax rfl alW kr) ?_;refine alM (aE rfl alW (oc (PRu.c3 HHr))) ?_;refine runs 1 ?_;refine ay rfl (aB call62 rfl (evc alW (evc alW evn))) ?_;refine (oT wr HHr.out.li HWF).mono ?_;rintro e w5 ⟨rfl, rfl⟩;rw [HPN.out, HD.out];refine aR ?_;refine ah ?_;go_upto_region 7 with fail;refine af ?_;refine alM (bP rfl alW evk HA) ?_;refine aH 1 ?_;go_wp2_with fail;go_roundw
    case rel => exact ⟨i + 1, by go_num, HI, by rw [HST.out]; exact HM, HW⟩
    case measure => have := HI.out; simp [intOf]; omega
   have HD := ae hd;have HST : Hid (kD s.dty (s.o.take (i + 1)) = kD s.dty (s.o.take i) ++ [(n : Int)]) := ae (by rw [sh (b := true) HI.out (by rw [HNI.out]; exact hd), HNI.out]; rfl);clear hd;go_upto_region 5 with fail;refine aJ 2 ?_;refine alM (ax rfl alW kr) ?_;refine alM (aE rfl alW (oc (PRu.c3 HHr))) ?_;refine runs 1 ?_;refine ay rfl (aB call62 rfl (evc alW (evc alW evn))) ?_;refine (oT wr HHr.out.li HWF).mono ?_;rintro e w5 ⟨rfl, rfl⟩;rw [HPN.out, HD.out];refine aR ?_;refine ah ?_;have HBS : Hid (w1.heap.size <= wr.heap.size) := ae HW.out.size;have hsz : (wr.alloc (.cells #[.int .i64 (n : Int)] 3)).heap.size = wr.heap.size + 1 := al;obtain ⟨v2, w2, hrun, hm2, hg2⟩ := gV bg (wr.alloc (.cells #[.int .i64 (n : Int)] 3)) 48 w1.heap.size (wr.heap.size + 1) 1 1 u3 (kD s.dty (s.o.take i)) [(n : Int)] (some ⟨wr.heap.size, 0, none⟩) (aQ.below HM (ak.alloc aj _)) (eB (E := bg) (l := [(n : Int)]) wr #[.int .i64 (n : Int)] 3 rfl) (by have := HBS.out; omega) (by have := qE s.dty (s.o.take i); rw [List.length_take] at this; have := H64.out; simp; omega);have HRUN := ae hrun;have HM2 : Hid (aQ bg w2 w1.heap.size v2 (kD s.dty (s.o.take (i + 1)))) := ae (by rw [HST.out]; exact hm2);have HW2 : Hid (Below w1.heap.size w1 w2) := ae ((HW.out.trans (ak.alloc HBS _)).grown hg2 (by have := HBS.out; omega) (fun j' hj' => HM.out.ia j' hj'));clear hsz hrun hm2 hg2;go_upto_region 6 with fail;refine aJ 2 ?_;refine alM (da (E := bg) (a := (n : Int)) rfl alW rfl (by decide)) ?_;refine alM (fX (E := bg) rfl alW alW HRUN) ?_;refine aH 1 ?_;go_upto_region 7 with fail;refine af ?_;refine alM (bP rfl alW evk HA) ?_;refine aH 1 ?_;go_wp2_with fail;go_roundw
   case rel => exact ⟨i + 1, by go_num, HI, HM2, HW2⟩
   case measure => have := HI.out; simp [intOf]; omega
  have hin : i = s.o.length := by omega
  have HT : Hid (decide ((i : Int) < (s.o.length : Int)) = false) := ae (am (by omega));have HIN := ae hin;have HMF : Hid (aQ bg wr w1.heap.size u3 (kD s.dty s.o)) := ae (by have := HM.out; rw [hin, List.take_length] at this; exact this);have HL4 : Hid ((kD s.dty s.o).length < 4611686018427387904) := ae (by have := qE s.dty s.o; have := H64.out; omega);clear hlt hi hin;go_upto_region 3 with fail;refine af ?_;refine alM (aY false rfl alW alW HT) ?_;refine ah ?_;go_upto_region 8 with fail;refine aJ 1 ?_;refine ay rfl (aB call63 rfl (evc alW evn)) ?_;refine (vg HMF HW.out.size HL4).mono ?_;rintro e w2 ⟨rfl, m2, b2⟩;rw [HSD.out] at m2;have HM2 := ae (m2.base HB1.out.size);have HB2 := ae ((HB1.out.trans ((HW.out.trans b2).mono HB1.out.size)));clear m2 b2;refine aR ?_;refine ah ?_;go_upto_region 9 with fail;refine cC 2 ?_;go_wp2_with fail;go_ret;exact ⟨_, rfl, HM2, HB2⟩
def fsP (s : ShS) (l : List Int) : Nat := l.foldl (fun a j => oe a (s.bZ j.toNat).f) 0
theorem acc (s : ShS) (k : Nat) : acQ s k = fsP s (lO s.dty k) := by
 induction k with
 |zero => rfl
 |succ k ih =>
  rw [acQ, lO, ih];cases h : s.dty k
  ·simp
  ·simp [fsP, List.foldl_append]
theorem aci {s : ShS} {l : List Int} {i : Nat} (h : i < l.length) : fsP s (l.take (i + 1)) = oe (fsP s (l.take i)) (s.bZ (l.getD i 0).toNat).f := by
 unfold fsP;rw [List.take_add_one, List.getElem?_eq_getElem h, List.foldl_append, List.getD, List.getElem?_eq_getElem h]
 rfl
theorem adl (h : PRu w t lp mp FL (kyL s.dty s.o) s.o.length m s.ln s.N s.T s.room r) (hok : co s) : Calls prog 23 #[.pointer (some ⟨t, 0, none⟩)] w fun e w' => e = .returned (.int .u64 (s.first : Int)) /\ Below w.heap.size w w' := by
 have HH := ae h;have HOK := ae hok;have HFR : Hid (s.first = fsP s s.cP) := ae (acc s s.T);have H64 : Hid (s.T <= 64) := ae hok.t64;clear h hok;go_enter func23, ntmps23;go_upto_region 2 with fail;refine aJ 1 ?_;refine ay rfl (aB call17 rfl (evc alW evn)) ?_;refine (py HH HOK).mono ?_;rintro e w1 ⟨v, rfl, m1, b1⟩;obtain ⟨A1, c1, rfl, _, _⟩ := m1.form;have HL : Hid (s.cP.length <= 64) := ae (ar (wJ _ _) H64);have HM1 := ae m1;have HB1 := ae b1;have HH1 := ae (HH.out.below b1);clear m1 b1;refine aR ?_;refine alM (dV bg rfl alW) ?_;refine aH 1 ?_;obtain ⟨D, hD⟩ : ∃ D, s.cP = D := ⟨_, rfl⟩;have HMEM : Hid (∀ i, i < D.length -> ∃ j : Nat, D.getD i 0 = (j : Int) /\ j < s.T /\ s.dty j = true) := ae (fun i hi => by
  have hm : D.getD i 0 ∈ s.cP := by rw [hD, List.getD, List.getElem?_eq_getElem hi]; exact List.getElem_mem hi
  exact jn.1 hm)
 rw [hD] at HFR HL HM1 ⊢;clear hD;go_wp2_with fail
 go_loopw [3, 5, 6, 10] (fun z u v c wr => ∃ i : Nat, c = .int .i64 i /\ i <= D.length /\ z = .int .u64 (fsP s (D.take i) : Nat) /\ Below w1.heap.size w1 wr) (fun _ _ _ c _ => D.length - (intOf c).toNat)
 case atStart => exact ⟨0, by go_num, Nat.zero_le _, rfl, ak⟩
 case round =>
  obtain ⟨i, rfl, hi, rfl, hb⟩ := hrel;have HHr := ae (HH1.out.below hb);have HMr := ae (aQ.below HM1 hb);have HWr := ae hb;clear hb;by_cases hlt : i < D.length
  ·have HI := ae hlt;have HT : Hid (decide ((i : Int) < (D.length : Int)) = true) := ae (ao (by omega));have HA : Hid (IntKind.i64.wrap ((i : Int) + 1) = ((i + 1 : Nat) : Int)) := ae (by have := HL.out; rw [eF ⟨by omega, by omega⟩]; omega);obtain ⟨j, hj, hjT, hjd⟩ := HMEM.out i hlt;obtain ⟨b, off, hA, _, hc⟩ := HMr.out.rd.int (k := i) hlt;rw [hj] at hc;subst hA;have HC := ae hc;obtain ⟨y, hy⟩ := Option.isSome_iff_exists.1 (eQ hjd);have hl := HHr.out.ln j;rw [hy] at hl;obtain ⟨a, ha, hln, hlo⟩ := hl.some_;have hlk := HHr.out.map.kw (k := (j : Int)) (ic (by have := H64.out; omega));rw [show mLn m (j : Int) = some a from by unfold mLn; rw [if_pos (by omega), Int.toNat_natCast, ha]] at hlk;have HK := ae hlk;have HLN := ae hln;have HSN : Hid (fsP s (D.take (i + 1)) = oe (fsP s (D.take i)) y.f) := ae (by rw [aci hlt, hj, Int.toNat_natCast, dp hy]);have HFB : Hid (y.f < 18446744073709551616) := ae hlo.fb;obtain ⟨f0, hf0⟩ : ∃ f0, fsP s (D.take i) = f0 := ⟨_, rfl⟩;rw [hf0] at HSN ⊢;clear hi hlt hj hjT hjd hc hy hl ha hln hlo hlk hf0;go_upto_region 3 with fail;refine af ?_;refine alM (aY true rfl alW alW HT) ?_;refine ah ?_;go_upto_region 4 with fail;refine af ?_;refine alM (cu (E := bg) rfl alW alW HI) ?_;refine alM (aE rfl alW (bV (by rw [show i * bg.n = i from Nat.mul_one i]; exact HC.out))) ?_;refine aH 1 ?_;go_upto_region 5 with fail;refine aJ 2 ?_;refine alM (ax rfl alW gv) ?_;refine alM (aE rfl alW (kA (PRu.c4 HHr))) ?_;refine runs 1 ?_;refine alM (di rfl alW alW HK) ?_;refine ay rfl (aB call70 rfl (evc alW evn)) ?_;refine (adW wr HLN).mono ?_;rintro e w5 ⟨rfl, rfl⟩;refine aR ?_;refine aH 1 ?_;go_upto_region 6 with fail;refine aJ 1 ?_;by_cases hz : f0 = 0
   ·have HZ : Hid (((f0 : Int) == 0) = true) := ae (by rw [hz]; rfl);have HM : Hid (fsP s (D.take (i + 1)) = y.f) := ae (by rw [HSN.out]; exact if_pos (.inl hz));clear hz;refine alM (aI true rfl alW evk HZ) ?_;refine bq 3 rfl (aL rfl alW) (by kernel_rfl) ?_;simp only [bX, ac, aa];refine aH 1 ?_;go_upto_region 7 with fail;refine cC 2 ?_;go_upto_region 8 with fail;refine af ?_;refine alM (bP rfl alW evk HA) ?_;refine aH 1 ?_;go_wp2_with fail;go_roundw
    case rel => exact ⟨i + 1, by go_num, HI, (by rw [HM.out]; rfl), HWr⟩
    case measure => have := HI.out; simp [intOf]; omega
   have HZ : Hid (((f0 : Int) == 0) = false) := ae (av (by omega));refine alM (aI false rfl alW evk HZ) ?_;refine runs 3 ?_;by_cases hq : y.f < f0
   ·have HQ : Hid (decide ((y.f : Int) < (f0 : Int)) = true) := ae (ao (by omega));have HM : Hid (fsP s (D.take (i + 1)) = y.f) := ae (by rw [HSN.out]; exact if_pos (.inr hq));clear hz hq;refine alT (aY true rfl alW alW HQ) ?_;refine aH 1 ?_;go_upto_region 7 with fail;refine cC 2 ?_;go_upto_region 8 with fail;refine af ?_;refine alM (bP rfl alW evk HA) ?_;refine aH 1 ?_;go_wp2_with fail;go_roundw
    case rel => exact ⟨i + 1, by go_num, HI, (by rw [HM.out]; rfl), HWr⟩
    case measure => have := HI.out; simp [intOf]; omega
   have HQ : Hid (decide ((y.f : Int) < (f0 : Int)) = false) := ae (am (by omega));have HM : Hid (fsP s (D.take (i + 1)) = f0) := ae (by rw [HSN.out]; exact if_neg (by omega));clear hz hq;refine alT (aY false rfl alW alW HQ) ?_;refine aH 1 ?_;go_upto_region 8 with fail;refine af ?_;refine alM (bP rfl alW evk HA) ?_;refine aH 1 ?_;go_wp2_with fail;go_roundw
   case rel => exact ⟨i + 1, by go_num, HI, (by rw [HM.out]), HWr⟩
   case measure => have := HI.out; simp [intOf]; omega
  have hin : i = D.length := by omega
  have HT : Hid (decide ((i : Int) < (D.length : Int)) = false) := ae (am (by omega));have HIN := ae hin;clear hlt hi hin;go_upto_region 3 with fail;refine af ?_;refine alM (aY false rfl alW alW HT) ?_;refine ah ?_;go_wp2_with fail;go_ret;exact ⟨by rw [HFR.out, HIN.out, List.take_length]; rfl, HB1.out.trans (HWr.out.mono HB1.out.size)⟩
end
structure PSt (w0 : World) (S0 : Nat -> Prop) (w : World) (t lp mp : Nat) (FL : Nat -> Prop) (L : List Ky) (c : Nat) (m : Nat -> Option Nat) (ln : Nat -> Option LnS) (N T room : Nat) (r : Int) : Prop where
 u : PRu w t lp mp FL L c m ln N T room r
 on : Only S0 w0 w
 gr : Grow w0 S0 (qS t mp FL m)
section
variable {w0 w w' : World} {S0 : Nat -> Prop} {t lp mp c N T room n b : Nat} {FL FL' : Nat -> Prop} {L L' : List Ky} {m : Nat -> Option Nat} {ln : Nat -> Option LnS} {r : Int}
theorem PSt.start (h : PRu w t lp mp FL L c m ln N T room r) : PSt w (qS t mp FL m) w t lp mp FL L c m ln N T room r := ⟨h, Only.refl _ _, Grow.same _ _⟩
theorem PSt.below (h : PSt w0 S0 w t lp mp FL L c m ln N T room r) (hb : Below w.heap.size w w') : PSt w0 S0 w' t lp mp FL L c m ln N T room r := ⟨h.u.below hb, h.on.iC hb, h.gr⟩
theorem PSt.step {F : Nat -> Prop} (h : PSt w0 S0 w t lp mp FL L c m ln N T room r) (hk : Only F w w') (hF : ∀ b, F b -> qS t mp FL m b) : Only S0 w0 w' :=
 h.on.trans hk fun b hb => h.gr b (hF b hb)
theorem PSt.list {B : Nat -> Prop} (h : PSt w0 S0 w t lp mp FL L c m ln N T room r) (hB : B = fun b => FL b \/ w.heap.size <= b) (hl : PLF w' B lp room L') (hk : gD B w w') : ∃ FL', PSt w0 S0 w' t lp mp FL' L' c m ln N T room r := by
 subst hB;have hs := hk.size;have ho : Only FL w w' := ⟨hk.only.os, hk.only.tape, hk.only.output, hk.only.size, fun b hb hn => hk.only.block b hb fun e => e.elim hn fun e2 => by omega⟩;refine ⟨fun b => (FL b \/ w.heap.size <= b) /\ b < w'.heap.size, h.u.list ho (hl.mono fun b h1 h2 => ⟨h1, h2⟩) (fun b hb => hb.1) fun b hb => hb.2, h.step ho fun b hb => .inr (.inr (.inl hb)), fun b hb => ?_⟩;have hsz := h.on.size;rcases hb with e | e | e | e
 ·exact h.gr b (.inl e)
 ·exact h.gr b (.inr (.inl e))
 ·rcases e.1 with e | e
  ·exact h.gr b (.inr (.inr (.inl e)))
  ·exact .inr (by omega)
 ·exact h.gr b (.inr (.inr (.inr e)))
theorem PSt.line {y : LnS} (h : PSt w0 S0 w t lp mp FL L c m ln N T room r) (hn : m n = some b) (hk : cf mB (fun j => j = b) w w') (hl : nG w' (fun j => j = b) b y) : PSt w0 S0 w' t lp mp FL L c m (fun j => if j = n then some y else ln j) N T room r :=
 ⟨h.u.line hn hk.only hl.1 hl.2.2, h.step hk.only fun j hj => .inr (.inr (.inr ⟨n, by rw [hj]; exact hn⟩)), h.gr⟩
theorem PSt.del (h : PSt w0 S0 w t lp mp FL L (c + 1) m ln N T room r) (hk : w.mapTurned w' mp) (hm : dU w' mp c (fun j => if j = (n : Int) then none else mLn m j)) : PSt w0 S0 w' t lp mp FL L c (fun j => if j = n then none else m j) (fun j => if j = n then none else ln j) N T room r := by
 refine ⟨h.u.del hk hm, h.step (fO (F := fun j => j = mp) hk rfl) fun j hj => .inr (.inl hj), fun b hb => ?_⟩;rcases hb with e | e | e | ⟨j, e⟩
 ·exact h.gr b (.inl e)
 ·exact h.gr b (.inr (.inl e))
 ·exact h.gr b (.inr (.inr (.inl e)))
 ·try dsimp only at e
  by_cases ej : j = n
  ·rw [if_pos ej] at e; cases e
  ·rw [if_neg ej] at e; exact h.gr b (.inr (.inr (.inr ⟨j, e⟩)))
theorem PSt.add {y : LnS} {w1 : World} (h : PSt w0 S0 w t lp mp FL L c m ln N T room r) (hn : m n = none) (hw1 : Below w.heap.size w w1) (hb : LnA w1 b (lf y)) (hbw : w.heap.size <= b) (hy : dQ y) (hk : w1.mapTurned w' mp) (hm : dU w' mp (c + 1) (fun j => if j = (n : Int) then some b else mLn m j)) : PSt w0 S0 w' t lp mp FL L (c + 1) (fun j => if j = n then some b else m j) (fun j => if j = n then some y else ln j) N T room r := by
 have h1 := h.below hw1;have hs := h.u.size;refine ⟨h1.u.add hn hb hy (fun e => by have := h.u.lt b e; omega) (fun j e => by have := hs b (.inr (.inr (.inr ⟨j, e⟩))); omega) hk hm, h1.step (fO (F := fun j => j = mp) hk rfl) fun j hj => .inr (.inl hj), fun q hq => ?_⟩;have hsz := h.on.size;rcases hq with e | e | e | ⟨j, e⟩
 ·exact h.gr q (.inl e)
 ·exact h.gr q (.inr (.inl e))
 ·exact h.gr q (.inr (.inr (.inl e)))
 ·try dsimp only at e
  by_cases ej : j = n
  ·rw [if_pos ej] at e; cases e; exact .inr (by omega)
  ·rw [if_neg ej] at e; exact h.gr q (.inr (.inr (.inr ⟨j, e⟩)))
end
theorem n9 {ops : Array Oper} {rest : List Oper} {o : Oper} {a : Act} {w : World} {M : Int -> Option Nat} {k : Int} {Q : Exit -> Act -> World -> Prop} {x y : Operand} {N b : Nat} (hg : o.guard = none) (ho : o.op = .call { callee := .builtin .delete, args := #[x, y], argTypes := #[64, 3] })
  (hx : a.eval x = .map (some b)) (hy : a.eval y = .int .i64 k) (h : dU w b (N + 1) M) (hw : (Lit.int .i64 k).wf = true) (hn : (M k).isSome = true)
  (hk : ∀ w', dU w' b N (fun j => if j = k then none else M j) -> w.mapTurned w' b -> wpList prog ops Q rest (a.put o.dst (.tuple #[])) w') : wpList prog ops Q (o :: rest) a w := by
 obtain ⟨w', h1, h2, h3⟩ := h.als hw hn o.type;exact aw hg (uu ho hx hy h1) (hk w' h2 h3)
def PSx (w0 : World) (S0 : Nat -> Prop) (w : World) (t : Nat) (s : ShS) : Prop := ∃ lp mp FL m r, PSt w0 S0 w t lp mp FL (kyL s.dty s.o) s.o.length m s.ln s.N s.T s.room r /\ co s
section
variable {w0 w w' : World} {S0 S : Nat -> Prop} {t K : Nat} {s : ShS}
theorem PSh.x (h : PSh w S t K s) : PSx w S w t s := by
 obtain ⟨lp, mp, FL, m, r, h1, h2, rfl⟩ := h;exact ⟨lp, mp, FL, m, r, PSt.start h1, h2⟩
theorem PSx.res (h : PSx w0 S0 w t s) (K : Nat) : ∃ S', PSh w S' t K s /\ Only S0 w0 w /\ Grow w0 S0 S' := by
 obtain ⟨lp, mp, FL, m, r, h1, h2⟩ := h;exact ⟨_, ⟨lp, mp, FL, m, r, h1.u, h2, rfl⟩, h1.on, h1.gr⟩
theorem PSx.below (h : PSx w0 S0 w t s) (hb : Below w.heap.size w w') : PSx w0 S0 w' t s := by
 obtain ⟨lp, mp, FL, m, r, h1, h2⟩ := h;exact ⟨lp, mp, FL, m, r, h1.below hb, h2⟩
theorem PSx.ok (h : PSx w0 S0 w t s) : co s := by obtain ⟨lp, mp, FL, m, r, h1, h2⟩ := h; exact h2
theorem PSx.only (h : PSx w0 S0 w t s) : Only S0 w0 w := by obtain ⟨lp, mp, FL, m, r, h1, h2⟩ := h; exact h1.on
end
theorem nz {o : List Nat} {n : Nat} (hd : o.Nodup) (h : n ∈ o) : (dL o n).length + 1 = o.length := by
 have hl := dl (d := fun _ => false) (o := o).2 h;have hl' : plc (n : Int) (kyL (fun _ => false) o) < o.length := by rw [db] at hl; exact hl
 have := oU (L := o) hl';rwa [sI hd hl', mo h] at this
theorem acF {s : ShS} (h : co s) (n : Nat) : (s.tch n).dty = s.dty := funext fun j => h.oH n j
theorem ns (s : ShS) (n : Nat) (h : s.eH n = true) : (s.tch n).ln = fun j => if j = n then some (s.bZ n) else (s.cut n).ln j := by unfold ShS.tch; rw [if_pos h]; rfl
theorem ad3 (s : ShS) (n : Nat) (h : s.eH n = false) : s.tch n = s := by unfold ShS.tch; rw [if_neg (by rw [h]; decide)]
def tcE (s : ShS) (n : Nat) : Int := if s.eH n = true then 0 else 10
theorem mS {w0 w : World} {S0 : Nat -> Prop} {t n : Nat} {s : ShS} (h : PSx w0 S0 w t s) (hn : n < s.T) : Calls prog 59 #[.pointer (some ⟨t, 0, none⟩), .int .i64 (n : Int)] w fun e w' => e = .returned (.int .i64 (tcE s n)) /\ PSx w0 S0 w' t (s.tch n) := by
 obtain ⟨lp, mp, FL, m, r, h, hok⟩ := h;have hn64 : n < 64 := by have := hok.t64; omega
 have HW := ae (ic hn64);have HOK := ae hok;have HOK2 := ae (hok.tch hn);have HS := ae h;have HL : Hid (PLF w (fun b => FL b \/ w.heap.size <= b) lp s.room (kyL s.dty s.o)) := ae (h.u.li.mono fun b h1 _ => .inl h1);have HN1 : Hid (1 <= s.N) := ae (by have := hok.n3; omega);have HN2 : Hid (s.N <= 16) := ae hok.n16;have HEQ := ae (ae2 hok n);have HWQ := ae (aet hok n);have HSQ : Hid (wE s.room (n : Int) (kyL s.dty s.o) = kyL (s.tch n).dty (s.tch n).o) := ae (by rw [adj hok n, acF hok n]);have HNQ := ae (s.mO n);have HM64 : Hid (s.o.length <= 64) := ae (by have := hok.len; have := hok.r64; omega);obtain ⟨g0, hg0⟩ : ∃ g0, uQ s.room (n : Int) (kyL s.dty s.o) = g0 := ⟨_, rfl⟩;have HG0 := ae hg0;have htc := jp hok n;clear hg0 h hn hn64;go_enter func59, ntmps59;rcases htc with ⟨c1, c2, c3, c4⟩ | ⟨c1, cl, c2, c3, c4⟩ | ⟨c1, cl, c0, c2, c3⟩ | ⟨c1, cl, c0, c2, c3, c4⟩
 ·have HTB := ae c3;have HTE : Hid ((if s.eH n = true then (0 : Int) else 10) = 0) := ae (if_pos c3);have HTW : Hid ((s.goes n && s.eH n) = false) := ae (by rw [c2]; rfl);obtain ⟨x, hx⟩ := Option.isSome_iff_exists.1 ((hok.mem n).1 c1);have hl := HS.out.u.ln n;rw [hx] at hl;obtain ⟨a, ha, _, _⟩ := hl.some_;have HA := ae ha;have HF : Hid ((s.tch n).o.length = s.o.length /\ (s.tch n).ln = s.ln) := ae (by
   refine ⟨by rw [vN, if_pos c3, c4, List.length_cons, nz hok.nd c1], ?_⟩;rw [ns s n c3, c4]
   funext j
   by_cases e : j = n
   ·subst e; rw [if_pos rfl, dp hx, hx]
   ·rw [if_neg e])
  clear c1 c2 c3 c4 hok hx hl ha;go_upto_region 1 with fail;refine aJ 2 ?_;refine alM (ax rfl alW kr) ?_;refine alM (aE rfl alW (oc (PRu.c3 HS.out.u))) ?_;refine runs 1 ?_;refine ay rfl (aB call112 rfl (evc alW (evc alW evn))) ?_;refine (ly w (fun b hb => .inr hb) HL HW).mono ?_;rintro e w1 ⟨rfl, l1, t1⟩;rw [HSQ.out] at l1;obtain ⟨FL1, hs1⟩ := HS.out.list rfl l1 t1;have HS1 := ae hs1;rw [HEQ.out, HWQ.out, HG0.out, HTE.out, HTW.out];clear l1 t1 hs1;refine aR ?_;refine runs 3 ?_;refine runs 3 ?_;refine aH 1 ?_;go_upto_region 2 with fail;refine aJ 1 ?_;refine alM (aN false rfl alW evk rfl) ?_;refine ah ?_;have HK : Hid ((Instr.lookup 64 (.map (some mp)) (.int .i64 (n : Int)) false).run prog w1 = .ok (.pointer (some ⟨a, 0, none⟩)) w1) := ae (by
   have := HS1.out.u.map.kw HW;rwa [show mLn m (n : Int) = some a from by unfold mLn; rw [if_pos (by omega), Int.toNat_natCast, HA.out]] at this)
  have HSF : Hid (PSt w0 S0 w1 t lp mp FL1 (kyL (s.tch n).dty (s.tch n).o) (s.tch n).o.length m (s.tch n).ln (s.tch n).N (s.tch n).T (s.tch n).room r) := ae (by rw [HF.out.1, HF.out.2, HNQ.out.1, HNQ.out.2.1, HNQ.out.2.2]; exact HS1);go_upto_region 4 with fail;refine cC 1 ?_;go_upto_region 6 with fail;refine aJ 2 ?_;refine alM (ax rfl alW gv) ?_;refine alM (aE rfl alW (kA (PRu.c4 HS1.out.u))) ?_;refine runs 1 ?_;refine alM (di rfl alW alW HK) ?_;refine alM (cR false underlying109 rfl alW evk rfl) ?_;refine ah ?_;go_upto_region 8 with fail;refine cC 2 ?_;go_wp2_with fail;go_ret;exact ⟨by unfold tcE; rw [HTB.out]; rfl, lp, mp, _, _, r, HSF, HOK2⟩
 ·have HTB := ae c3;have HTE : Hid ((if s.eH n = true then (0 : Int) else 10) = 0) := ae (if_pos c3);have HTW : Hid ((s.goes n && s.eH n) = false) := ae (by rw [c2]; rfl);have hx : s.ln n = none := by
   have := (hok.kJ n).2 c1;cases e : s.ln n with
   |none => rfl
   |some y => rw [e] at this; cases this
  have hl := HS.out.u.ln n;rw [hx] at hl;have HMJ := ae hl.none_;have HMN : Hid (mLn m (n : Int) = none) := ae (by unfold mLn; rw [if_pos (by omega), Int.toNat_natCast, hl.none_]);have HCN := HM64;have HF : Hid ((s.tch n).o.length = s.o.length + 1 /\ (s.tch n).ln = fun j => if j = n then some (dC s.N) else s.ln j) := ae (by
   refine ⟨by rw [vN, if_pos c3, c4, List.length_cons, jZ c1], ?_⟩;rw [ns s n c3, c4, iv hx])
  clear c1 cl c2 c3 c4 hok hx hl;go_upto_region 1 with fail;refine aJ 2 ?_;refine alM (ax rfl alW kr) ?_;refine alM (aE rfl alW (oc (PRu.c3 HS.out.u))) ?_;refine runs 1 ?_;refine ay rfl (aB call112 rfl (evc alW (evc alW evn))) ?_;refine (ly w (fun b hb => .inr hb) HL HW).mono ?_;rintro e w1 ⟨rfl, l1, t1⟩;rw [HSQ.out] at l1;obtain ⟨FL1, hs1⟩ := HS.out.list rfl l1 t1;have HS1 := ae hs1;rw [HEQ.out, HWQ.out, HG0.out, HTE.out, HTW.out];clear l1 t1 hs1;refine aR ?_;refine runs 3 ?_;refine runs 3 ?_;refine aH 1 ?_;go_upto_region 2 with fail;refine aJ 1 ?_;refine alM (aN false rfl alW evk rfl) ?_;refine ah ?_;have HK : Hid ((Instr.lookup 64 (.map (some mp)) (.int .i64 (n : Int)) false).run prog w1 = .ok (.pointer none) w1) := ae (by
   have := HS1.out.u.map.kw HW;rwa [HMN.out] at this)
  go_upto_region 4 with fail;refine cC 1 ?_;go_upto_region 6 with fail;refine aJ 2 ?_;refine alM (ax rfl alW gv) ?_;refine alM (aE rfl alW (kA (PRu.c4 HS1.out.u))) ?_;refine runs 1 ?_;refine alM (di rfl alW alW HK) ?_;refine alM (cR true underlying109 rfl alW evk rfl) ?_;refine ah ?_;go_upto_region 7 with fail;refine wp_region_held (S := fun w' => w'.cell? ⟨t, 0, none⟩ = some (.int .i64 (s.N : Int)) /\ w'.cell? ⟨t, 4, none⟩ = some (.map (some mp))) (by kernel_rfl) ?_;change wpAnyH _ _ _ _ _ 16 _ _ w1.drew;refine al9 0 rfl ⟨HS1.out.u.c0, HS1.out.u.c4⟩ ?_;refine amb 1 rfl ⟨HS1.out.u.c0, HS1.out.u.c4⟩ ?_;refine alP 2 rfl (fun _ hw => ax rfl alW gv) ⟨HS1.out.u.c0, HS1.out.u.c4⟩ ?_;refine alP 3 rfl (fun _ hw => aE rfl alW (kA hw.2)) ⟨HS1.out.u.c0, HS1.out.u.c4⟩ ?_;refine al9 4 rfl ⟨HS1.out.u.c0, HS1.out.u.c4⟩ ?_;refine al9 5 rfl ⟨HS1.out.u.c0, HS1.out.u.c4⟩ ?_;refine amb 6 rfl ⟨HS1.out.u.c0, HS1.out.u.c4⟩ ?_;refine alP 7 rfl (fun _ hw => ax rfl alW vI) ⟨HS1.out.u.c0, HS1.out.u.c4⟩ ?_;refine alP 8 rfl (fun _ hw => ax rfl alW adg) ⟨HS1.out.u.c0, HS1.out.u.c4⟩ ?_;refine alP 9 rfl (fun _ hw => aE rfl alW (bV hw.1)) ⟨HS1.out.u.c0, HS1.out.u.c4⟩ ?_;refine cW 10 rfl (by kernel_rfl) rfl (aB call113 rfl (evc alW evn)) ?_;refine (zj s.N _ HN1 HN2).mono ?_;rintro e wA ⟨q, rfl, ⟨hq1, hq2⟩, bA⟩;have bA' : Below w1.heap.size w1 wA := ((Below.refl _ w1).drew).trans bA;have hsA := HS1.out.below bA';obtain ⟨wB, hrB, hmB, htB⟩ := hsA.u.map.ach HW HMN (by unfold maxLen; have := HCN.out; omega) q;have HRB := ae hrB;have HSB := ae (HS1.out.add HMJ bA' hq1 hq2 (dQ.new HN1 HN2) htB hmB);have HSA : Hid (wA.cell? ⟨t, 0, none⟩ = some (.int .i64 (s.N : Int)) /\ wA.cell? ⟨t, 4, none⟩ = some (.map (some mp))) := ae ⟨hsA.u.c0, hsA.u.c4⟩;have HSC : Hid (wB.cell? ⟨t, 0, none⟩ = some (.int .i64 (s.N : Int)) /\ wB.cell? ⟨t, 4, none⟩ = some (.map (some mp))) := ae ⟨HSB.out.u.c0, HSB.out.u.c4⟩;clear hq1 hq2 bA bA' hsA hrB hmB htB;refine ⟨_, rfl, HSA, ?_⟩;simp only [aa];refine al9 11 rfl HSA ?_;refine amc 12 rfl HSA ?_;refine amc 13 rfl HSA ?_;refine dG 14 rfl (by kernel_rfl) rfl (jq rfl (ev rfl) (ev rfl) (ev rfl) HRB.out) HSC.out ?_;simp only [Act.put];refine ama 15 rfl HSC ?_;refine wpAnyH_done (by kernel_rfl) ?_ _;have HSF : Hid (PSt w0 S0 wB t lp mp FL1 (kyL (s.tch n).dty (s.tch n).o) (s.tch n).o.length (fun j => if j = n then some q else m j) (s.tch n).ln (s.tch n).N (s.tch n).T (s.tch n).room r) := ae (by rw [HF.out.1, HF.out.2, HNQ.out.1, HNQ.out.2.1, HNQ.out.2.2]; exact HSB);go_upto_region 8 with fail;refine cC 2 ?_;go_wp2_with fail;go_ret;exact ⟨by unfold tcE; rw [HTB.out]; rfl, lp, mp, _, _, r, HSF, HOK2⟩
 ·have HTB := ae c3;have HTE : Hid ((if s.eH n = true then (0 : Int) else 10) = 10) := ae (if_neg (by rw [c3]; decide));have HTW : Hid ((s.goes n && s.eH n) = false) := ae (by rw [c3, Bool.and_false]);have HF := ae (ad3 s n c3);clear c1 cl c0 c2 c3 hok;go_upto_region 1 with fail;refine aJ 2 ?_;refine alM (ax rfl alW kr) ?_;refine alM (aE rfl alW (oc (PRu.c3 HS.out.u))) ?_;refine runs 1 ?_;refine ay rfl (aB call112 rfl (evc alW (evc alW evn))) ?_;refine (ly w (fun b hb => .inr hb) HL HW).mono ?_;rintro e w1 ⟨rfl, l1, t1⟩;rw [HSQ.out] at l1;obtain ⟨FL1, hs1⟩ := HS.out.list rfl l1 t1;have HS1 := ae hs1;rw [HEQ.out, HWQ.out, HG0.out, HTE.out, HTW.out];clear l1 t1 hs1;refine aR ?_;refine runs 3 ?_;refine runs 3 ?_;refine aH 1 ?_;go_upto_region 2 with fail;refine aJ 1 ?_;refine alM (aN true rfl alW evk rfl) ?_;refine ah ?_;go_upto_region 3 with fail;refine cC 2 ?_;go_wp2_with fail;go_ret;exact ⟨by unfold tcE; rw [HTB.out]; rfl, lp, mp, _, _, r, by have := HS1.out; rw [HF.out] at this ⊢; exact this, HOK2⟩
 ·have HTB := ae c3;have HTE : Hid ((if s.eH n = true then (0 : Int) else 10) = 0) := ae (if_pos c3);have HTW : Hid ((s.goes n && s.eH n) = true) := ae (by rw [c2, c3]; rfl);have HGQ : Hid (g0 = (s.gone : Int)) := ae (by rw [<- HG0.out]; exact ael hok n c2 c3);obtain ⟨hgm, _⟩ := hok.gone c0;have hgT := hok.lt _ hgm;have hx : s.ln n = none := by
   have := (hok.kJ n).2 c1;cases e : s.ln n with
   |none => rfl
   |some y => rw [e] at this; cases this
  have hl := HS.out.u.ln n;rw [hx] at hl;obtain ⟨xg, hxg⟩ := Option.isSome_iff_exists.1 ((hok.mem s.gone).1 hgm);have hlg := HS.out.u.ln s.gone;rw [hxg] at hlg;obtain ⟨ag, hag, _, _⟩ := hlg.some_;have hne : n ≠ s.gone := fun e => c1 (by rw [e]; exact hgm)
  obtain ⟨gn, hgn⟩ : ∃ gn, s.gone = gn := ⟨_, rfl⟩;obtain ⟨cn, hcn⟩ : ∃ cn, s.o.length = cn + 1 := ⟨s.o.length - 1, by have := List.length_pos_of_mem hgm; omega⟩;have HCN : Hid (cn <= 64) := ae (by have := HM64.out; omega);have HMJ : Hid ((fun j => if j = gn then none else m j) n = none) := ae (by dsimp only; rw [if_neg (by rw [<- hgn]; exact hne)]; exact hl.none_);have HMN : Hid (mLn (fun j => if j = gn then none else m j) (n : Int) = none) := ae (by unfold mLn; rw [if_pos (by omega), Int.toNat_natCast]; exact HMJ);have HMG : Hid ((mLn m (gn : Int)).isSome = true) := ae (by unfold mLn; rw [if_pos (by omega), Int.toNat_natCast, <- hgn, hag]; rfl);have HWG := ae (ic (n := gn) (by rw [<- hgn]; have := hok.t64; omega));have HF : Hid ((s.tch n).o.length = cn + 1 /\ (s.tch n).ln = fun j => if j = n then some (dC s.N) else (if j = gn then none else s.ln j)) := ae (by
   refine ⟨?_, ?_⟩
   ·rw [vN, if_pos c3, c4, List.length_cons]
    show (dL (dL s.o s.gone) n).length + 1 = _
    rw [jZ (n := n) (o := dL s.o s.gone) fun e => c1 (gY.1 e).1, nz hok.nd hgm, hcn]
   ·rw [ns s n c3, c4, iv hx, <- hgn]
    rfl)
  rw [hgn] at HGQ;have HCQ := ae hcn;clear c1 cl c0 c2 c3 c4 hok hx hl hgm hgT hxg hlg hag hne hgn hcn;go_upto_region 1 with fail;refine aJ 2 ?_;refine alM (ax rfl alW kr) ?_;refine alM (aE rfl alW (oc (PRu.c3 HS.out.u))) ?_;refine runs 1 ?_;refine ay rfl (aB call112 rfl (evc alW (evc alW evn))) ?_;refine (ly w (fun b hb => .inr hb) HL HW).mono ?_;rintro e w1 ⟨rfl, l1, t1⟩;rw [HSQ.out] at l1;obtain ⟨FL1, hs1⟩ := HS.out.list rfl l1 t1;have HS1 := ae hs1;rw [HEQ.out, HWQ.out, HG0.out, HTE.out, HTW.out];clear l1 t1 hs1;refine aR ?_;refine runs 3 ?_;refine runs 3 ?_;refine aH 1 ?_;go_upto_region 2 with fail;refine aJ 1 ?_;refine alM (aN false rfl alW evk rfl) ?_;refine ah ?_;have HS1' : Hid (PSt w0 S0 w1 t lp mp FL1 (kyL (s.tch n).dty (s.tch n).o) (cn + 1) m s.ln s.N s.T s.room r) := ae (by have := HS1.out; rwa [HCQ.out] at this);rw [HGQ.out];go_upto_region 4 with fail;refine cC 1 ?_;go_upto_region 5 with fail;refine aJ 2 ?_;refine alM (ax rfl alW gv) ?_;refine alM (aE rfl alW (kA (PRu.c4 HS1.out.u))) ?_;refine runs 1 ?_;refine n9 rfl rfl alW alW HS1'.out.u.map HWG HMG ?_;intro w2 hm2 ht2;simp only [aa];refine ah ?_;have HS2 := ae (HS1'.out.del ht2 hm2);clear hm2 ht2;have HK : Hid ((Instr.lookup 64 (.map (some mp)) (.int .i64 (n : Int)) false).run prog w2 = .ok (.pointer none) w2) := ae (by
   have := HS2.out.u.map.kw HW;rwa [HMN.out] at this)
  go_upto_region 6 with fail;refine aJ 2 ?_;refine alM (ax rfl alW gv) ?_;refine alM (aE rfl alW (kA (PRu.c4 HS2.out.u))) ?_;refine runs 1 ?_;refine alM (di rfl alW alW HK) ?_;refine alM (cR true underlying109 rfl alW evk rfl) ?_;refine ah ?_;go_upto_region 7 with fail;refine wp_region_held (S := fun w' => w'.cell? ⟨t, 0, none⟩ = some (.int .i64 (s.N : Int)) /\ w'.cell? ⟨t, 4, none⟩ = some (.map (some mp))) (by kernel_rfl) ?_;change wpAnyH _ _ _ _ _ 16 _ _ w2.drew;refine al9 0 rfl ⟨HS2.out.u.c0, HS2.out.u.c4⟩ ?_;refine amb 1 rfl ⟨HS2.out.u.c0, HS2.out.u.c4⟩ ?_;refine alP 2 rfl (fun _ hw => ax rfl alW gv) ⟨HS2.out.u.c0, HS2.out.u.c4⟩ ?_;refine alP 3 rfl (fun _ hw => aE rfl alW (kA hw.2)) ⟨HS2.out.u.c0, HS2.out.u.c4⟩ ?_;refine al9 4 rfl ⟨HS2.out.u.c0, HS2.out.u.c4⟩ ?_;refine al9 5 rfl ⟨HS2.out.u.c0, HS2.out.u.c4⟩ ?_;refine amb 6 rfl ⟨HS2.out.u.c0, HS2.out.u.c4⟩ ?_;refine alP 7 rfl (fun _ hw => ax rfl alW vI) ⟨HS2.out.u.c0, HS2.out.u.c4⟩ ?_;refine alP 8 rfl (fun _ hw => ax rfl alW adg) ⟨HS2.out.u.c0, HS2.out.u.c4⟩ ?_;refine alP 9 rfl (fun _ hw => aE rfl alW (bV hw.1)) ⟨HS2.out.u.c0, HS2.out.u.c4⟩ ?_;refine cW 10 rfl (by kernel_rfl) rfl (aB call113 rfl (evc alW evn)) ?_;refine (zj s.N _ HN1 HN2).mono ?_;rintro e wA ⟨q, rfl, ⟨hq1, hq2⟩, bA⟩;have bA' : Below w2.heap.size w2 wA := ((Below.refl _ w2).drew).trans bA;have hsA := HS2.out.below bA';obtain ⟨wB, hrB, hmB, htB⟩ := hsA.u.map.ach HW HMN (by unfold maxLen; have := HCN.out; omega) q;have HRB := ae hrB;have HSB := ae (HS2.out.add HMJ bA' hq1 hq2 (dQ.new HN1 HN2) htB hmB);have HSA : Hid (wA.cell? ⟨t, 0, none⟩ = some (.int .i64 (s.N : Int)) /\ wA.cell? ⟨t, 4, none⟩ = some (.map (some mp))) := ae ⟨hsA.u.c0, hsA.u.c4⟩;have HSC : Hid (wB.cell? ⟨t, 0, none⟩ = some (.int .i64 (s.N : Int)) /\ wB.cell? ⟨t, 4, none⟩ = some (.map (some mp))) := ae ⟨HSB.out.u.c0, HSB.out.u.c4⟩;clear hq1 hq2 bA bA' hsA hrB hmB htB;refine ⟨_, rfl, HSA, ?_⟩;simp only [aa];refine al9 11 rfl HSA ?_;refine amc 12 rfl HSA ?_;refine amc 13 rfl HSA ?_;refine dG 14 rfl (by kernel_rfl) rfl (jq rfl (ev rfl) (ev rfl) (ev rfl) HRB.out) HSC.out ?_;simp only [Act.put];refine ama 15 rfl HSC ?_;refine wpAnyH_done (by kernel_rfl) ?_ _;have HSF : Hid (PSt w0 S0 wB t lp mp FL1 (kyL (s.tch n).dty (s.tch n).o) (s.tch n).o.length (fun j => if j = n then some q else (fun j => if j = gn then none else m j) j) (s.tch n).ln (s.tch n).N (s.tch n).T (s.tch n).room r) := ae (by rw [HF.out.1, HF.out.2, HNQ.out.1, HNQ.out.2.1, HNQ.out.2.2]; exact HSB);go_upto_region 8 with fail;refine cC 2 ?_;go_wp2_with fail;go_ret;exact ⟨by unfold tcE; rw [HTB.out]; rfl, lp, mp, _, _, r, HSF, HOK2⟩
open Go.Maps (Keyed)
def emR : Value -> Option (DataW Unit × List MemPlace)
 |.agg a => if a.size = 0 then some (.nil, []) else none
 |_ => none
def kz (w : World) (b N : Nat) (P : Int -> Bool) : Prop :=
 ∃ D : DataW Unit, w.ownsMap prog 3 emR b N D /\ Maps.size D = N /\ ∀ k, (Lit.int .i64 k).wf = true -> Maps.has D (.int .i64 k) = P k
section
variable {w w' : World} {b N : Nat} {P : Int -> Bool} {k : Int}
theorem kz.kept (h : kz w b N P) (hk : ∀ es c, w.heap[b]? = some (.map es c) -> w'.heap[b]? = some (.map es c)) : kz w' b N P := by
 obtain ⟨D, ⟨es, c, hb, r⟩, h2⟩ := h;exact ⟨D, ⟨es, c, hk es c hb, r⟩, h2⟩
theorem kz.below (h : kz w b N P) (hb : Below w.heap.size w w') : kz w' b N P := h.kept fun es c e => aC e hb
theorem kz.made (w : World) : kz (w.alloc (.map #[] 0)) w.heap.size 0 (fun _ => false) :=
 ⟨.map [], World.ownsMap_made _ _ _ _, rfl, fun k _ => rfl⟩
theorem kz.len (h : kz w b N P) (ty : TypeId) : (Builtin.len_ #[115] ty #[.map (some b)]).run prog w = .ok (.int .i64 (N : Int)) w := by
 obtain ⟨D, h1, h2, _⟩ := h;rw [h1.len underlying115 ty, h2]
theorem kz.store (h : kz w b N P) (hw : (Lit.int .i64 k).wf = true) (hN : N < maxLen) :
  ∃ w', (Instr.mapUpdate 115 (.map (some b)) (.int .i64 k) (.agg #[])).run prog w = .ok () w' /\ kz w' b (if P k = true then N else N + 1) (fun j => decide (j = k) || P j) /\ w.mapTurned w' b := by
 obtain ⟨D, h1, h2, h3⟩ := h;obtain ⟨w', hr, ho, ht⟩ := h1.store fN underlying115 hN (qZ hw) (show emR (.agg #[]) = some (.nil, []) from rfl);have hT := h1.tidy fN;have hk : WideAt.IsKeyLit (Lit.int .i64 k) := fN.key (qZ hw);have hs : Maps.size (D.put (.int .i64 k) (.nil : DataW Unit)) = if P k = true then N else N + 1 := by
  rw [Maps.size_put hT, h3 k hw, h2]
 refine ⟨w', hr, ⟨_, by
  obtain ⟨es, clock, hb, F, hs', he⟩ := ho;rw [<- hs];exact ⟨es, clock, hb, F, by rw [he]; simp [Maps.size, length_sorted], he⟩, hs, fun j hj => ?_⟩, ht⟩
 by_cases e : j = k
 ·subst e;dsimp only;rw [Maps.has_put_same hT.isMap hk, ao rfl]
  rfl
 ·dsimp only;rw [Maps.has_put_other (jV e), am e, h3 j hj]
  rfl
theorem aak {ρ : Operand -> Value} {o : Oper} {x : Operand} (ho : o.op = .call { callee := .builtin .len, args := #[x], argTypes := #[115] }) (hx : ρ x = .map (some b)) (h : kz w b N P) : (execOp ρ o).run prog w = .ok (.value (.int .i64 (N : Int))) w := by
 simp [execOp, ho, resolve, invoke, builtin, hx, h.len, Result.andThen]
theorem y5 {ρ : Operand -> Value} {o : Oper} (ho : o.op = .build 116 #[]) : (execOp ρ o).run prog w = .ok (.value (.agg #[])) w := by
 have h : (Instr.build 116 #[]).run prog w = .ok (.agg #[]) w := by kernel_rfl
 unfold execOp;simp [ho, h, Result.andThen]
def MapU (w : World) (b : Nat) (U : List Int) : Prop := kz w b U.length (fun j => U.contains j)
theorem MapU.store {U : List Int} (h : MapU w b U) (hw : (Lit.int .i64 k).wf = true) (hN : U.length < maxLen) :
  ∃ w', (Instr.mapUpdate 115 (.map (some b)) (.int .i64 k) (.agg #[])).run prog w = .ok () w' /\ MapU w' b (if U.contains k = true then U else U ++ [k]) /\ w.mapTurned w' b := by
 obtain ⟨w', h1, h2, h3⟩ := kz.store h hw hN;refine ⟨w', h1, ?_, h3⟩;unfold MapU;have e1 : (if U.contains k = true then U else U ++ [k]).length = if U.contains k = true then U.length else U.length + 1 := by split <;> simp
 have e2 : (fun j => (if U.contains k = true then U else U ++ [k]).contains j) = fun j => decide (j = k) || U.contains j := funext fun j => by
  by_cases hc : U.contains k = true
  ·rw [if_pos hc];by_cases e : j = k
   ·subst e; rw [hc, ao rfl]; rfl
   ·rw [am e]; rfl
  ·rw [if_neg hc, Bool.eq_iff_iff];simp [or_comm]
 rw [e1, e2];exact h2
theorem MapU.below {U : List Int} (h : MapU w b U) (hb : Below w.heap.size w w') : MapU w' b U := kz.below h hb
end
section
variable {w : World} {t lp mp K : Nat} {FL : Nat -> Prop} {m : Nat -> Option Nat} {r : Int} {s : ShS}
theorem sL {l : List Int} {A : Option Addr} {nl cl : Nat} (h : PRu w t lp mp FL (kyL s.dty s.o) s.o.length m s.ln s.N s.T s.room r) (hok : co s) (hl : RdE bg w w.heap.size A nl l) (hwf : ∀ x ∈ l, (Lit.int .i64 x).wf = true) (hbig : l.length <= 17592186043904) : Calls prog 24 #[.pointer (some ⟨t, 0, none⟩), .slice A nl cl] w fun e w' => e = .returned (.bool (s.fits l)) /\ Below w.heap.size w w' := by
 have hnl := hl.1;subst hnl;have HBG := ae hbig;have HOK := ae hok;have HDL : Hid (s.cP.length <= 64) := ae (ar (wJ _ _) hok.t64);have HDR := ae hok.aeT;have HD64 : Hid (∀ i, i < s.cP.length -> (Lit.int .i64 (s.cP.getD i 0)).wf = true) := ae fun i hi => by
  have hm : s.cP.getD i 0 ∈ s.cP := cO hi;obtain ⟨j, e, hj, _⟩ := jn.1 hm;rw [e];exact ic (by have := hok.t64; omega)
 have HLW : Hid (∀ i, i < l.length -> (Lit.int .i64 (l.getD i 0)).wf = true) := ae fun i hi => hwf _ (cO hi)
 have HUN : Hid (∀ i, fm [] (s.cP.take i) = s.cP.take i) := ae (adk s);obtain ⟨D, hD⟩ : ∃ D, s.cP = D := ⟨_, rfl⟩;have HF0 : Hid (s.fits l = decide ((fm D l).length <= s.room)) := ae (by unfold ShS.fits; rw [hD]);obtain ⟨ft, hft⟩ : ∃ ft, s.fits l = ft := ⟨_, rfl⟩;rw [hft] at HF0;rw [hD] at HDL HDR HD64 HUN;rw [hft];have HDQ := ae hD;clear hD hft;have hbx := (Below.refl w.heap.size w).alloc aj (.map #[] 0);have HS1 := ae (kz.made w);have HH0 := ae h;have HH := ae (h.below hbx);have HL := ae hl;have HB := ae hbx;have HSZ : Hid ((w.alloc (.map #[] 0)).heap.size = w.heap.size + 1) := ae (World.size_alloc ..);clear h hok hl hwf hbig hbx;go_enter func24, ntmps24;go_upto_region 1 with fail;refine aJ 1 ?_;refine ay rfl (aB call55 rfl (evc alW evn)) ?_;refine (lJ HH0).mono ?_;rintro e w' ⟨rfl, rfl⟩;refine aR ?_;refine aH 1 ?_;go_upto_region 3 with fail;refine af ?_;refine alM (ph rfl) ?_;refine aH 1 ?_;obtain ⟨bm, hbm⟩ : ∃ bm, w.heap.size = bm := ⟨_, rfl⟩;rw [hbm] at HS1 HSZ;have HBM := ae hbm;rw [hbm];generalize w.alloc (.map #[] 0) = w1 at *;clear hbm;go_upto_region 4 with fail;refine aJ 1 ?_;refine ay rfl (aB call17 rfl (evc alW evn)) ?_;refine (py HH HOK).mono ?_;rintro e w2 ⟨v2, rfl, m2, b2⟩;rw [HDQ.out] at m2;obtain ⟨A2, c2, rfl, _, _⟩ := m2.form;have HM2 := ae m2;have HB2 := ae (HB.out.trans (b2.mono HB.out.size));have HH2 := ae (HH.out.below b2);have HS2 := ae (HS1.out.below b2);clear m2 b2;refine aR ?_;refine alM (dV bg rfl alW) ?_;refine aH 1 ?_;go_wp2_with fail
 go_loopw [7, 17] (fun u c wr => ∃ i : Nat, c = .int .i64 i /\ i <= D.length /\ MapU wr bm (D.take i) /\ aQ bg wr w1.heap.size (.slice A2 D.length c2) D /\ PRu wr t lp mp FL (kyL s.dty s.o) s.o.length m s.ln s.N s.T s.room r /\ Below bm w wr) (fun _ c _ => D.length - (intOf c).toNat)
 case atStart => exact ⟨0, by go_num, Nat.zero_le _, HS2, HM2, HH2, by have := HB2.out; rwa [HBM.out] at this⟩
 case round =>
  obtain ⟨i, rfl, hi, hs, hm, hh, hb⟩ := hrel;have HSr := ae hs;have HMr := ae hm;have HHr := ae hh;have HWr := ae hb;clear hs hm hh hb;by_cases hlt : i < D.length
  ·have HI := ae hlt;have HT : Hid (decide ((i : Int) < (D.length : Int)) = true) := ae (ao (by omega));have HA : Hid (IntKind.i64.wrap ((i : Int) + 1) = ((i + 1 : Nat) : Int)) := ae (by have := HDL.out; rw [eF ⟨by omega, by omega⟩]; omega);obtain ⟨b, off, hA, _, hc⟩ := HMr.out.rd.int (k := i) hlt;subst hA;have HC := ae hc;obtain ⟨wn, hrn, hmn, htn⟩ := HSr.out.store (HD64.out i hlt) (by unfold maxLen; have := HDL.out; rw [List.length_take]; omega);have hst : (if (D.take i).contains (D.getD i 0) = true then D.take i else D.take i ++ [D.getD i 0]) = D.take (i + 1) := by
    have := qF [] (D.take i) (D.getD i 0);rw [<- wR hlt, HUN.out, HUN.out] at this;exact this.symm
   rw [hst] at hmn;have hg := htn.grown;have hmp : mp ≠ bm := fun e => by
    obtain ⟨es, q, hq⟩ := HH0.out.ah8;have := aS hq;rw [HBM.out] at this;omega
   have hlow : ∀ q, qS t mp FL m q -> q ≠ bm := fun q hq e => by
    have := HH0.out.size q hq;rw [HBM.out] at this;omega
   have HRN := ae hrn;have HMN := ae hmn;have HHN := ae (HHr.out.only (fO (F := fun j => j = bm) htn rfl) hlow);have HRD : Hid (aQ bg wn w1.heap.size (.slice (some ⟨b, off, none⟩) D.length c2) D) := ae (HMr.out.kept hg (by
    cases ho : (Value.slice (some ⟨b, off, none⟩) D.length c2).ownBlock with
    |none => exact .inl rfl
    |some q =>
     right
     intro e;injection e with e;have := HMr.out.ia q ho;have := HSZ.out;omega))
   have HWN : Hid (Below bm w wn) := ae ((HWr.out).grown hg (ar (Nat.le_of_eq HBM.out.symm) HWr.out.size) fun j hj => by injection hj with hj; subst hj; exact aj);clear hi hlt hc hrn hmn htn hst hg hmp hlow;go_upto_region 5 with fail;refine af ?_;refine alM (aY true rfl alW alW HT) ?_;refine ah ?_;go_upto_region 6 with fail;refine af ?_;refine alM (cu (E := bg) rfl alW alW HI) ?_;refine alM (aE rfl alW (bV (by rw [show i * bg.n = i from Nat.mul_one i]; exact HC.out))) ?_;refine aH 1 ?_;go_upto_region 7 with fail;refine aJ 2 ?_;refine alM (y5 rfl) ?_;refine aG rfl (jq rfl (ev rfl) (ev rfl) (ev rfl) HRN.out) ?_;simp only [aa];refine ah ?_;go_upto_region 8 with fail;refine af ?_;refine alM (bP rfl alW evk HA) ?_;refine aH 1 ?_;go_wp2_with fail;go_roundw
   case rel => exact ⟨i + 1, by go_num, HI, HMN, HRD, HHN, HWN⟩
   case measure => have := HI.out; simp [intOf]; omega
  have hin : i = D.length := by omega
  have HT : Hid (decide ((i : Int) < (D.length : Int)) = false) := ae (am (by omega));have HSD : Hid (MapU wr bm D) := ae (by have := HSr.out; rwa [hin, List.take_length] at this);clear hlt hi hin;go_upto_region 5 with fail;refine af ?_;refine alM (aY false rfl alW alW HT) ?_;refine ah ?_;go_upto_region 9 with fail;refine aJ 1 ?_;refine alM (dV bg rfl alW) ?_;refine aH 1 ?_;have HLD : Hid (RdE bg wr wr.heap.size A l.length l) := ae (((HL.out).below (by rw [HBM.out]; exact HWr)).more HWr.out.size);go_wp2_with fail
  go_loopw [9, 27] (fun u c wx => ∃ i : Nat, c = .int .i64 i /\ i <= l.length /\ MapU wx bm (fm D (l.take i)) /\ (fm D (l.take i)).length <= s.room /\ PRu wx t lp mp FL (kyL s.dty s.o) s.o.length m s.ln s.N s.T s.room r /\ Below bm w wx) (fun _ c _ => l.length - (intOf c).toNat)
  case atStart => exact ⟨0, by go_num, Nat.zero_le _, HSD, HDR, HHr, HWr⟩
  case round =>
   obtain ⟨i, rfl, hi, hs, hrm, hh, hb⟩ := hrel;have HSx := ae hs;have HHx := ae hh;have HWx := ae hb;have HRM := ae hrm;clear hs hh hb hrm;by_cases hlt : i < l.length
   ·have HI := ae hlt;have HT2 : Hid (decide ((i : Int) < (l.length : Int)) = true) := ae (ao (by omega));have HA : Hid (IntKind.i64.wrap ((i : Int) + 1) = ((i + 1 : Nat) : Int)) := ae (by have := HBG.out; rw [eF ⟨by omega, by omega⟩]; omega);obtain ⟨b, off, hA, _, hc⟩ := ((HL.out).below (by rw [HBM.out]; exact HWx)).int (k := i) hlt;subst hA;have HC := ae hc;have hr64 := HOK.out.r64;obtain ⟨wn, hrn, hmn, htn⟩ := HSx.out.store (HLW.out i hlt) (by unfold maxLen; have := HRM.out; omega);obtain ⟨U, hU⟩ : ∃ U, fm D (l.take (i + 1)) = U := ⟨_, rfl⟩;have hst : (if (fm D (l.take i)).contains (l.getD i 0) = true then fm D (l.take i) else fm D (l.take i) ++ [l.getD i 0]) = U := by
     rw [<- hU, wR hlt, qF]
    rw [hst] at hmn;have hg := htn.grown;have hlow : ∀ q, qS t mp FL m q -> q ≠ bm := fun q hq e => by
     have := HH0.out.size q hq;rw [HBM.out] at this;omega
    have HRN := ae hrn;have HMN := ae hmn;have HHN := ae (HHx.out.only (fO (F := fun j => j = bm) htn rfl) hlow);have HWN : Hid (Below bm w wn) := ae ((HWx.out).grown hg (ar (Nat.le_of_eq HBM.out.symm) HWx.out.size) fun j hj => by injection hj with hj; subst hj; exact aj);have HUQ := ae hU;clear hi hlt hc hrn hmn htn hst hg hlow hr64 hU;go_upto_region 10 with fail;refine af ?_;refine alM (aY true rfl alW alW HT2) ?_;refine ah ?_;go_upto_region 11 with fail;refine af ?_;refine alM (cu (E := bg) rfl alW alW HI) ?_;refine alM (aE rfl alW (bV (by rw [show i * bg.n = i from Nat.mul_one i]; exact HC.out))) ?_;refine aH 1 ?_;go_upto_region 12 with fail;refine aJ 2 ?_;refine alM (y5 rfl) ?_;refine aG rfl (jq rfl (ev rfl) (ev rfl) (ev rfl) HRN.out) ?_;simp only [aa];refine ah ?_;go_upto_region 13 with fail;refine aT (B := wn.heap.size) (by kernel_rfl) ?_;refine cT 1 ?_;refine alU (fun _ hw => aak rfl alW (MapU.below HMN hw)) ?_;refine cT 2 ?_;refine alU (fun _ hw => ax rfl alW kr) ?_;refine alU (fun _ hw => aE rfl alW (oc (PRu.c3 (HHN.out.below hw)))) ?_;refine ch rfl (fun _ => aB call71 rfl (evc alW evn)) (bO aj fun _ hw => (aeJ _ (HHN.out.below hw).li).mono fun _ _ h => ⟨h.1, by rw [<- h.2]; exact ak⟩) ?_;simp only [aa];by_cases hq : s.room < U.length
    ·have HQ : Hid (decide ((s.room : Int) < (U.length : Int)) = true) := ae (ao (by omega));have HFF : Hid (ft = false) := ae (by
      rw [HF0.out];have := abp D l (i + 1);rw [HUQ.out] at this;exact am (by omega))
     clear hq;refine alU (fun _ hw => ey true rfl alW alW HQ) ?_;refine wpQuiet_nil ?_;intro w13 hw;have HWZ := ae (HWN.out.trans (hw.mono (ar (Nat.le_of_eq HBM.out.symm) HWN.out.size)));clear hw;go_wp2_with fail;go_ret;exact ⟨by rw [HFF.out]; rfl, by rw [HBM.out]; exact HWZ⟩
    have HQ : Hid (decide ((s.room : Int) < (U.length : Int)) = false) := ae (am (by omega));have HQ2 : Hid (U.length <= s.room) := ae (by omega);clear hq;refine alU (fun _ hw => ey false rfl alW alW HQ) ?_;refine wpQuiet_nil ?_;intro w13 hw;have HWZ := ae (HWN.out.trans (hw.mono (ar (Nat.le_of_eq HBM.out.symm) HWN.out.size)));have HMZ := ae (MapU.below HMN hw);have HHZ := ae (HHN.out.below hw);clear hw;go_upto_region 15 with fail;refine af ?_;refine alM (bP rfl alW evk HA) ?_;refine aH 1 ?_;go_wp2_with fail;go_roundw
    case rel => exact ⟨i + 1, by go_num, HI, by rw [HUQ.out]; exact HMZ, by rw [HUQ.out]; exact HQ2, HHZ, HWZ⟩
    case measure => have := HI.out; simp [intOf]; omega
   have hin : i = l.length := by omega
   have HT2 : Hid (decide ((i : Int) < (l.length : Int)) = false) := ae (am (by omega));have HFF : Hid (ft = true) := ae (by
    rw [HF0.out];have := HRM.out;rw [hin, List.take_length] at this;exact ao this)
   clear hlt hi hin;go_upto_region 10 with fail;refine af ?_;refine alM (aY false rfl alW alW HT2) ?_;refine ah ?_;go_wp2_with fail;go_ret;exact ⟨by rw [HFF.out]; rfl, by rw [HBM.out]; exact HWx⟩
end
def pPl (N n : Nat) : Nat := N - 1 - n % N
def lw (N n : Nat) (x : Cl) : Bool := decide (x.s = (n : Int)) && decide (x.m = ((pPl N n : Nat) : Int))
section
variable {s : ShS} {Q i : Nat} {c : List dP}
theorem mD (hi : i < c.length) : (c.map cG).getD i kt = cG (c.getD i dA) := by
 rw [List.getD, List.getElem?_map, List.getD, List.getElem?_eq_getElem hi]
 rfl
theorem afI (hi : i < c.length) : (c.take (i + 1)).map dP.n = (c.take i).map dP.n ++ [(c.getD i dA).n] := by
 rw [List.take_add_one, List.getElem?_eq_getElem hi, List.map_append, List.getD, List.getElem?_eq_getElem hi]
 rfl
theorem adS {f : dP -> Bool} (hi : i < c.length) : (c.take (i + 1)).all f = ((c.take i).all f && f (c.getD i dA)) := by
 rw [List.take_add_one, List.getElem?_eq_getElem hi, List.getD, List.getElem?_eq_getElem hi, List.all_append];simp
theorem agU {f : dP -> Bool} (hi : i < c.length) (h : f (c.getD i dA) = false) : c.all f = false := by
 rw [Bool.eq_false_iff];intro e;have := List.all_eq_true.1 e (c.getD i dA) (by rw [List.getD, List.getElem?_eq_getElem hi]; exact List.getElem_mem hi);rw [h] at this;cases this
structure akA (s : ShS) (Q : Nat) (c : List dP) (i k m : Nat) : Prop where
 mN : m < s.N
 n : (c.getD i dA).n = (k : Int)
 m : (c.getD i dA).m = (m : Int)
 kT : k < s.T
 ok : co ((c.take i).foldl (dH Q) s)
 T : ((c.take i).foldl (dH Q) s).T = s.T
 tok : co (((c.take i).foldl (dH Q) s).tch k)
 tT : (((c.take i).foldl (dH Q) s).tch k).T = s.T
 tln : (((c.take i).foldl (dH Q) s).tch k).ln k = some (((c.take i).foldl (dH Q) s).bZ k)
 nxt : (c.take (i + 1)).foldl (dH Q) s = (((c.take i).foldl (dH Q) s).tch k).dk k (some (eG (((c.take i).foldl (dH Q) s).bZ k) (c.getD i dA).m (c.getD i dA).b Q))
 nok : co ((c.take (i + 1)).foldl (dH Q) s)
 tb : ((c.take i).foldl (dH Q) s).eH k = true
 n0 : Q ≠ 0
theorem adG (h : co s) (hq : gC s Q c = 0) (hQ : Q < 18446744073709551616) (hi : i < c.length) : ∃ k m : Nat, akA s Q c i k m := by
 obtain ⟨h1, h2, h3⟩ := oM hq;have hx : c.getD i dA ∈ c := by rw [List.getD, List.getElem?_eq_getElem hi]; exact List.getElem_mem hi
 have hp := h1 _ hx;obtain ⟨k, m, e1, hk, e2, hmN⟩ := f7 hp;have ih := iy h hq hQ i (Nat.le_of_lt hi);have ih1 := iy h hq hQ (i + 1) hi;have hs := ih.step (p := c.getD i dA) h3 hp ((kF _ _).2 (.inr (List.mem_map.2 ⟨_, hx, rfl⟩))) h2 hQ;have ek : (c.getD i dA).n.toNat = k := by omega
 rw [ek] at hs;have ht := gW hs.1;refine ⟨k, m, hmN, e1, e2, hk, ih.ok, ih.T, hs.2.1, (ShS.mO _ _).2.1.trans ih.T, ht, ?_, ih1.ok, hs.1, h2⟩;rw [fh _ _ (d := dA) hi];generalize (c.take i).foldl (dH Q) s = s1 at *;unfold dH;rw [ek, dp ht]
structure aku (s2 : ShS) (c : List dP) (i k : Nat) : Prop where
 ok : co ((c.take i).foldl (cU c) s2)
 N : ((c.take i).foldl (cU c) s2).N = s2.N
 T : ((c.take i).foldl (cU c) s2).T = s2.T
 ln : ((c.take i).foldl (cU c) s2).ln k = some (((c.take i).foldl (cU c) s2).bZ k)
 yes : (c.map cG).any (lw ((c.take i).foldl (cU c) s2).N k) = true -> (c.take (i + 1)).foldl (cU c) s2 = (c.take i).foldl (cU c) s2
 no : (c.map cG).any (lw ((c.take i).foldl (cU c) s2).N k) = false -> (c.take (i + 1)).foldl (cU c) s2 = ((c.take i).foldl (cU c) s2).dk k (some (gw (((c.take i).foldl (cU c) s2).bZ k) ((pPl ((c.take i).foldl (cU c) s2).N k : Nat) : Int)))
 nok : co ((c.take (i + 1)).foldl (cU c) s2)
theorem zQ (N k : Nat) : (c.map cG).any (lw N k) = qV N c (k : Int) := by
 rw [List.any_map];unfold qV
 congr 1
theorem acp {s2 : ShS} {k : Nat} (h : co s2) (hp : ∀ x ∈ c, (s2.ln x.n.toNat).isSome = true) (hi : i < c.length) (hn : (c.getD i dA).n = (k : Int)) : aku s2 c i k := by
 have hx : c.getD i dA ∈ c := by rw [List.getD, List.getElem?_eq_getElem hi]; exact List.getElem_mem hi
 have ih := js h c hp i (Nat.le_of_lt hi);have ih1 := js h c hp (i + 1) hi;have ek : (c.getD i dA).n.toNat = k := by omega
 have hl : (((c.take i).foldl (cU c) s2).ln k).isSome = true := by rw [ih.some, <- ek]; exact hp _ hx
 obtain ⟨y, hy⟩ := Option.isSome_iff_exists.1 hl;refine ⟨ih.ok, ih.N, ih.T, by rw [hy, dp hy], fun e => ?_, fun e => ?_, ih1.ok⟩
 ·rw [zQ] at e;rw [fh _ _ (d := dA) hi];generalize (c.take i).foldl (cU c) s2 = s1 at *
  show cU c _ (c.getD i dA) = _
  unfold cU;rw [hn, if_pos e]
 ·rw [zQ] at e;rw [fh _ _ (d := dA) hi];generalize (c.take i).foldl (cU c) s2 = s1 at *
  show cU c _ (c.getD i dA) = _
  unfold cU pPl;rw [hn, if_neg (by rw [e]; decide), Int.toNat_natCast]
end
def stz (c : List dP) (n i : Nat) : List Int := (c.take i).map dP.n ++ List.replicate (n - i) 0
section
variable {c : List dP} {n i : Nat}
theorem ac3 : stz c n 0 = List.replicate n 0 := by simp [stz]
theorem afM (h : c.length = n) : stz c n n = c.map dP.n := by subst h; simp [stz]
theorem agx (h : c.length = n) (hi : i < n) : (stz c n i).set i (c.getD i dA).n = stz c n (i + 1) := by
 unfold stz;have hl : ((c.take i).map dP.n).length = i := by rw [List.length_map, List.length_take]; omega
 obtain ⟨d, hd⟩ : ∃ d, n - i = d + 1 := ⟨n - i - 1, by omega⟩;rw [List.set_append_right _ _ (by omega), hl, Nat.sub_self, hd, List.replicate_succ, List.set_cons_zero, show n - (i + 1) = d by omega, afI (by omega), List.append_assoc]
 rfl
end
theorem aji {w : World} {b k : Nat} {a : Int} (h : w.there b k 1) : (Instr.storeAt 3 (.pointer (some ⟨b, k, none⟩)) (.int .i64 a)).run prog w = .ok () (w.setCells b k (bg.cel a)) := by
 obtain ⟨h1, h2⟩ := h 0 (by omega);rw [Nat.add_zero] at h1 h2;obtain ⟨u, hu⟩ := Option.isSome_iff_exists.1 h1;simp [go_sem, hu, h2, bg, World.setCells]
section
variable {w : World} {t lp mp K : Nat} {FL : Nat -> Prop} {m : Nat -> Option Nat} {r : Int} {s : ShS}
theorem abO {Q nc cc : Nat} {A : Option Addr} {c : List dP} (h : PRu w t lp mp FL (kyL s.dty s.o) s.o.length m s.ln s.N s.T s.room r) (hok : co s) (hn0 : nc <= 1000000) (hc : RdE cd w w.heap.size A nc (c.map cG)) (hcn : c.length = nc) : Calls prog 50 #[.pointer (some ⟨t, 0, none⟩), .int .u64 (Q : Int), .slice A nc cc] w fun e w' => e = .returned (.int .i64 (gC s Q c)) /\ Below w.heap.size w w' := by
 have HH := ae h;have HOK := ae hok;have HC := ae hc;have HCN := ae hcn;have HN0 := ae hn0;have hmz := qP bg rfl w nc w.heap.size aj hn0;have hb1 := (Below.refl w.heap.size w).alloc aj (.cells (madeCells bg.z.cells (nc * bg.n)) bg.t);have HBZ := ae hb1;have HM0 : Hid (aQ bg (w.alloc (.cells (madeCells bg.z.cells (nc * bg.n)) bg.t)) w.heap.size (.slice (some ⟨w.heap.size, 0, none⟩) nc nc) (List.replicate nc 0)) := ae hmz;obtain ⟨pq, hpq⟩ : ∃ pq, gC s Q c = pq := ⟨_, rfl⟩;have HPQ := ae hpq;rw [hpq];clear h hok hc hcn hn0 hmz hb1 hpq;go_enter func50, ntmps50;go_upto_region 1 with fail;refine aJ 1 ?_;refine ay rfl (aB call55 rfl (evc alW evn)) ?_;refine (lJ HH).mono ?_;rintro e w' ⟨rfl, rfl⟩;refine aR ?_;refine aH 2 ?_;go_upto_region 3 with fail;refine aJ 1 ?_;by_cases hq : Q = 0
 ·have HE : Hid (((Q : Int) == 0) = true) := ae (by rw [hq]; rfl);have HZ : Hid (pq = 2) := ae (by
   rw [<- HPQ.out];unfold gC;rw [if_pos hq]
   split <;> rfl)
  clear hq;refine alM (aI true rfl alW evk HE) ?_;refine aH 1 ?_;go_wp2_with fail;go_ret;exact ⟨by rw [HZ.out]; rfl, ak⟩
 have HE : Hid (((Q : Int) == 0) = false) := ae (av (by omega));have HQ0 := ae hq;clear hq;refine alM (aI false rfl alW evk HE) ?_;refine aH 1 ?_;go_upto_region 5 with fail;refine aJ 1 ?_;refine alM (dV cd rfl alW) ?_;refine alM (qt (E := bg) rfl alW alW HN0) ?_;refine aH 1 ?_;generalize w.alloc (.cells (madeCells bg.z.cells (nc * bg.n)) bg.t) = w1 at *;obtain ⟨g, hg⟩ : ∃ g, w.heap.size = g := ⟨_, rfl⟩;rw [hg] at HM0 HBZ ⊢;have HG := ae hg;have HHg : Hid (∀ q, qS t mp FL m q -> q < g) := ae fun q hq => by have := HH.out.size q hq; omega
 clear hg;go_upto_region 6 with fail;refine aJ 1 ?_;refine alM (dV cd rfl alW) ?_;refine aH 1 ?_;go_wp2_with fail
 go_loopw [8, 9, 22] (fun _ _ y wr => ∃ i : Nat, y = .int .i64 i /\ i <= nc /\ (c.take i).all (fun x => s.plc x.n x.m) = true /\ aQ bg wr g (.slice (some ⟨g, 0, none⟩) nc nc) (stz c nc i) /\ Below g w wr) (fun _ _ y _ => nc - (intOf y).toNat)
 case atStart => exact ⟨0, by go_num, Nat.zero_le _, rfl, by rw [ac3]; exact HM0, HBZ⟩
 case round =>
  obtain ⟨i, rfl, hi, ha, hm, hb⟩ := hrel;have HAL := ae ha;have HM := ae hm;have HW := ae hb;have hb' : Below w.heap.size w wr := by rw [HG.out]; exact hb
  have HHr := ae (HH.out.below hb');have HCr := ae (HC.out.step hb');have HBS : Hid (g <= wr.heap.size) := ae (by have := hb'.size; rw [HG.out] at this; exact this);clear ha hm hb hb';by_cases hlt : i < nc
  ·have HI := ae hlt;have HIC : Hid (i < c.length) := ae (by rw [HCN.out]; exact hlt);have HT : Hid (decide ((i : Int) < (nc : Int)) = true) := ae (ao (by omega));have HADD : Hid (IntKind.i64.wrap ((i : Int) + 1) = ((i + 1 : Nat) : Int)) := ae (by have := HN0.out; rw [eF ⟨by omega, by omega⟩]; omega);obtain ⟨b, off, rfl, hbb, hcell⟩ := HCr.out.cl hlt;obtain ⟨x, hx⟩ : ∃ x, c.getD i dA = x := ⟨_, rfl⟩;rw [mD HIC.out, hx] at hcell;have HCL : Hid (wr.rangeAt b (off + i * cd.n) (eI (cG x))) := ae hcell;have HXX := ae hx;have HB3 : Hid (Below wr.heap.size wr (wr.alloc (.cells (eI (cG x)).toArray 56))) := ae (ak.alloc aj _);have HBX := ae (heap_alloc_new wr (.cells (eI (cG x)).toArray 56));clear hi hlt hcell hx hbb;go_upto_region 7 with fail;refine af ?_;refine alM (aY true rfl alW alW HT) ?_;refine ah ?_;go_upto_region 8 with fail;refine aJ 1 ?_;refine alM (cu (E := cd) rfl alW alW HI) ?_;refine alM (iN rfl alW HCL) ?_;refine alM (i4 rfl) ?_;refine runs 1 ?_;refine aG rfl (ka rfl (ev rfl) (ev rfl)) ?_;simp only [aa];refine ah ?_;obtain ⟨bx, hbx⟩ : ∃ bx, wr.heap.size = bx := ⟨_, rfl⟩;rw [hbx] at HBX ⊢;generalize wr.alloc (.cells (eI (cG x)).toArray 56) = w3 at *;have HH3 := ae (HHr.out.below HB3);have HW3 := ae (HW.out.trans (HB3.out.mono HBS));have HM3 := ae (HM.out.below HB3);have HBXG : Hid (g <= bx) := ae (by rw [<- hbx]; exact HBS);clear hbx;have HPS : Hid (w3.rangeAt bx 0 (er x.n x.m)) := ae (kO (c := cG x) (aP HBX));cases hp : s.plc x.n x.m
   ·have HP : Hid (decide (0 <= x.n /\ x.n < (s.T : Int) /\ 0 <= x.m /\ x.m < (s.N : Int)) = false) := ae hp;have HZ : Hid (pq = 2) := ae (by
     rw [<- HPQ.out];unfold gC;rw [agU HIC.out (by rw [HXX.out]; exact hp), if_neg (by decide)])
    clear hp;go_upto_region 9 with fail;refine aJ 1 ?_;refine alM (ax rfl alW uc) ?_;refine alM (fP rfl alW HPS) ?_;refine ay rfl (aB call57 rfl (evc alW (evc alW evn))) ?_;refine (fR x.n x.m HH3).mono ?_;rintro e w4 ⟨rfl, b4⟩;rw [HP.out];have HB4 := ae b4;clear b4;refine aR ?_;refine aH 1 ?_;go_wp2_with fail;go_ret;exact ⟨by rw [HZ.out]; rfl, by rw [HG.out]; exact HW3.out.trans (HB4.out.mono (ar HBS HB3.out.size))⟩
   have HP : Hid (decide (0 <= x.n /\ x.n < (s.T : Int) /\ 0 <= x.m /\ x.m < (s.N : Int)) = true) := ae hp;have HALN : Hid ((c.take (i + 1)).all (fun x => s.plc x.n x.m) = true) := ae (by rw [adS HIC.out, HAL.out, HXX.out]; exact hp);clear hp;go_upto_region 9 with fail;refine aJ 1 ?_;refine alM (ax rfl alW uc) ?_;refine alM (fP rfl alW HPS) ?_;refine ay rfl (aB call57 rfl (evc alW (evc alW evn))) ?_;refine (fR x.n x.m HH3).mono ?_;rintro e w4 ⟨rfl, b4⟩;rw [HP.out];have HB4 := ae b4;clear b4;refine aR ?_;refine aH 1 ?_;have HS34 : Hid (g <= w3.heap.size) := ae (ar HBS HB3.out.size);have HW4 := ae (HW3.out.trans (HB4.out.mono HS34));have HM4 := ae (HM3.out.below HB4);have HPL : Hid (w4.cell? ⟨bx, 0, none⟩ = some (.int .i64 x.n)) := ae (by have := (eU (kO (c := cG x) (aP (aC HBX HB4)))).1; exact this);have HTH : Hid (w4.there g (0 + i * bg.n) 1) := ae (by have := HM4.out.there HI (j := 0) (m := 1) aj; rw [Nat.add_zero] at this; rwa [Nat.zero_add]);have HM5 : Hid (aQ bg (w4.setCells g (0 + i * bg.n) (bg.cel x.n)) g (.slice (some ⟨g, 0, none⟩) nc nc) (stz c nc (i + 1))) := ae (by have := HM4.out.store HI x.n; rw [<- HXX.out, agx HCN.out HI.out, HXX.out] at this; rwa [Nat.zero_add]);have HW5 : Hid (Below g w (w4.setCells g (0 + i * bg.n) (bg.cel x.n))) := ae (below_setCells HW4 aj _);go_upto_region 11 with fail;refine aJ 2 ?_;refine alM (ax rfl alW uc) ?_;refine alM (ax rfl alW ku) ?_;refine alM (aE rfl alW (bV HPL)) ?_;refine alM (cu (E := bg) rfl alW alW HI) ?_;refine aG rfl (dh rfl (ev rfl) (ev rfl) (aji HTH.out)) ?_;simp only [aa];generalize w4.setCells g (0 + i * bg.n) (bg.cel x.n) = w5 at *;refine ah ?_;go_upto_region 12 with fail;refine af ?_;refine alM (bP rfl alW evk HADD) ?_;refine aH 1 ?_;go_wp2_with fail;go_roundw
   case rel => exact ⟨i + 1, by go_num, HI, HALN, HM5, HW5⟩
   case measure => have := HI.out; simp [intOf]; omega
  have hin : i = nc := by omega
  have HT : Hid (decide ((i : Int) < (nc : Int)) = false) := ae (am (by omega));have htk : c.take i = c := List.take_of_length_le (by rw [HCN.out]; omega);rw [htk] at HAL;have HMF : Hid (aQ bg wr g (.slice (some ⟨g, 0, none⟩) nc nc) (c.map dP.n)) := ae (by have := HM.out; rwa [hin, afM HCN.out] at this);have HSR : Hid (RdE bg wr wr.heap.size (some ⟨g, 0, none⟩) nc (c.map dP.n)) := ae (by have := aQ.rd HMF; exact this);have HWF : Hid (∀ x ∈ c.map dP.n, (Lit.int .i64 x).wf = true) := ae fun x hx => by
   obtain ⟨y, hy, rfl⟩ := List.mem_map.1 hx;have hp := List.all_eq_true.1 HAL y hy;obtain ⟨k, j, e1, hk, _, _⟩ := f7 hp;rw [e1];exact ic (by have := HOK.out.t64; omega)
  clear hlt hi hin htk;go_upto_region 7 with fail;refine af ?_;refine alM (aY false rfl alW alW HT) ?_;refine ah ?_;cases hf : s.fits (c.map dP.n)
  ·have HFI := ae hf;have HZ : Hid (pq = 10) := ae (by rw [<- HPQ.out]; unfold gC; rw [HAL.out, if_pos rfl, if_neg HQ0.out, hf, if_neg (by decide)]);clear hf;go_upto_region 13 with fail;refine aJ 2 ?_;refine ay rfl (aB call24 rfl (evc alW (evc alW evn))) ?_;refine (sL (l := c.map dP.n) HHr HOK HSR HWF (by rw [List.length_map]; have := HN0.out; have := HCN.out; omega)).mono ?_;rintro e wB ⟨rfl, b5⟩;rw [HFI.out];have HWB := ae (HW.out.trans (b5.mono HBS));clear b5;refine aR ?_;refine aH 1 ?_;go_wp2_with fail;go_ret;exact ⟨by rw [HZ.out]; rfl, by rw [HG.out]; exact HWB⟩
  have HFI := ae hf;have HZ : Hid (pq = 0) := ae (by rw [<- HPQ.out]; unfold gC; rw [HAL.out, if_pos rfl, if_neg HQ0.out, hf, if_pos rfl]);clear hf;go_upto_region 13 with fail;refine aJ 2 ?_;refine ay rfl (aB call24 rfl (evc alW (evc alW evn))) ?_;refine (sL (l := c.map dP.n) HHr HOK HSR HWF (by rw [List.length_map]; have := HN0.out; have := HCN.out; omega)).mono ?_;rintro e wB ⟨rfl, b5⟩;rw [HFI.out];have HWB := ae (HW.out.trans (b5.mono HBS));clear b5;refine aR ?_;refine aH 1 ?_;go_wp2_with fail;go_ret;exact ⟨by rw [HZ.out]; rfl, by rw [HG.out]; exact HWB⟩
end
end Go.Proofs.YtdmhelalbemlcaaGreatDoor
