/-
  Plain mathematics of the sum, no program: a step, what so many steps make of a number, a byte that is taken in, bytes one behind the other.
-/
import Derived.Test.YtlncjakfckdjcaaGreatDoorMath
namespace Go.Proofs.YtlncjakfckdjcaaGreatDoor
set_option maxRecDepth 100000

/-- A step of a number. -/
def stp (r : Nat) : Nat := if r % 2 = 1 then r / 2 ^^^ 2197175160 else r / 2
/-- So many steps. -/
def steps : Nat → Nat → Nat
  | 0, r => r
  | n + 1, r => steps n (stp r)
/-- A byte is taken in. -/
def tak (r c : Nat) : Nat := steps 8 (r ^^^ c)
/-- Bytes are taken in, one behind the other. -/
def run (r : Nat) (l : List UInt8) : Nat := l.foldl (fun r u => tak r u.toNat) r
def negm (m r : Nat) : Nat := m ^^^ r
def neg (r : Nat) : Nat := negm 4294967295 r
/-- The sum that goes on behind a sum. -/
def more (s : Nat) (l : List UInt8) : Nat := neg (run (neg s) l)
/-- What four steps make of half a byte. -/
def tab (i : Nat) : Nat := [0, 274646895, 549293790, 820201905, 1098587580, 1361435347, 1640403810, 1905808397, 2197175160, 2460548119, 2722870694, 2987750089, 3280807620, 3553878443, 3811616794, 4084100981].getD i 0
def hlf (r : Nat) : Nat := r / 16 ^^^ tab (r % 16)

theorem xor_lt {a b : Nat} (ha : a < 4294967296) (hb : b < 4294967296) : a ^^^ b < 4294967296 := Nat.xor_lt_two_pow (n := 32) ha hb
theorem stp_lt {r : Nat} (h : r < 4294967296) : stp r < 4294967296 := by
  unfold stp
  split
  · exact xor_lt (by omega) (by omega)
  · omega
theorem steps_lt (n : Nat) {r : Nat} (h : r < 4294967296) : steps n r < 4294967296 := by
  induction n generalizing r with
  | zero => exact h
  | succ n ih => exact ih (stp_lt h)
theorem tak_lt {r c : Nat} (h : r < 4294967296) (hc : c < 256) : tak r c < 4294967296 := steps_lt 8 (xor_lt h (by omega))
theorem run_lt {r : Nat} (h : r < 4294967296) (l : List UInt8) : run r l < 4294967296 := by
  induction l generalizing r with
  | nil => exact h
  | cons u l ih => exact ih (tak_lt h (UInt8.toNat_lt u))
theorem neg_lt {r : Nat} (h : r < 4294967296) : neg r < 4294967296 := xor_lt (by omega) h
theorem more_lt {s : Nat} (h : s < 4294967296) (l : List UInt8) : more s l < 4294967296 := neg_lt (run_lt (neg_lt h) l)
theorem negm_negm (m r : Nat) : negm m (negm m r) = r := by
  unfold negm
  rw [← Nat.xor_assoc, Nat.xor_self, Nat.zero_xor]
theorem neg_neg (r : Nat) : neg (neg r) = r := negm_negm 4294967295 r
theorem xor_negm (m r : Nat) : r ^^^ negm m r = m := by
  unfold negm
  rw [Nat.xor_comm m, ← Nat.xor_assoc, Nat.xor_self, Nat.zero_xor]
theorem xor_neg (r : Nat) : r ^^^ neg r = 4294967295 := xor_negm 4294967295 r
theorem neg_inj {a b : Nat} (h : neg a = neg b) : a = b := by
  rw [← neg_neg a, h, neg_neg]
theorem run_append (r : Nat) (a b : List UInt8) : run r (a ++ b) = run (run r a) b := by unfold run; rw [List.foldl_append]
theorem more_append (s : Nat) (a b : List UInt8) : more s (a ++ b) = more (more s a) b := by
  unfold more
  rw [neg_neg, run_append]

/-! Steps leave the exclusive or of two numbers. -/
theorem half_xor (a b : Nat) : (a ^^^ b) / 2 = a / 2 ^^^ b / 2 := by
  have h : (a ^^^ b) >>> 1 = a >>> 1 ^^^ b >>> 1 := Nat.shiftRight_xor_distrib
  simpa [Nat.shiftRight_succ] using h
theorem low_xor (a b : Nat) : (a ^^^ b) % 2 = 1 ↔ ¬ (a % 2 = 1 ↔ b % 2 = 1) := by
  have h : ((a ^^^ b) % 2 ^ 1) = (a % 2 ^ 1) ^^^ (b % 2 ^ 1) := Nat.xor_mod_two_pow
  rw [show (2 : Nat) ^ 1 = 2 from rfl] at h
  rw [h]
  rcases Nat.mod_two_eq_zero_or_one a with ha | ha <;> rcases Nat.mod_two_eq_zero_or_one b with hb | hb <;> rw [ha, hb] <;> decide
theorem xor4 (a b c d : Nat) : (a ^^^ b) ^^^ (c ^^^ d) = (a ^^^ c) ^^^ (b ^^^ d) := by
  rw [Nat.xor_assoc, ← Nat.xor_assoc b c d, Nat.xor_comm b c, Nat.xor_assoc c b d, ← Nat.xor_assoc]
theorem stp_xor (a b : Nat) : stp (a ^^^ b) = stp a ^^^ stp b := by
  unfold stp
  rw [half_xor]
  have hl := low_xor a b
  by_cases ha : a % 2 = 1 <;> by_cases hb : b % 2 = 1
  · rw [if_neg (by rw [hl]; simp [ha, hb]), if_pos ha, if_pos hb, xor4, Nat.xor_self, Nat.xor_zero]
  · rw [if_pos (by rw [hl]; simp [ha, hb]), if_pos ha, if_neg hb, Nat.xor_assoc, Nat.xor_comm (b / 2), ← Nat.xor_assoc]
  · rw [if_pos (by rw [hl]; simp [ha, hb]), if_neg ha, if_pos hb, Nat.xor_assoc]
  · rw [if_neg (by rw [hl]; simp [ha, hb]), if_neg ha, if_neg hb]
theorem steps_xor (n a b : Nat) : steps n (a ^^^ b) = steps n a ^^^ steps n b := by
  induction n generalizing a b with
  | zero => rfl
  | succ n ih => rw [steps, stp_xor, ih]; rfl
theorem steps_add (m n r : Nat) : steps (m + n) r = steps n (steps m r) := by
  induction m generalizing r with
  | zero => rw [Nat.zero_add]; rfl
  | succ m ih => rw [Nat.succ_add, steps, ih]; rfl
theorem stp_double (x : Nat) : stp (2 * x) = x := by
  unfold stp
  rw [if_neg (by omega)]
  omega
theorem steps_shift (n x : Nat) : steps n (2 ^ n * x) = x := by
  induction n with
  | zero => simp [steps]
  | succ n ih => rw [steps, Nat.pow_succ, Nat.mul_comm (2 ^ n) 2, Nat.mul_assoc, stp_double, ih]
theorem steps_zero (n : Nat) : steps n 0 = 0 := by
  have := steps_shift n 0
  simpa using this
/-- A number's low bits beside the others. -/
theorem parts_xor {n t : Nat} (q : Nat) (h : t < 2 ^ n) : 2 ^ n * q ^^^ t = 2 ^ n * q + t := by
  apply Nat.eq_of_testBit_eq
  intro i
  rw [Nat.testBit_xor, Nat.testBit_two_pow_mul_add q h, Nat.testBit_two_pow_mul]
  by_cases hi : i < n
  · simp [hi, Nat.not_le.2 hi]
  · have : t.testBit i = false := Nat.testBit_lt_two_pow (Nat.lt_of_lt_of_le h (Nat.pow_le_pow_right (by omega) (by omega)))
    simp [hi, this, Nat.le_of_not_lt hi]
theorem hlf_steps (r : Nat) : hlf r = steps 4 r := by
  have e : r = 2 ^ 4 * (r / 16) ^^^ r % 16 := by
    rw [parts_xor (n := 4) _ (by omega)]
    omega
  have h : ∀ t, t < 16 → tab t = steps 4 t := by decide
  conv => rhs; rw [e, steps_xor, steps_shift]
  unfold hlf
  rw [h _ (by omega)]
theorem tak_hlf (r c : Nat) : hlf (hlf (r ^^^ c)) = tak r c := by
  rw [hlf_steps, hlf_steps, ← steps_add]
  rfl

/-! Bytes that are taken in one behind the other are a number that is stepped. -/
theorem run_steps (r : Nat) (l : List UInt8) : run r l = steps (8 * l.length) (r ^^^ val 8 l) := by
  induction l generalizing r with
  | nil => simp [run, steps, val]
  | cons u l ih =>
    have e : run r (u :: l) = run (tak r u.toNat) l := rfl
    have hv : val 8 (u :: l) = 2 ^ 8 * val 8 l ^^^ u.toNat := by
      rw [parts_xor (n := 8) _ (UInt8.toNat_lt u), val]
      omega
    rw [e, ih, List.length_cons, Nat.mul_succ, Nat.add_comm, steps_add, hv, Nat.xor_comm (2 ^ 8 * val 8 l), ← Nat.xor_assoc, steps_xor 8 (r ^^^ u.toNat), steps_shift]
    rfl
theorem stp_inj {a b : Nat} (ha : a < 4294967296) (hb : b < 4294967296) (h : stp a = stp b) : a = b := by
  have hx : stp (a ^^^ b) = 0 := by rw [stp_xor, h, Nat.xor_self]
  have hl := xor_lt ha hb
  have hz : a ^^^ b = 0 := by
    generalize a ^^^ b = x at *
    unfold stp at hx
    split at hx
    · have h1 : x / 2 = 2197175160 := by
        have := congrArg (· ^^^ 2197175160) hx
        simpa [Nat.xor_assoc] using this
      omega
    · omega
  have := congrArg (· ^^^ b) hz
  simpa [Nat.xor_assoc] using this
theorem steps_inj (n : Nat) {a b : Nat} (ha : a < 4294967296) (hb : b < 4294967296) (h : steps n a = steps n b) : a = b := by
  induction n generalizing a b with
  | zero => exact h
  | succ n ih => exact stp_inj ha hb (ih (stp_lt ha) (stp_lt hb) h)
theorem xor_inj {r a b : Nat} (h : r ^^^ a = r ^^^ b) : a = b := by
  have := congrArg (r ^^^ ·) h
  simpa [← Nat.xor_assoc] using this
theorem run_inj {a b : Nat} (ha : a < 4294967296) (hb : b < 4294967296) (l : List UInt8) (h : run a l = run b l) : a = b := by
  induction l generalizing a b with
  | nil => exact h
  | cons u l ih =>
    have h2 := ih (tak_lt ha (UInt8.toNat_lt u)) (tak_lt hb (UInt8.toNat_lt u)) h
    have hu := UInt8.toNat_lt u
    have h3 := steps_inj 8 (xor_lt ha (by omega)) (xor_lt hb (by omega)) h2
    rw [Nat.xor_comm a, Nat.xor_comm b] at h3
    exact xor_inj h3
theorem val8_lt {l : List UInt8} (h : l.length ≤ 4) : val 8 l < 4294967296 := by
  have h1 := val_lt (all_256 l)
  have h2 : 2 ^ (8 * l.length) ≤ 2 ^ (8 * 4) := Nat.pow_le_pow_right (by omega) (Nat.mul_le_mul_left 8 h)
  exact Nat.lt_of_lt_of_le h1 h2
theorem val8_inj {a b : List UInt8} (hl : a.length = b.length) (h : val 8 a = val 8 b) : a = b := by
  rw [← digL_val (all_256 a), ← digL_val (all_256 b), hl, h]
/-- One row of up to four bytes changed is told. -/
theorem run_row {r : Nat} (hr : r < 4294967296) (p q q' s : List UInt8) (hl : q.length = q'.length) (h4 : q.length ≤ 4) (h : run r (p ++ q ++ s) = run r (p ++ q' ++ s)) : q = q' := by
  have hp := run_lt hr p
  rw [run_append, run_append, run_append, run_append] at h
  have h2 := run_inj (run_lt hp q) (run_lt hp q') s h
  rw [run_steps (run r p) q, run_steps (run r p) q', ← hl] at h2
  exact val8_inj hl (xor_inj (steps_inj _ (xor_lt hp (val8_lt h4)) (xor_lt hp (val8_lt (by omega))) h2))
/-- Bytes with their sum behind them have one sum. -/
theorem run_behind (r : Nat) (q : List UInt8) (h4 : q.length = 4) (hv : val 8 q = neg r) : run r q = run 4294967295 [0, 0, 0, 0] := by
  rw [run_steps, run_steps, hv, h4, xor_neg]
  rfl
end Go.Proofs.YtlncjakfckdjcaaGreatDoor
