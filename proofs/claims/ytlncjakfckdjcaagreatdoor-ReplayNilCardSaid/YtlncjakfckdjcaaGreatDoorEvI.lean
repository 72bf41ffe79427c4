/-
  Operations on numbers: the evaluator's and the model's. No statement.
-/
import Derived.Test.YtlncjakfckdjcaaGreatDoorEvM
set_option linter.all false
namespace Go.Ev
open Go
variable {P : Program} {G : Nat} {ε : Env} {h : H} {w : World}
theorem keq_eq {a b : IntKind} (e : keq a b = true) : a = b := by
  cases a <;> cases b <;> first | rfl | exact absurd e (by decide)
theorem big_pos (k : IntKind) : ∃ m, big k = 2 ^ m ∧ m ≤ k.bits :=
  ⟨bif k.signed then k.bits - 1 else k.bits, by cases k <;> rfl, by cases k <;> decide⟩
theorem wrap_small {k : IntKind} {m : Nat} (e : m < big k) : k.wrap (.ofNat m) = .ofNat m := by
  have h1 : (Int.ofNat m) = (m : Int) := rfl
  rw [h1]
  unfold IntKind.wrap
  cases k <;> simp only [big] at e <;> simp [IntKind.bits, IntKind.signed] <;> omega
theorem wr_eq (k : IntKind) (n : Int) : wr k n = k.wrap n := by
  unfold wr
  cases n with
  | ofNat m =>
    show (bif Nat.blt m (big k) then Int.ofNat m else k.wrap (.ofNat m)) = _
    cases hb : Nat.blt m (big k)
    · rfl
    · exact (wrap_small (Nat.lt_of_succ_le (by simpa [Nat.blt] using hb))).symm
  | negSucc m => rfl
theorem iadd_eq (a b : Int) : iadd a b = a + b := by cases a <;> cases b <;> rfl
theorem isub_eq (a b : Int) : isub a b = a - b := by
  cases a <;> cases b <;> try rfl
  rename_i a b
  show (bif Nat.ble b a then Int.ofNat (a - b) else Int.ofNat a - Int.ofNat b) = _
  cases hb : Nat.ble b a
  · rfl
  · have : b ≤ a := by simpa using hb
    show Int.ofNat (a - b) = _
    have h1 : (Int.ofNat (a - b)) = ((a - b : Nat) : Int) := rfl
    rw [h1, Int.natCast_sub this]; rfl
theorem ieq_eq (a b : Int) : ieq a b = (a == b) := by
  cases a with
  | ofNat a =>
    cases b with
    | ofNat b => rw [Bool.eq_iff_iff]; simp [ieq]; omega
    | negSucc b => simp [ieq]
  | negSucc a =>
    cases b with
    | ofNat b => simp [ieq]
    | negSucc b => rw [Bool.eq_iff_iff]; simp [ieq]
theorem ilt_eq (a b : Int) : ilt a b = decide (a < b) := by
  cases a with
  | ofNat a =>
    cases b with
    | ofNat b => rw [Bool.eq_iff_iff]; simp [ilt, Nat.blt]; omega
    | negSucc b => rw [Bool.eq_iff_iff]; simp [ilt]; omega
  | negSucc a =>
    cases b with
    | ofNat b => rw [Bool.eq_iff_iff]; simp [ilt]; omega
    | negSucc b => rw [Bool.eq_iff_iff]; simp [ilt, Nat.blt]; omega
theorem iop_R {op : BinOp} {k : IntKind} {x y : Int} {v : SV} (t : TypeId) (e : iop op k x y = some v) (hs : op ≠ .shl) (hr : op ≠ .shr) :
    ∃ v', (binOp op t (.int k x) (.int k y)).run P w = .ok v' w ∧ R ε v v' := by
  have land : ∀ a b : Nat, a < big k → Nat.land a b < big k := fun a b ha => Nat.lt_of_le_of_lt Nat.and_le_left ha
  cases op <;> simp only [iop] at e
  case add => cases e; exact ⟨.int k (k.wrap (x + y)), by simp [binOp, Op.intArith], by rw [wr_eq, iadd_eq]; exact .i _ _⟩
  case sub => cases e; exact ⟨.int k (k.wrap (x - y)), by simp [binOp, Op.intArith], by rw [wr_eq, isub_eq]; exact .i _ _⟩
  case mul =>
    split at e
    · rename_i a b
      cases e
      exact ⟨.int k (k.wrap (Int.ofNat a * Int.ofNat b)), by simp [binOp, Op.intArith], by rw [wr_eq]; exact .i _ _⟩
    · cases e
  case quo =>
    split at e
    · rename_i a b
      cases e
      refine ⟨.int k (k.wrap ((Int.ofNat a).tdiv (Int.ofNat (b + 1)))), ?_, ?_⟩
      · have hz : ¬ (Int.ofNat (b + 1) = 0) := by simp; omega
        simp only [binOp, ne_eq, not_true_eq_false, if_false, Op.intDiv, hz]
        rfl
      · rw [wr_eq]; exact .i _ _
    · cases e
  case rem =>
    split at e
    · rename_i a b
      cases e
      refine ⟨.int k ((Int.ofNat a).tmod (Int.ofNat (b + 1))), ?_, ?_⟩
      · have hz : ¬ (Int.ofNat (b + 1) = 0) := by simp; omega
        simp only [binOp, ne_eq, not_true_eq_false, if_false, Op.intDiv, hz]
        rfl
      · exact .i _ _
    · cases e
  case and =>
    split at e
    · rename_i a b
      cases hb : (Nat.blt a (big k) && Nat.blt b (big k))
      · simp [hb] at e
      · simp only [hb, cond_true, Option.some.injEq] at e
        subst e
        simp only [Bool.and_eq_true, Nat.blt, Nat.ble_eq] at hb
        obtain ⟨m, hm, hk⟩ := big_pos k
        have hp := Nat.pow_le_pow_right (n := 2) (by decide) hk
        refine ⟨.int k (k.wrap ((BitVec.ofInt k.bits (Int.ofNat a) &&& BitVec.ofInt k.bits (Int.ofNat b)).toNat : Int)), by simp only [binOp, ne_eq, not_true_eq_false, if_false, Op.intBits]; rfl, ?_⟩
        have h1 : (BitVec.ofInt k.bits (Int.ofNat a) &&& BitVec.ofInt k.bits (Int.ofNat b)).toNat = Nat.land a b := by
          rw [BitVec.toNat_and]
          show (BitVec.ofInt k.bits (a : Int)).toNat &&& (BitVec.ofInt k.bits (b : Int)).toNat = _
          rw [BitVec.ofInt_natCast, BitVec.ofInt_natCast, BitVec.toNat_ofNat, BitVec.toNat_ofNat, Nat.mod_eq_of_lt (by omega), Nat.mod_eq_of_lt (by omega)]
          rfl
        rw [h1, show ((Nat.land a b : Nat) : Int) = Int.ofNat (Nat.land a b) from rfl, wrap_small (land a b (by omega))]
        exact .i _ _
    · cases e
  case or =>
    split at e
    · rename_i a b
      cases hb : (Nat.blt a (big k) && Nat.blt b (big k))
      · simp [hb] at e
      · simp only [hb, cond_true, Option.some.injEq] at e
        subst e
        simp only [Bool.and_eq_true, Nat.blt, Nat.ble_eq] at hb
        obtain ⟨m, hm, hk⟩ := big_pos k
        have hp := Nat.pow_le_pow_right (n := 2) (by decide) hk
        refine ⟨.int k (k.wrap ((BitVec.ofInt k.bits (Int.ofNat a) ||| BitVec.ofInt k.bits (Int.ofNat b)).toNat : Int)), by simp only [binOp, ne_eq, not_true_eq_false, if_false, Op.intBits]; rfl, ?_⟩
        have h1 : (BitVec.ofInt k.bits (Int.ofNat a) ||| BitVec.ofInt k.bits (Int.ofNat b)).toNat = Nat.lor a b := by
          rw [BitVec.toNat_or]
          show (BitVec.ofInt k.bits (a : Int)).toNat ||| (BitVec.ofInt k.bits (b : Int)).toNat = _
          rw [BitVec.ofInt_natCast, BitVec.ofInt_natCast, BitVec.toNat_ofNat, BitVec.toNat_ofNat, Nat.mod_eq_of_lt (by omega), Nat.mod_eq_of_lt (by omega)]
          rfl
        have h2 : Nat.lor a b < big k := by rw [hm]; exact Nat.or_lt_two_pow (by omega) (by omega)
        rw [h1, show ((Nat.lor a b : Nat) : Int) = Int.ofNat (Nat.lor a b) from rfl, wrap_small h2]
        exact .i _ _
    · cases e
  case xor =>
    split at e
    · rename_i a b
      cases hb : (Nat.blt a (big k) && Nat.blt b (big k))
      · simp [hb] at e
      · simp only [hb, cond_true, Option.some.injEq] at e
        subst e
        simp only [Bool.and_eq_true, Nat.blt, Nat.ble_eq] at hb
        obtain ⟨m, hm, hk⟩ := big_pos k
        have hp := Nat.pow_le_pow_right (n := 2) (by decide) hk
        refine ⟨.int k (k.wrap ((BitVec.ofInt k.bits (Int.ofNat a) ^^^ BitVec.ofInt k.bits (Int.ofNat b)).toNat : Int)), by simp only [binOp, ne_eq, not_true_eq_false, if_false, Op.intBits]; rfl, ?_⟩
        have h1 : (BitVec.ofInt k.bits (Int.ofNat a) ^^^ BitVec.ofInt k.bits (Int.ofNat b)).toNat = Nat.xor a b := by
          rw [BitVec.toNat_xor]
          show (BitVec.ofInt k.bits (a : Int)).toNat ^^^ (BitVec.ofInt k.bits (b : Int)).toNat = _
          rw [BitVec.ofInt_natCast, BitVec.ofInt_natCast, BitVec.toNat_ofNat, BitVec.toNat_ofNat, Nat.mod_eq_of_lt (by omega), Nat.mod_eq_of_lt (by omega)]
          rfl
        have h2 : Nat.xor a b < big k := by rw [hm]; exact Nat.xor_lt_two_pow (by omega) (by omega)
        rw [h1, show ((Nat.xor a b : Nat) : Int) = Int.ofNat (Nat.xor a b) from rfl, wrap_small h2]
        exact .i _ _
    · cases e
  case eql => cases e; exact ⟨.bool (x == y), by simp [binOp, Op.intCmp]; try rfl, by rw [ieq_eq]; exact .b _⟩
  case neq => cases e; exact ⟨.bool (!(x == y)), by simp [binOp, Op.intCmp]; try rfl, by rw [ieq_eq]; exact .b _⟩
  case lss => cases e; exact ⟨.bool (decide (x < y)), by simp [binOp, Op.intCmp]; try rfl, by rw [ilt_eq]; exact .b _⟩
  case leq =>
    cases e
    exact ⟨.bool (decide (x ≤ y)), by simp [binOp, Op.intCmp], by
      rw [ilt_eq, show (!decide (y < x)) = decide (x ≤ y) by by_cases hc : y < x <;> simp [hc] <;> omega]; exact .b _⟩
  case gtr => cases e; exact ⟨.bool (decide (x > y)), by simp [binOp, Op.intCmp], by rw [ilt_eq]; exact .b _⟩
  case geq =>
    cases e
    exact ⟨.bool (decide (x ≥ y)), by simp [binOp, Op.intCmp], by
      rw [ilt_eq, show (!decide (x < y)) = decide (x ≥ y) by by_cases hc : x < y <;> simp [hc] <;> omega]; exact .b _⟩
  all_goals cases e
/-- what the law of a type that is compared as rows of numbers says -/
def EqOk (P : Program) (t : TypeId) : Prop := P.eqGuardType P.depth t = false ∧ ∀ (w : World) (n : Nat) (l m : List (IntKind × Int)), szOf P t = some n → l.length = n → m.length = n → l.map (·.1) = m.map (·.1) →
  (Op.equal t (.agg (l.map fun x => Value.int x.1 x.2).toArray) (.agg (m.map fun x => Value.int x.1 x.2).toArray)).run P w = .ok (l == m) w
end Go.Ev
