/-
  Plain arithmetic, no program: a row of digits of w bits each, the lowest first, and the number that it comes to.
-/
namespace Go.Proofs.YtlncjakfckdjcaaGreatDoor
set_option maxRecDepth 100000

/-- The number of a row of digits of w bits each, the lowest first. -/
def val (w : Nat) : List UInt8 → Nat
  | [] => 0
  | u :: r => u.toNat + 2 ^ w * val w r
/-- The first n digits of w bits each of a number. -/
def digL (w n V : Nat) : List UInt8 := (List.range n).map fun j => UInt8.ofNat (V / 2 ^ (w * j) % 2 ^ w)

theorem length_digL (w n V : Nat) : (digL w n V).length = n := by simp [digL]
theorem mod_pow_le {w : Nat} (hw : w ≤ 8) (x : Nat) : x % 2 ^ w < 256 := by
  have h1 : x % 2 ^ w < 2 ^ w := Nat.mod_lt _ (Nat.pow_pos (by omega))
  have h2 : 2 ^ w ≤ 2 ^ 8 := Nat.pow_le_pow_right (by omega) hw
  omega
theorem getElem_digL {w n V j : Nat} (hw : w ≤ 8) (h : j < (digL w n V).length) : ((digL w n V)[j]).toNat = V / 2 ^ (w * j) % 2 ^ w := by
  simp only [digL, List.getElem_map, List.getElem_range, UInt8.toNat_ofNat']
  exact Nat.mod_eq_of_lt (mod_pow_le hw _)
theorem digL_succ (w n V : Nat) : digL w (n + 1) V = UInt8.ofNat (V % 2 ^ w) :: digL w n (V / 2 ^ w) := by
  simp only [digL, List.range_succ_eq_map, List.map_cons, List.map_map]
  congr 1
  · simp
  · apply List.map_congr_left
    intro j _
    simp only [Function.comp]
    rw [Nat.div_div_eq_div_mul, ← Nat.pow_add]
    congr 3
    rw [Nat.mul_succ, Nat.add_comm]
theorem digL_snoc (w n V : Nat) : digL w (n + 1) V = digL w n V ++ [UInt8.ofNat (V / 2 ^ (w * n) % 2 ^ w)] := by
  simp [digL, List.range_succ]
theorem val_digL {w : Nat} (hw : w ≤ 8) (n V : Nat) : val w (digL w n V) = V % 2 ^ (w * n) := by
  induction n generalizing V with
  | zero => simp [digL, val, Nat.mod_one]
  | succ n ih =>
    rw [digL_succ, val, ih, UInt8.toNat_ofNat', Nat.mod_eq_of_lt (mod_pow_le hw _), Nat.mul_succ, Nat.add_comm (w * n) w, Nat.pow_add, Nat.mod_mul]
theorem val_lt {w : Nat} {l : List UInt8} (h : ∀ u ∈ l, u.toNat < 2 ^ w) : val w l < 2 ^ (w * l.length) := by
  induction l with
  | nil => simp [val]
  | cons u r ih =>
    have h1 := ih fun x hx => h x (List.mem_cons_of_mem _ hx)
    have h2 := h u List.mem_cons_self
    rw [val, List.length_cons, Nat.mul_succ, Nat.add_comm (w * r.length) w, Nat.pow_add]
    have h3 : 2 ^ w * (val w r + 1) ≤ 2 ^ w * 2 ^ (w * r.length) := Nat.mul_le_mul_left _ h1
    rw [Nat.mul_succ] at h3
    omega
theorem val_one (w : Nat) (u : UInt8) : val w [u] = u.toNat := by rw [val, val, Nat.mul_zero, Nat.add_zero]
theorem val_append (w : Nat) (a b : List UInt8) : val w (a ++ b) = val w a + 2 ^ (w * a.length) * val w b := by
  induction a with
  | nil => simp [val]
  | cons u r ih =>
    rw [List.cons_append, val, val, ih, List.length_cons, Nat.mul_succ, Nat.add_comm (w * r.length) w, Nat.pow_add, Nat.mul_add, Nat.mul_assoc, Nat.add_assoc]
theorem val_digit {w : Nat} {l : List UInt8} (h : ∀ u ∈ l, u.toNat < 2 ^ w) (j : Nat) : val w l / 2 ^ (w * j) % 2 ^ w = (l.getD j 0).toNat := by
  induction l generalizing j with
  | nil => simp [val]
  | cons u r ih =>
    have h2 := h u List.mem_cons_self
    have h0 : 0 < 2 ^ w := Nat.pow_pos (by omega)
    cases j with
    | zero =>
      rw [val, Nat.mul_zero, Nat.pow_zero, Nat.div_one, Nat.add_mul_mod_self_left, Nat.mod_eq_of_lt h2]
      rfl
    | succ j =>
      rw [val, Nat.mul_succ, Nat.add_comm (w * j) w, Nat.pow_add, ← Nat.div_div_eq_div_mul, Nat.add_mul_div_left _ _ h0, Nat.div_eq_of_lt h2, Nat.zero_add, ih fun x hx => h x (List.mem_cons_of_mem _ hx)]
      simp
theorem digL_val {w : Nat} {l : List UInt8} (h : ∀ u ∈ l, u.toNat < 2 ^ w) : digL w l.length (val w l) = l := by
  apply List.ext_getElem (length_digL _ _ _)
  intro j h1 h2
  simp only [digL, List.getElem_map, List.getElem_range]
  rw [val_digit h]
  simp [List.getD, List.getElem?_eq_getElem h2]
theorem all_256 (l : List UInt8) : ∀ u ∈ l, u.toNat < 2 ^ 8 := fun u _ => UInt8.toNat_lt u
/-- Two numbers of so many digits are the same if their digits are. -/
theorem digL_inj {w n V V' : Nat} (hw : w ≤ 8) (h1 : V < 2 ^ (w * n)) (h2 : V' < 2 ^ (w * n)) (h : digL w n V = digL w n V') : V = V' := by
  have := congrArg (val w) h
  rwa [val_digL hw, val_digL hw, Nat.mod_eq_of_lt h1, Nat.mod_eq_of_lt h2] at this
/-- Digits of a number with another one laid above it. -/
theorem digL_add {w a b V : Nat} (X : Nat) (hV : V < 2 ^ (w * a)) : digL w (a + b) (V + 2 ^ (w * a) * X) = digL w a V ++ digL w b X := by
  induction b with
  | zero =>
    rw [Nat.add_zero]
    have e0 : digL w 0 X = [] := rfl
    rw [e0, List.append_nil]
    unfold digL
    apply List.map_congr_left
    intro j hj
    rw [List.mem_range] at hj
    congr 1
    have hK : w * j + w ≤ w * a := by rw [← Nat.mul_succ]; exact Nat.mul_le_mul_left _ hj
    obtain ⟨q, hq⟩ := Nat.exists_eq_add_of_le hK
    rw [hq, show w * j + w + q = w * j + (w + q) from by omega, Nat.pow_add, Nat.mul_assoc, Nat.add_mul_div_left _ _ (Nat.pow_pos (by omega)), Nat.pow_add, Nat.mul_assoc, Nat.add_mul_mod_self_left]
  | succ b ih =>
    rw [← Nat.add_assoc, digL_snoc, ih, digL_snoc w b X, List.append_assoc]
    congr 3
    rw [Nat.mul_add, Nat.pow_add, ← Nat.div_div_eq_div_mul, Nat.add_mul_div_left _ _ (Nat.pow_pos (by omega)), Nat.div_eq_of_lt hV, Nat.zero_add]
/-- One bit more at a number's low end. -/
theorem bit_step (R p m : Nat) : R / 2 ^ p % 2 ^ (m + 1) = 2 * (R / 2 ^ (p + 1) % 2 ^ m) + R / 2 ^ p % 2 := by
  rw [Nat.pow_succ 2 m, Nat.mul_comm (2 ^ m) 2, Nat.mod_mul, Nat.pow_succ, ← Nat.div_div_eq_div_mul]
  omega
theorem mem_digL {w n V : Nat} (hw : w ≤ 8) {u : UInt8} (h : u ∈ digL w n V) : u.toNat < 2 ^ w := by
  simp only [digL, List.mem_map, List.mem_range] at h
  obtain ⟨j, _, rfl⟩ := h
  rw [UInt8.toNat_ofNat', Nat.mod_eq_of_lt (mod_pow_le hw _)]
  exact Nat.mod_lt _ (Nat.pow_pos (by omega))

/-! Bits: the j-th byte of a number; a number with another one laid above it. -/
def dg (V j : Nat) : Nat := V / 2 ^ (8 * j) % 2 ^ 8
theorem dg_lt (V j : Nat) : dg V j < 256 := Nat.mod_lt _ (by decide)
theorem dg_bit (V j t : Nat) : (dg V j).testBit t = (decide (t < 8) && V.testBit (8 * j + t)) := by
  unfold dg
  rw [Nat.testBit_mod_two_pow, Nat.testBit_div_two_pow, Nat.add_comm]
theorem lay_bit {V s : Nat} (x : Nat) (hV : V < 2 ^ s) (t : Nat) : (V + 2 ^ s * x).testBit t = if t < s then V.testBit t else x.testBit (t - s) := by
  rw [Nat.add_comm, Nat.testBit_two_pow_mul_add x hV]
theorem high_bit {V s t : Nat} (hV : V < 2 ^ s) (h : s ≤ t) : V.testBit t = false :=
  Nat.testBit_lt_two_pow (Nat.lt_of_lt_of_le hV (Nat.pow_le_pow_right (by omega) h))
/-- The byte in which a number begins. -/
theorem lay_here {V s x : Nat} (hV : V < 2 ^ s) : dg V (s / 8) ||| (x * 2 ^ (s % 8) % 2 ^ 8) = dg (V + 2 ^ s * x) (s / 8) := by
  apply Nat.eq_of_testBit_eq
  intro t
  rw [Nat.testBit_or, dg_bit, dg_bit, Nat.testBit_mod_two_pow, lay_bit x hV, Nat.testBit_mul_two_pow]
  by_cases ht : t < 8
  · by_cases h2 : t < s % 8
    · have h3 : 8 * (s / 8) + t < s := by omega
      simp [ht, h3]
      omega
    · have h3 : ¬ 8 * (s / 8) + t < s := by omega
      have h4 : 8 * (s / 8) + t - s = t - s % 8 := by omega
      rw [high_bit hV (by omega)]
      simp [ht, h3, h4]
      omega
  · simp [ht]
/-- The byte behind it. -/
theorem lay_next {V s x : Nat} (hV : V < 2 ^ s) (hx : x < 2 ^ 8) : dg V (s / 8 + 1) ||| (x * 2 ^ (s % 8) / 2 ^ 8) = dg (V + 2 ^ s * x) (s / 8 + 1) := by
  apply Nat.eq_of_testBit_eq
  intro t
  rw [Nat.testBit_or, dg_bit, dg_bit, Nat.testBit_div_two_pow, lay_bit x hV, Nat.testBit_mul_two_pow]
  have h3 : ¬ 8 * (s / 8 + 1) + t < s := by omega
  have h4 : 8 * (s / 8 + 1) + t - s = t + 8 - s % 8 := by omega
  have h5 : s % 8 ≤ t + 8 := by omega
  rw [high_bit hV (by omega)]
  by_cases ht : t < 8
  · simp [ht, h3, h4, h5]
  · rw [high_bit hx (by omega)]
    simp [ht]
/-- All other bytes. -/
theorem lay_other {V s x d j : Nat} (hV : V < 2 ^ s) (hx : x < 2 ^ d) (hj : j < s / 8 ∨ s + d ≤ 8 * j) : dg (V + 2 ^ s * x) j = dg V j := by
  apply Nat.eq_of_testBit_eq
  intro t
  rw [dg_bit, dg_bit, lay_bit x hV]
  by_cases ht : t < 8
  · rcases hj with hj | hj
    · have : 8 * j + t < s := by omega
      simp [this]
    · have h3 : ¬ 8 * j + t < s := by omega
      rw [high_bit hV (by omega), if_neg h3, high_bit hx (by omega)]
  · simp [ht]
theorem lay_two {V s X d q ab : Nat} (hV : V < 2 ^ s) (hX : X < 2 ^ d) (hd : d ≤ 8) (hq : s / 8 = q) (hab : s % 8 = ab) (k : Nat) :
    dg (V + 2 ^ s * X) k = if k = q + 1 then dg V (q + 1) ||| (X * 2 ^ ab / 2 ^ 8) else if k = q then dg V q ||| (X * 2 ^ ab % 2 ^ 8) else dg V k := by
  subst hq hab
  split
  · rename_i h
    rw [h, lay_next hV (Nat.lt_of_lt_of_le hX (Nat.pow_le_pow_right (by omega) hd))]
  · split
    · rename_i h
      rw [h, lay_here hV]
    · exact lay_other hV hX (by omega)
theorem lay_single {V s X d q ab : Nat} (hV : V < 2 ^ s) (hX : X < 2 ^ d) (hs : ab + d ≤ 8) (hq : s / 8 = q) (hab : s % 8 = ab) (k : Nat) :
    dg (V + 2 ^ s * X) k = if k = q then dg V q ||| (X * 2 ^ ab % 2 ^ 8) else dg V k := by
  subst hq hab
  split
  · rename_i h
    rw [h, lay_here hV]
  · exact lay_other hV hX (by omega)
theorem val_take_succ {d i : Nat} {l : List UInt8} (h : i < l.length) : val d (l.take (i + 1)) = val d (l.take i) + 2 ^ (i * d) * l[i].toNat := by
  rw [List.take_succ_eq_append_getElem h, val_append, val_one, List.length_take, Nat.min_eq_left (by omega), Nat.mul_comm d i]
theorem val_take_lt {d : Nat} {l : List UInt8} (hall : ∀ u ∈ l, u.toNat < 2 ^ d) {i : Nat} (h : i ≤ l.length) : val d (l.take i) < 2 ^ (i * d) := by
  have := val_lt (l := l.take i) (w := d) fun u hu => hall u (List.mem_of_mem_take hu)
  rwa [List.length_take, Nat.min_eq_left h, Nat.mul_comm] at this
/-- A number that lies in the bytes from its first bit on. -/
theorem read_spill {V s d : Nat} (hd : d ≤ 8) : (dg V (s / 8) + 2 ^ 8 * dg V (s / 8 + 1)) / 2 ^ (s % 8) % 2 ^ d = V / 2 ^ s % 2 ^ d := by
  apply Nat.eq_of_testBit_eq
  intro t
  rw [Nat.testBit_mod_two_pow, Nat.testBit_mod_two_pow, Nat.testBit_div_two_pow, Nat.testBit_div_two_pow, lay_bit _ (dg_lt V _), dg_bit, dg_bit]
  by_cases ht : t < d
  · by_cases h2 : t + s % 8 < 8
    · have h3 : 8 * (s / 8) + (t + s % 8) = t + s := by omega
      simp [ht, h2, h3]
    · have h3 : 8 * (s / 8 + 1) + (t + s % 8 - 8) = t + s := by omega
      have h4 : t + s % 8 - 8 < 8 := by omega
      simp [ht, h2, h3, h4]
  · simp [ht]
theorem read_plain {V s d : Nat} (hd : s % 8 + d ≤ 8) : dg V (s / 8) / 2 ^ (s % 8) % 2 ^ d = V / 2 ^ s % 2 ^ d := by
  apply Nat.eq_of_testBit_eq
  intro t
  rw [Nat.testBit_mod_two_pow, Nat.testBit_mod_two_pow, Nat.testBit_div_two_pow, Nat.testBit_div_two_pow, dg_bit]
  by_cases ht : t < d
  · have h2 : t + s % 8 < 8 := by omega
    have h3 : 8 * (s / 8) + (t + s % 8) = t + s := by omega
    simp [ht, h2, h3]
  · simp [ht]
end Go.Proofs.YtlncjakfckdjcaaGreatDoor
