/-
  Words on bytes in memory for the walks of this seat: what a list's k-th byte is, a slice that reads as a list, a row that the call made. No statement.
  Plain arithmetic, no program: a row of digits of w bits each, the lowest first, and the number that it comes to.
  What the walks of this seat import alike; what a row of bytes is made of.
  Regions that draw their order: steps for what needs no memory of a type of its own; values out of a frame that is written out. No type of a seat is named.
  Blocks: arrays of 64 bytes, by value. What a block is as a list of cells, as a value; how it is read, laid, made, compared.
  What a walk meets of blocks: boxes, loads, stores, comparisons, results; ranges kept by whatever lies above. (Regions: XReg.)
  Blocks of memory that a walk laid: what their cells hold, kept by whatever a callee lays.
  Four blocks laid one behind the other; a block that is torn.
  ashlarref03.Torn.
  Plain regions: an operation, and so many behind it that are not wanted, taken at once (no goal's head is one that is not wanted).
  Regions that draw their order, walked quietly: an operation, and so many behind it that are not wanted, taken at once.
  num.Put, num.Get and the document's of numbers that have the size: bytes, the lowest first.
  append of a byte slice, nil or not, to a row of the call's own; ashlarref00.Copy.
  ashlarref00.Same over whatever two byte slices: it answers whether they read as the same list; nothing is written.
-/
import Derived.Below
import Derived.Laws.OwnMore
import Derived.Deep.Draws
import Derived.Laws.Rows
import Derived.OwnWalk
import Derived.Deep.OwnRows
import Derived.Test.YtiilclncedipiaaDoorProg
import Derived.WalkKit
import Derived.RegionTactic
import Derived.ChangeAlike
import Derived.Deep.QuietTactic
import Derived.BigQuiet
import Derived.Lib.Hide
import Derived.WalkLawsBesides
import Derived.WalkSpells
import Derived.StillTailTactics
import Derived.Deep.WholeRow
import Derived.Deep.Quiet
import Derived.Deep.MidRow
import Derived.Laws.StructEq
import Derived.Laws.NewBlocks
import Derived.OrdersHeld
import Derived.Laws.IdiomCopy
import Derived.Laws.BitsAllLaws
import Derived.IntWalk
import Derived.Laws.AppendOwn
import Derived.Laws.AppendOwnNone
namespace Go.Proofs.YtiilclncedipiaaDoor
open Go.RowKit

/-- The k-th byte of a list, as a number; 0 behind its end. -/
def bt (l : List UInt8) (k : Nat) : Int := ((l.getD k 0).toNat : Int)
theorem bt_lo (l : List UInt8) (k : Nat) : 0 ≤ bt l k := by unfold bt; omega
theorem bt_hi (l : List UInt8) (k : Nat) : bt l k ≤ 255 := by
  unfold bt
  have := UInt8.toNat_lt (l.getD k 0)
  omega
theorem bt_get {l : List UInt8} {k : Nat} (h : k < l.length) : bt l k = (l[k].toNat : Int) := by
  unfold bt
  simp [List.getD, List.getElem?_eq_getElem h]
theorem eq_of_bt {a b : List UInt8} (hl : a.length = b.length) (h : ∀ k, k < a.length → bt a k = bt b k) : a = b := by
  apply List.ext_getElem hl
  intro k h1 h2
  have := h k h1
  rw [bt_get h1, bt_get h2] at this
  exact UInt8.toNat_inj.1 (by omega)

/-- The slice of address A and length n reads as l; it lies below block B. -/
def Rd (w : World) (B : Nat) (A : Option Addr) (n : Nat) (l : List UInt8) : Prop :=
  l.length = n ∧ ∀ k, k < n → ∃ b off, A = some ⟨b, off, none⟩ ∧ b < B ∧ w.cell? ⟨b, off + k, none⟩ = some (.int .u8 (bt l k))

section
variable {w w' : World} {B B' n : Nat} {A : Option Addr} {l : List UInt8}
theorem Rd.nil (w : World) (B : Nat) (A : Option Addr) : Rd w B A 0 [] := ⟨rfl, fun k hk => absurd hk (by omega)⟩
theorem Rd.keep (h : Rd w B A n l) (hk : ∀ p : Addr, p.block < B → w'.cell? p = w.cell? p) : Rd w' B A n l :=
  ⟨h.1, fun k hn => by
    obtain ⟨b, off, e, hb, hc⟩ := h.2 k hn
    exact ⟨b, off, e, hb, (hk _ hb).trans hc⟩⟩
theorem Rd.more (h : Rd w B A n l) (hB : B ≤ B') : Rd w B' A n l :=
  ⟨h.1, fun k hn => by
    obtain ⟨b, off, e, hb, hc⟩ := h.2 k hn
    exact ⟨b, off, e, by omega, hc⟩⟩
theorem Rd.below (h : Rd w B A n l) (hb : Below B w w') : Rd w' B A n l := h.keep fun _ hp => hb.cell hp
theorem Rd.step (h : Rd w w.heap.size A n l) (hb : Below w.heap.size w w') : Rd w' w'.heap.size A n l := (h.below hb).more hb.size
end

theorem bdn {B : Nat} {a w : World} (h : Below B a w) (k : Nat) : Below B a (w.drewN k) := ⟨h.os, h.tape, h.output, h.size, h.block⟩

theorem bd {B : Nat} {a w : World} (h : Below B a w) : Below B a w.drew := ⟨h.os, h.tape, h.output, h.size, h.block⟩

theorem two {a b c : World} (h1 : Below a.heap.size a b) (h2 : Below b.heap.size b c) : Below a.heap.size a c := h1.trans (h2.mono h1.size)
theorem four {a b c d e : World} (h1 : Below a.heap.size a b) (h2 : Below b.heap.size b c) (h3 : Below c.heap.size c d) (h4 : Below d.heap.size d e) : Below a.heap.size a e := two (two (two h1 h2) h3) h4
theorem ret_bool {a b : Bool} (h : a = b) : Ending.returned (.bool a) = .returned (.bool b) := by rw [h]
theorem ret_ints {k k' : IntKind} {a b a' b' : Int} (h : a = b) (h' : a' = b') : Ending.returned (.tuple #[.int k a, .int k' a']) = .returned (.tuple #[.int k b, .int k' b']) := by rw [h, h']
theorem ret_int {k : IntKind} {a b : Int} (h : a = b) : Ending.returned (.int k a) = .returned (.int k b) := by rw [h]

/-- A row that the call made: block g holds just the bytes of 'l' (its first cells), none frozen; 'c' cells in all. -/
def Made (w : World) (base : Nat) (v : Value) (l : List UInt8) : Prop :=
  w.ownsRow base 5 1 v l.length (l.map fun u => .int .u8 (u.toNat : Int))
theorem Made.form {w : World} {base : Nat} {v : Value} {l : List UInt8} (h : Made w base v l) : ∃ A c, v = .slice A l.length c ∧ l.length ≤ c ∧ c ≤ maxLen := by
  rcases h.2 with ⟨rfl, h0⟩ | ⟨g, cap, cur, rfl, _, _, h1, h2, _⟩
  · exact ⟨none, 0, by rw [h0], by omega, by simp [maxLen]⟩
  · exact ⟨_, cap, rfl, h1, h2⟩
theorem Made.rd {w : World} {base n c : Nat} {A : Option Addr} {l : List UInt8} (h : Made w base (.slice A n c) l) : Rd w w.heap.size A n l := by
  rcases h.2 with ⟨hv, h0⟩ | ⟨g, cap, cur, hv, _, hg, _, _, _, ht⟩
  · have hl : l = [] := List.eq_nil_of_length_eq_zero h0
    subst hl
    injection hv with h1 h2 h3
    subst h2
    exact Rd.nil _ _ _
  · injection hv with h1 h2 h3
    subst h1 h2 h3
    refine ⟨rfl, fun k hk => ⟨g, 0, rfl, (Array.getElem?_eq_some_iff.1 hg).1, ?_⟩⟩
    rw [cell_of_row w g (0 + k) cur 5 (0, 0) hg]
    have h2 : (cur.toList.take (l.length * 1))[k]? = (l.map fun u => Value.int .u8 (u.toNat : Int))[k]? := by rw [ht]
    rw [List.getElem?_take_of_lt (by omega), List.getElem?_map, List.getElem?_eq_getElem hk] at h2
    rw [bt_get hk, Nat.zero_add]
    simpa using h2
theorem Made.below {w w' : World} {base : Nat} {v : Value} {l : List UInt8} (h : Made w base v l) (hb : Below w.heap.size w w') : Made w' base v l := by
  refine ⟨h.1, ?_⟩
  rcases h.2 with hn | ⟨g, cap, cur, rfl, hbg, hg, rest⟩
  · exact .inl hn
  · exact .inr ⟨g, cap, cur, rfl, hbg, by rw [hb.block g (Array.getElem?_eq_some_iff.1 hg).1]; exact hg, rest⟩

theorem Made.own {w : World} {base n : Nat} {v : Value} {l : List UInt8} (h : Made w base v l) (hn : l.length = n) : w.ownsRow base 5 1 v n (l.map fun u => .int .u8 (u.toNat : Int)) := by
  subst hn; exact h
theorem Made.of_own {w : World} {base n : Nat} {v : Value} {l : List UInt8} (h : w.ownsRow base 5 1 v n (l.map fun u => .int .u8 (u.toNat : Int))) : Made w base v l := by
  have hn : l.length = n := by have := h.1; simpa using this
  subst hn; exact h
/-- Behind an append of one byte to a row of the call's own. -/
theorem Made.push {w0 wr w' : World} {B n : Nat} {v v' : Value} {l : List UInt8} {u : UInt8} {x : Int} {o : Obj} (hm : Made wr B v l) (hbl : Below B w0 wr) (hsz : B ≤ wr.heap.size) (hx : x = (u.toNat : Int))
    (hown : w'.ownsRow B 5 1 v' n ((l.map fun u => .int .u8 (u.toNat : Int)) ++ [.int .u8 x])) (hg : (wr.alloc o).grownBy w' v.ownBlock) : Made w' B v' (l ++ [u]) ∧ Below B w0 w' := by
  subst hx
  refine ⟨Made.of_own (n := n) ?_, ((hbl.alloc hsz o).grown hg (by simp; omega) fun k hk => ?_)⟩
  · rw [List.map_append]; exact hown
  · exact (hm.lt k hk).1
theorem Made.base {w : World} {b b' : Nat} {v : Value} {l : List UInt8} (h : Made w b v l) (hb : b' ≤ b) : Made w b' v l := by
  refine ⟨h.1, ?_⟩
  rcases h.2 with hn | ⟨g, cap, cur, rfl, hbg, rest⟩
  · exact .inl hn
  · exact .inr ⟨g, cap, cur, rfl, Nat.le_trans hb hbg, rest⟩
theorem Made.open_ {w : World} {base n : Nat} {v : Value} {l : List UInt8} (h : Made w base v l) (hn : l.length = n) : ∃ A c, v = .slice A n c ∧ Rd w w.heap.size A n l ∧ n ≤ c ∧ c ≤ maxLen := by
  subst hn
  obtain ⟨A, c, rfl, h1, h2⟩ := h.form
  exact ⟨A, c, rfl, h.rd, h1, h2⟩

/-- A row's content with one place turned. -/
def upd (f : Nat → Int) (i : Nat) (x : Int) : Nat → Int := fun j => if j = i then x else f j
theorem upd_at (f : Nat → Int) (i : Nat) (x : Int) : upd f i x i = x := by unfold upd; rw [if_pos rfl]
theorem upd_off (f : Nat → Int) {i j : Nat} (x : Int) (h : j ≠ i) : upd f i x j = f j := by unfold upd; rw [if_neg h]
theorem row_put {w : World} {g c i : Nat} {f : Nat → Int} {e : TypeId} (h : w.rowIs g e c (fun j => .int .u8 (f j))) (x : Int) : (w.setCell ⟨g, i, none⟩ (.int .u8 x)).rowIs g e c (fun j => .int .u8 (upd f i x j)) :=
  (h.set i _).congr fun j _ => by
    unfold upd
    split
    · rfl
    · rfl

/-- A row of bytes that the call made, all its room told: cell j holds 'f j', a byte; the first ones are the list's. -/
def Own (w : World) (base : Nat) (v : Value) (l : List UInt8) : Prop :=
  ∃ (g c : Nat) (f : Nat → Int), v = .slice (some ⟨g, 0, none⟩) l.length c ∧ base ≤ g ∧ w.rowIs g 5 c (fun j => .int .u8 (f j)) ∧ l.length ≤ c ∧ c ≤ maxLen ∧ (∀ j, j < l.length → f j = bt l j) ∧ ∀ j, 0 ≤ f j ∧ f j ≤ 255
theorem Own.made {w : World} {base : Nat} {v : Value} {l : List UInt8} (h : Own w base v l) : Made w base v l := by
  obtain ⟨g, c, f, rfl, hb, ⟨cur, hg, hn, hc⟩, h1, h2, hf, _⟩ := h
  refine ⟨by simp, .inr ⟨g, c, cur, rfl, hb, hg, h1, h2, by simpa using hn, ?_⟩⟩
  apply List.ext_getElem?
  intro k
  by_cases hk : k < l.length
  · rw [List.getElem?_take_of_lt (by omega), List.getElem?_map, List.getElem?_eq_getElem hk, Array.getElem?_toList, hc k (by omega)]
    show some (Value.int .u8 (f k)) = _
    rw [hf k hk, bt_get hk]
    rfl
  · rw [List.getElem?_eq_none (by simp; omega), List.getElem?_eq_none (by simp; omega)]
theorem Own.of_row {w : World} {base g c : Nat} {f : Nat → Int} {l : List UInt8} {n : Nat} (hn : l.length = n) (hb : base ≤ g) (h : w.rowIs g 5 c (fun j => .int .u8 (f j))) (h1 : n ≤ c) (h2 : c ≤ maxLen)
    (hf : ∀ j, j < n → f j = bt l j) (hr : ∀ j, 0 ≤ f j ∧ f j ≤ 255) : Own w base (.slice (some ⟨g, 0, none⟩) n c) l := by
  subst hn
  exact ⟨g, c, f, rfl, hb, h, h1, h2, hf, hr⟩
end Go.Proofs.YtiilclncedipiaaDoor
namespace Go.Proofs.YtiilclncedipiaaDoor

/-- The number of a row of digits of w bits each, the lowest first. -/
def val (w : Nat) : List UInt8 → Nat
  | [] => 0
  | u :: r => u.toNat + 2 ^ w * val w r
/-- The first n digits of w bits each of a number. -/
def digL (w n V : Nat) : List UInt8 := (List.range n).map fun j => UInt8.ofNat (V / 2 ^ (w * j) % 2 ^ w)

theorem length_digL (w n V : Nat) : (digL w n V).length = n := by simp [digL]
theorem mod_pow_le {w : Nat} (hw : w ≤ 8) (x : Nat) : x % 2 ^ w < 256 := by
  have h1 : x % 2 ^ w < 2 ^ w := Nat.mod_lt _ (Nat.pow_pos (by omega))
  have h2 : 2 ^ w ≤ 2 ^ 8 := Nat.pow_le_pow_right (by omega) hw
  omega
theorem getElem_digL {w n V j : Nat} (hw : w ≤ 8) (h : j < (digL w n V).length) : ((digL w n V)[j]).toNat = V / 2 ^ (w * j) % 2 ^ w := by
  simp only [digL, List.getElem_map, List.getElem_range, UInt8.toNat_ofNat']
  exact Nat.mod_eq_of_lt (mod_pow_le hw _)
theorem digL_succ (w n V : Nat) : digL w (n + 1) V = UInt8.ofNat (V % 2 ^ w) :: digL w n (V / 2 ^ w) := by
  simp only [digL, List.range_succ_eq_map, List.map_cons, List.map_map]
  congr 1
  · simp
  · apply List.map_congr_left
    intro j _
    simp only [Function.comp]
    rw [Nat.div_div_eq_div_mul, ← Nat.pow_add]
    congr 3
    rw [Nat.mul_succ, Nat.add_comm]
theorem digL_snoc (w n V : Nat) : digL w (n + 1) V = digL w n V ++ [UInt8.ofNat (V / 2 ^ (w * n) % 2 ^ w)] := by
  simp [digL, List.range_succ]
theorem val_digL {w : Nat} (hw : w ≤ 8) (n V : Nat) : val w (digL w n V) = V % 2 ^ (w * n) := by
  induction n generalizing V with
  | zero => simp [digL, val, Nat.mod_one]
  | succ n ih =>
    rw [digL_succ, val, ih, UInt8.toNat_ofNat', Nat.mod_eq_of_lt (mod_pow_le hw _), Nat.mul_succ, Nat.add_comm (w * n) w, Nat.pow_add, Nat.mod_mul]
theorem val_lt {w : Nat} {l : List UInt8} (h : ∀ u ∈ l, u.toNat < 2 ^ w) : val w l < 2 ^ (w * l.length) := by
  induction l with
  | nil => simp [val]
  | cons u r ih =>
    have h1 := ih fun x hx => h x (List.mem_cons_of_mem _ hx)
    have h2 := h u List.mem_cons_self
    rw [val, List.length_cons, Nat.mul_succ, Nat.add_comm (w * r.length) w, Nat.pow_add]
    have h3 : 2 ^ w * (val w r + 1) ≤ 2 ^ w * 2 ^ (w * r.length) := Nat.mul_le_mul_left _ h1
    rw [Nat.mul_succ] at h3
    omega
theorem val_one (w : Nat) (u : UInt8) : val w [u] = u.toNat := by rw [val, val, Nat.mul_zero, Nat.add_zero]
theorem val_append (w : Nat) (a b : List UInt8) : val w (a ++ b) = val w a + 2 ^ (w * a.length) * val w b := by
  induction a with
  | nil => simp [val]
  | cons u r ih =>
    rw [List.cons_append, val, val, ih, List.length_cons, Nat.mul_succ, Nat.add_comm (w * r.length) w, Nat.pow_add, Nat.mul_add, Nat.mul_assoc, Nat.add_assoc]
theorem val_digit {w : Nat} {l : List UInt8} (h : ∀ u ∈ l, u.toNat < 2 ^ w) (j : Nat) : val w l / 2 ^ (w * j) % 2 ^ w = (l.getD j 0).toNat := by
  induction l generalizing j with
  | nil => simp [val]
  | cons u r ih =>
    have h2 := h u List.mem_cons_self
    have h0 : 0 < 2 ^ w := Nat.pow_pos (by omega)
    cases j with
    | zero =>
      rw [val, Nat.mul_zero, Nat.pow_zero, Nat.div_one, Nat.add_mul_mod_self_left, Nat.mod_eq_of_lt h2]
      rfl
    | succ j =>
      rw [val, Nat.mul_succ, Nat.add_comm (w * j) w, Nat.pow_add, ← Nat.div_div_eq_div_mul, Nat.add_mul_div_left _ _ h0, Nat.div_eq_of_lt h2, Nat.zero_add, ih fun x hx => h x (List.mem_cons_of_mem _ hx)]
      simp
theorem digL_val {w : Nat} {l : List UInt8} (h : ∀ u ∈ l, u.toNat < 2 ^ w) : digL w l.length (val w l) = l := by
  apply List.ext_getElem (length_digL _ _ _)
  intro j h1 h2
  simp only [digL, List.getElem_map, List.getElem_range]
  rw [val_digit h]
  simp [List.getD, List.getElem?_eq_getElem h2]
theorem all_256 (l : List UInt8) : ∀ u ∈ l, u.toNat < 2 ^ 8 := fun u _ => UInt8.toNat_lt u
/-- Two numbers of so many digits are the same if their digits are. -/
theorem digL_inj {w n V V' : Nat} (hw : w ≤ 8) (h1 : V < 2 ^ (w * n)) (h2 : V' < 2 ^ (w * n)) (h : digL w n V = digL w n V') : V = V' := by
  have := congrArg (val w) h
  rwa [val_digL hw, val_digL hw, Nat.mod_eq_of_lt h1, Nat.mod_eq_of_lt h2] at this
/-- Digits of a number with another one laid above it. -/
theorem digL_add {w a b V : Nat} (X : Nat) (hV : V < 2 ^ (w * a)) : digL w (a + b) (V + 2 ^ (w * a) * X) = digL w a V ++ digL w b X := by
  induction b with
  | zero =>
    rw [Nat.add_zero]
    have e0 : digL w 0 X = [] := rfl
    rw [e0, List.append_nil]
    unfold digL
    apply List.map_congr_left
    intro j hj
    rw [List.mem_range] at hj
    congr 1
    have hK : w * j + w ≤ w * a := by rw [← Nat.mul_succ]; exact Nat.mul_le_mul_left _ hj
    obtain ⟨q, hq⟩ := Nat.exists_eq_add_of_le hK
    rw [hq, show w * j + w + q = w * j + (w + q) from by omega, Nat.pow_add, Nat.mul_assoc, Nat.add_mul_div_left _ _ (Nat.pow_pos (by omega)), Nat.pow_add, Nat.mul_assoc, Nat.add_mul_mod_self_left]
  | succ b ih =>
    rw [← Nat.add_assoc, digL_snoc, ih, digL_snoc w b X, List.append_assoc]
    congr 3
    rw [Nat.mul_add, Nat.pow_add, ← Nat.div_div_eq_div_mul, Nat.add_mul_div_left _ _ (Nat.pow_pos (by omega)), Nat.div_eq_of_lt hV, Nat.zero_add]
/-- One bit more at a number's low end. -/
theorem bit_step (R p m : Nat) : R / 2 ^ p % 2 ^ (m + 1) = 2 * (R / 2 ^ (p + 1) % 2 ^ m) + R / 2 ^ p % 2 := by
  rw [Nat.pow_succ 2 m, Nat.mul_comm (2 ^ m) 2, Nat.mod_mul, Nat.pow_succ, ← Nat.div_div_eq_div_mul]
  omega
theorem mem_digL {w n V : Nat} (hw : w ≤ 8) {u : UInt8} (h : u ∈ digL w n V) : u.toNat < 2 ^ w := by
  simp only [digL, List.mem_map, List.mem_range] at h
  obtain ⟨j, _, rfl⟩ := h
  rw [UInt8.toNat_ofNat', Nat.mod_eq_of_lt (mod_pow_le hw _)]
  exact Nat.mod_lt _ (Nat.pow_pos (by omega))

/-! Bits: the j-th byte of a number; a number with another one laid above it. -/
def dg (V j : Nat) : Nat := V / 2 ^ (8 * j) % 2 ^ 8
theorem dg_lt (V j : Nat) : dg V j < 256 := Nat.mod_lt _ (by decide)
theorem dg_bit (V j t : Nat) : (dg V j).testBit t = (decide (t < 8) && V.testBit (8 * j + t)) := by
  unfold dg
  rw [Nat.testBit_mod_two_pow, Nat.testBit_div_two_pow, Nat.add_comm]
theorem lay_bit {V s : Nat} (x : Nat) (hV : V < 2 ^ s) (t : Nat) : (V + 2 ^ s * x).testBit t = if t < s then V.testBit t else x.testBit (t - s) := by
  rw [Nat.add_comm, Nat.testBit_two_pow_mul_add x hV]
theorem high_bit {V s t : Nat} (hV : V < 2 ^ s) (h : s ≤ t) : V.testBit t = false :=
  Nat.testBit_lt_two_pow (Nat.lt_of_lt_of_le hV (Nat.pow_le_pow_right (by omega) h))
/-- The byte in which a number begins. -/
theorem lay_here {V s x : Nat} (hV : V < 2 ^ s) : dg V (s / 8) ||| (x * 2 ^ (s % 8) % 2 ^ 8) = dg (V + 2 ^ s * x) (s / 8) := by
  apply Nat.eq_of_testBit_eq
  intro t
  rw [Nat.testBit_or, dg_bit, dg_bit, Nat.testBit_mod_two_pow, lay_bit x hV, Nat.testBit_mul_two_pow]
  by_cases ht : t < 8
  · by_cases h2 : t < s % 8
    · have h3 : 8 * (s / 8) + t < s := by omega
      simp [ht, h3]
      omega
    · have h3 : ¬ 8 * (s / 8) + t < s := by omega
      have h4 : 8 * (s / 8) + t - s = t - s % 8 := by omega
      rw [high_bit hV (by omega)]
      simp [ht, h3, h4]
      omega
  · simp [ht]
/-- The byte behind it. -/
theorem lay_next {V s x : Nat} (hV : V < 2 ^ s) (hx : x < 2 ^ 8) : dg V (s / 8 + 1) ||| (x * 2 ^ (s % 8) / 2 ^ 8) = dg (V + 2 ^ s * x) (s / 8 + 1) := by
  apply Nat.eq_of_testBit_eq
  intro t
  rw [Nat.testBit_or, dg_bit, dg_bit, Nat.testBit_div_two_pow, lay_bit x hV, Nat.testBit_mul_two_pow]
  have h3 : ¬ 8 * (s / 8 + 1) + t < s := by omega
  have h4 : 8 * (s / 8 + 1) + t - s = t + 8 - s % 8 := by omega
  have h5 : s % 8 ≤ t + 8 := by omega
  rw [high_bit hV (by omega)]
  by_cases ht : t < 8
  · simp [ht, h3, h4, h5]
  · rw [high_bit hx (by omega)]
    simp [ht]
/-- All other bytes. -/
theorem lay_other {V s x d j : Nat} (hV : V < 2 ^ s) (hx : x < 2 ^ d) (hj : j < s / 8 ∨ s + d ≤ 8 * j) : dg (V + 2 ^ s * x) j = dg V j := by
  apply Nat.eq_of_testBit_eq
  intro t
  rw [dg_bit, dg_bit, lay_bit x hV]
  by_cases ht : t < 8
  · rcases hj with hj | hj
    · have : 8 * j + t < s := by omega
      simp [this]
    · have h3 : ¬ 8 * j + t < s := by omega
      rw [high_bit hV (by omega), if_neg h3, high_bit hx (by omega)]
  · simp [ht]
theorem lay_two {V s X d q ab : Nat} (hV : V < 2 ^ s) (hX : X < 2 ^ d) (hd : d ≤ 8) (hq : s / 8 = q) (hab : s % 8 = ab) (k : Nat) :
    dg (V + 2 ^ s * X) k = if k = q + 1 then dg V (q + 1) ||| (X * 2 ^ ab / 2 ^ 8) else if k = q then dg V q ||| (X * 2 ^ ab % 2 ^ 8) else dg V k := by
  subst hq hab
  split
  · rename_i h
    rw [h, lay_next hV (Nat.lt_of_lt_of_le hX (Nat.pow_le_pow_right (by omega) hd))]
  · split
    · rename_i h
      rw [h, lay_here hV]
    · exact lay_other hV hX (by omega)
theorem lay_single {V s X d q ab : Nat} (hV : V < 2 ^ s) (hX : X < 2 ^ d) (hs : ab + d ≤ 8) (hq : s / 8 = q) (hab : s % 8 = ab) (k : Nat) :
    dg (V + 2 ^ s * X) k = if k = q then dg V q ||| (X * 2 ^ ab % 2 ^ 8) else dg V k := by
  subst hq hab
  split
  · rename_i h
    rw [h, lay_here hV]
  · exact lay_other hV hX (by omega)
theorem val_take_succ {d i : Nat} {l : List UInt8} (h : i < l.length) : val d (l.take (i + 1)) = val d (l.take i) + 2 ^ (i * d) * l[i].toNat := by
  rw [List.take_succ_eq_append_getElem h, val_append, val_one, List.length_take, Nat.min_eq_left (by omega), Nat.mul_comm d i]
theorem val_take_lt {d : Nat} {l : List UInt8} (hall : ∀ u ∈ l, u.toNat < 2 ^ d) {i : Nat} (h : i ≤ l.length) : val d (l.take i) < 2 ^ (i * d) := by
  have := val_lt (l := l.take i) (w := d) fun u hu => hall u (List.mem_of_mem_take hu)
  rwa [List.length_take, Nat.min_eq_left h, Nat.mul_comm] at this
/-- A number that lies in the bytes from its first bit on. -/
theorem read_spill {V s d : Nat} (hd : d ≤ 8) : (dg V (s / 8) + 2 ^ 8 * dg V (s / 8 + 1)) / 2 ^ (s % 8) % 2 ^ d = V / 2 ^ s % 2 ^ d := by
  apply Nat.eq_of_testBit_eq
  intro t
  rw [Nat.testBit_mod_two_pow, Nat.testBit_mod_two_pow, Nat.testBit_div_two_pow, Nat.testBit_div_two_pow, lay_bit _ (dg_lt V _), dg_bit, dg_bit]
  by_cases ht : t < d
  · by_cases h2 : t + s % 8 < 8
    · have h3 : 8 * (s / 8) + (t + s % 8) = t + s := by omega
      simp [ht, h2, h3]
    · have h3 : 8 * (s / 8 + 1) + (t + s % 8 - 8) = t + s := by omega
      have h4 : t + s % 8 - 8 < 8 := by omega
      simp [ht, h2, h3, h4]
  · simp [ht]
theorem read_plain {V s d : Nat} (hd : s % 8 + d ≤ 8) : dg V (s / 8) / 2 ^ (s % 8) % 2 ^ d = V / 2 ^ s % 2 ^ d := by
  apply Nat.eq_of_testBit_eq
  intro t
  rw [Nat.testBit_mod_two_pow, Nat.testBit_mod_two_pow, Nat.testBit_div_two_pow, Nat.testBit_div_two_pow, dg_bit]
  by_cases ht : t < d
  · have h2 : t + s % 8 < 8 := by omega
    have h3 : 8 * (s / 8) + (t + s % 8) = t + s := by omega
    simp [ht, h2, h3]
  · simp [ht]
end Go.Proofs.YtiilclncedipiaaDoor
namespace Go.Proofs.YtiilclncedipiaaDoor
open Go.RowKit
theorem u8info : (Tryd.prog.info? 5).map (fun i => (i.zero, i.size, i.bytes)) = some (some (.int .u8 0), 1, 1) := by kernel_rfl

/-- A literal's row reads as its bytes. -/
theorem rd_new (w : World) (l : List UInt8) (cs : Array Value) (h : cs.toList = l.map fun u => Value.int .u8 (u.toNat : Int)) : Rd (w.alloc (.cells cs 5)) (w.heap.size + 1) (some ⟨w.heap.size, 0, none⟩) l.length l := by
  refine ⟨rfl, fun k hk => ⟨w.heap.size, 0, rfl, by omega, ?_⟩⟩
  rw [cell_of_row (w.alloc (.cells cs 5)) w.heap.size (0 + k) cs 5 (0, 0) (heap_alloc_new w _), Nat.zero_add, ← Array.getElem?_toList, h, List.getElem?_map, List.getElem?_eq_getElem hk, bt_get hk]
  rfl
/-- The same of a block of whatever type. -/
theorem rd_typed (t : TypeId) (w : World) (l : List UInt8) (cs : Array Value) (h : cs.toList = l.map fun u => Value.int .u8 (u.toNat : Int)) : Rd (w.alloc (.cells cs t)) (w.heap.size + 1) (some ⟨w.heap.size, 0, none⟩) l.length l := by
  refine ⟨rfl, fun k hk => ⟨w.heap.size, 0, rfl, by omega, ?_⟩⟩
  rw [cell_of_row (w.alloc (.cells cs t)) w.heap.size (0 + k) cs t (0, 0) (heap_alloc_new w _), Nat.zero_add, ← Array.getElem?_toList, h, List.getElem?_map, List.getElem?_eq_getElem hk, bt_get hk]
  rfl
/-- The same of a block that bears a mark. -/
theorem rd_marked (w : World) (l : List UInt8) (cs : Array Value) (fr : Nat × Nat) (h : cs.toList = l.map fun u => Value.int .u8 (u.toNat : Int)) : Rd (w.alloc (.cells cs 5 fr)) (w.heap.size + 1) (some ⟨w.heap.size, 0, none⟩) l.length l := by
  refine ⟨rfl, fun k hk => ⟨w.heap.size, 0, rfl, by omega, ?_⟩⟩
  rw [cell_of_row (w.alloc (.cells cs 5 fr)) w.heap.size (0 + k) cs 5 fr (heap_alloc_new w _), Nat.zero_add, ← Array.getElem?_toList, h, List.getElem?_map, List.getElem?_eq_getElem hk, bt_get hk]
  rfl
theorem Rd.alloc {w : World} {N n : Nat} {A : Option Addr} {l : List UInt8} (h : Rd w N A n l) (hN : N ≤ w.heap.size) (o : Obj) : Rd (w.alloc o) N A n l := h.below ((Below.refl N w).alloc hN o)
theorem over_alloc {w w' : World} {o : Obj} (hb : Below (w.heap.size + 1) (w.alloc o) w') : Below w.heap.size w w' :=
  ((Below.refl _ w).alloc (Nat.le_refl _) o).trans (hb.mono (by omega))
theorem Rd.over {w w' : World} {n : Nat} {A : Option Addr} {l : List UInt8} {o : Obj} (h : Rd w w.heap.size A n l) (hb : Below (w.heap.size + 1) (w.alloc o) w') : Rd w' w'.heap.size A n l :=
  h.step (over_alloc hb)
theorem Rd.up {w : World} {n : Nat} {A : Option Addr} {l : List UInt8} (h : Rd w w.heap.size A n l) (o : Obj) : Rd (w.alloc o) (w.heap.size + 1) A n l :=
  (h.alloc (Nat.le_refl _) o).more (by omega)
end Go.Proofs.YtiilclncedipiaaDoor
namespace Go.Proofs.YtiilclncedipiaaDoor
open Go.RowKit
set_option linter.unusedVariables false

/-! ### What one operation does -/
section
variable {ρ : Operand → Value} {o : Oper} {x y : Operand} {w : World} {t r : TypeId} {i : Nat} {p q : Value}
theorem exec_move (ho : o.op = .move x) : (execOp ρ o).run Tryd.prog w = .ok (.value (ρ x)) w := by
  unfold execOp
  simp only [ho, Sem.run_pure]
theorem exec_assign (ho : o.op = .assign x) : (execOp ρ o).run Tryd.prog w = .ok (.value (ρ x)) w := by
  unfold execOp
  simp only [ho, Sem.run_pure]
theorem exec_call {f : FuncId} {args : List Operand} {ats : Array TypeId} {a : Act} (hf : ∀ args w, (callFunc f args).run Tryd.prog w = .ok (.enter f args) w) (ho : o.op = .call { callee := .value (.func f), args := args.toArray, argTypes := ats }) :
    (execOp a.eval o).run Tryd.prog w = .ok (.enter f (args.map a.eval).toArray) w := by
  unfold execOp
  simp [ho, resolve, Deferred.ofValue, Act.eval, invoke, hf]
theorem exec_faddr (ho : o.op = .fieldAddr t x i) (hx : ρ x = p) (h : (Instr.fieldAt t p i).run Tryd.prog w = .ok q w) : (execOp ρ o).run Tryd.prog w = .ok (.value q) w := by
  unfold execOp
  simp only [ho, hx, Sem.run_bind, h, Result.andThen_ok, Sem.run_pure]
theorem exec_field (ho : o.op = .field t x i) (hx : ρ x = p) (h : (Instr.field t p i).run Tryd.prog w = .ok q w) : (execOp ρ o).run Tryd.prog w = .ok (.value q) w := by
  unfold execOp
  simp only [ho, hx, Sem.run_bind, h, Result.andThen_ok, Sem.run_pure]
theorem exec_ld (ho : o.op = .load t x) (hx : ρ x = p) (h : (Instr.loadAt t p).run Tryd.prog w = .ok q w) : (execOp ρ o).run Tryd.prog w = .ok (.value q) w := by
  unfold execOp
  simp only [ho, hx, Sem.run_bind, h, Result.andThen_ok, Sem.run_pure]
theorem exec_ix (ho : o.op = .indexAddr t x y) {u : Value} (hx : ρ x = p) (hy : ρ y = u) (h : (Instr.indexAt t p u).run Tryd.prog w = .ok q w) : (execOp ρ o).run Tryd.prog w = .ok (.value q) w := by
  unfold execOp
  simp only [ho, hx, hy, Sem.run_bind, h, Result.andThen_ok, Sem.run_pure]
theorem exec_nil {b off : Nat} (ho : o.op = .nilCheck x) (hx : ρ x = .pointer (some ⟨b, off, none⟩)) : (execOp ρ o).run Tryd.prog w = .ok (.value (.pointer (some ⟨b, off, none⟩))) w := by
  unfold execOp
  simp only [ho, hx, Sem.run_pure]
theorem exec_st {u : Value} {w' : World} (ho : o.op = .store t x y) (hx : ρ x = p) (hy : ρ y = u) (h : (Instr.storeAt t p u).run Tryd.prog w = .ok () w') : (execOp ρ o).run Tryd.prog w = .ok .skip w' := by
  unfold execOp
  simp only [ho, hx, hy, Sem.run_bind, h, Result.andThen_ok, Sem.run_pure]
theorem exec_add {a b c : Int} (ho : o.op = .binOp .add t x y r) (hx : ρ x = .int .i64 a) (hy : ρ y = .int .i64 b) (h : IntKind.i64.wrap (a + b) = c) : (execOp ρ o).run Tryd.prog w = .ok (.value (.int .i64 c)) w := by
  unfold execOp
  simp [ho, hx, hy, eqGuard, binOp, Op.intArith, h]
theorem exec_sub {a b c : Int} (ho : o.op = .binOp .sub t x y r) (hx : ρ x = .int .i64 a) (hy : ρ y = .int .i64 b) (h : IntKind.i64.wrap (a - b) = c) : (execOp ρ o).run Tryd.prog w = .ok (.value (.int .i64 c)) w := by
  unfold execOp
  simp [ho, hx, hy, eqGuard, binOp, Op.intArith, h]
theorem exec_mul {a b c : Int} (ho : o.op = .binOp .mul t x y r) (hx : ρ x = .int .i64 a) (hy : ρ y = .int .i64 b) (h : IntKind.i64.wrap (a * b) = c) : (execOp ρ o).run Tryd.prog w = .ok (.value (.int .i64 c)) w := by
  unfold execOp
  simp [ho, hx, hy, eqGuard, binOp, Op.intArith, h]
theorem exec_quo {a b c : Int} (ho : o.op = .binOp .quo t x y r) (hx : ρ x = .int .i64 a) (hy : ρ y = .int .i64 b) (h0 : b ≠ 0) (h : IntKind.i64.wrap (a.tdiv b) = c) : (execOp ρ o).run Tryd.prog w = .ok (.value (.int .i64 c)) w := by
  unfold execOp
  simp [ho, hx, hy, eqGuard, binOp, Op.intDiv, h, h0]
theorem exec_rem {a b c : Int} (ho : o.op = .binOp .rem t x y r) (hx : ρ x = .int .i64 a) (hy : ρ y = .int .i64 b) (h0 : b ≠ 0) (h : a.tmod b = c) : (execOp ρ o).run Tryd.prog w = .ok (.value (.int .i64 c)) w := by
  unfold execOp
  simp [ho, hx, hy, eqGuard, binOp, Op.intDiv, h, h0]
end

/-! ### Steps of a plain region -/
section
variable {P : Program} {ops : Array Oper} {rest : List Oper} {o : Oper} {a : Act} {w w' : World} {Q : Exit → Act → World → Prop} {v : Value}
theorem wpList_val (hw : Region.wanted o (yielded ops a.tmps) = true) (h : (execOp a.eval o).run P w = .ok (.value v) w') (hr : wpList P ops Q rest (a.put o.dst v) w') : wpList P ops Q (o :: rest) a w := by
  refine wpList_step fun K hK => ?_
  rw [if_pos hw]
  unfold Oper.wp
  rw [h]
  exact hK _ _ hr
theorem wpList_nul (hw : Region.wanted o (yielded ops a.tmps) = true) (h : (execOp a.eval o).run P w = .ok .skip w') (hr : wpList P ops Q rest (a.put o.dst undef) w') : wpList P ops Q (o :: rest) a w := by
  refine wpList_step fun K hK => ?_
  rw [if_pos hw]
  unfold Oper.wp
  rw [h]
  exact hK _ _ hr
end

section
variable {P : Program} {ops : Array Oper} {rest : List Oper} {o : Oper} {a : Act} {w w' : World} {Q : Exit → Act → World → Prop} {v : Value}
/-- As wpList_val, wpList_nul, of an operation that bears no guard: a miss costs little. -/
theorem wpList_valn (hg : o.guard = none) (h : (execOp a.eval o).run P w = .ok (.value v) w') (hr : wpList P ops Q rest (a.put o.dst v) w') : wpList P ops Q (o :: rest) a w := wpList_val (by unfold Region.wanted; rw [hg]) h hr
theorem wpList_nuln (hg : o.guard = none) (h : (execOp a.eval o).run P w = .ok .skip w') (hr : wpList P ops Q rest (a.put o.dst undef) w') : wpList P ops Q (o :: rest) a w := wpList_nul (by unfold Region.wanted; rw [hg]) h hr
theorem wpList_call {f : FuncId} {vs : Array Value} (hw : Region.wanted o (yielded ops a.tmps) = true) (h : (execOp a.eval o).run P w = .ok (.enter f vs) w) (hc : Calls P f vs w fun e w' => ∃ v, e = .returned v ∧ wpList P ops Q rest (a.put o.dst v) w') : wpList P ops Q (o :: rest) a w := by
  refine wpList_step fun K hK => ?_
  rw [if_pos hw]
  unfold Oper.wp
  rw [h]
  exact hc.mono fun e w'' ⟨v, he, hk⟩ => by subst he; exact hK _ _ hk
end

/-! ### A region that draws its order, whose operations only read and whose calls lay new memory alone: one walk, in the order of the text -/
theorem wp_region_above {B : Nat} {id : Nat} {Q : Exit → Act → World → Prop} {a : Act} {w : World} {l : List Oper} (hB : Region.lexB .any l.toArray = true)
    (h : wpQuiet Tryd.prog l.toArray (Below B w) (fun a' => ∀ w', Below B w w' → Q .normal a' w') l a) : (Code.region id l.toArray true).wp Tryd.prog Q a w :=
  wp_region_quiet (C := Below B w) (by kernel_rfl) hB (bd (Below.refl B w)) (by simpa using h)
section
variable {P : Program} {ops : Array Oper} {C : World → Prop} {Q : Act → Prop} {a : Act} {o : Oper} {rest : List Oper} {v : Value}
theorem qv_skip (hw : Region.wanted o (yielded ops a.tmps) = false) (h : wpQuiet P ops C Q rest (a.put o.dst undef)) : wpQuiet P ops C Q (o :: rest) a :=
  wpQuiet_step fun K hK => by rw [if_neg (by rw [hw]; exact Bool.false_ne_true)]; exact hK _ h
theorem qv_val (hw : Region.wanted o (yielded ops a.tmps) = true) (h : ∀ w, C w → (execOp a.eval o).run P w = .ok (.value v) w) (hr : wpQuiet P ops C Q rest (a.put o.dst v)) : wpQuiet P ops C Q (o :: rest) a :=
  wpQuiet_step fun K hK => by
    rw [if_pos hw]
    exact ⟨v, fun w hC => by unfold Oper.quietAt; rw [h w hC]; exact ⟨rfl, rfl⟩, hK _ hr⟩
theorem qv_call {f : FuncId} {vs : Array Value} (hw : Region.wanted o (yielded ops a.tmps) = true) (h : ∀ w, (execOp a.eval o).run P w = .ok (.enter f vs) w) (hc : ∀ w, C w → Calls P f vs w fun e w'' => e = .returned v ∧ C w'') (hr : wpQuiet P ops C Q rest (a.put o.dst v)) : wpQuiet P ops C Q (o :: rest) a :=
  wpQuiet_step fun K hK => by
    rw [if_pos hw]
    exact ⟨v, fun w hC => by unfold Oper.quietAt; rw [h w]; exact ⟨rfl, hc w hC⟩, hK _ hr⟩
end

/-! ### A region that draws its order, its head walked in one world -/
section
variable {P : Program} {ops : Array Oper} {w : World} {Q : Act → Prop} {a : Act} {o : Oper} {rest : List Oper} {v : Value}
theorem st_val (hw : Region.wanted o (yielded ops a.tmps) = true) (h : (execOp a.eval o).run P w = .ok (.value v) w) (hr : wpStill P ops w Q rest (a.put o.dst v)) : wpStill P ops w Q (o :: rest) a :=
  wpStill_step fun K hK => by
    rw [if_pos hw]
    unfold Oper.still
    rw [h, Oper.stillUpon_value]
    exact hK _ hr
end

/-! ### A region that draws its order, under a condition that is held throughout: number by number -/
section
variable {P : Program} {md : Region.Mode} {l : List Oper} {Q : Exit → Act → World → Prop} {S : World → Prop} {fuel : Nat} {listed : Array Bool} {a : Act} {w : World} {o : Oper} {v : Value}
theorem held_val (i : Nat) (hi : l[i]? = some o) (hs : Region.noSelect l.toArray = true) (hf : Region.free md l.toArray listed i = true) (hr : (Region.ready md l.toArray listed).contains i = true)
    (hw : Region.wanted o (yielded l.toArray a.tmps) = true) (h : ∀ w, S w → (execOp a.eval o).run P w = .ok (.value v) w) (hQ : ∀ c a w, Q (.panic c) (a.put o.dst v) w → Q (.panic c) a w) (hS : S w)
    (hk : wpAnyH P md l.toArray Q S fuel (listed.setIfInBounds i true) (a.put o.dst v) w) : wpAnyH P md l.toArray Q S (fuel + 1) listed a w :=
  wpAnyH_take (by simpa using hi) hs hf hr hQ (.inl ⟨hw, h⟩) hS hk
theorem held_call (i : Nat) {f : FuncId} {vs : Array Value} (hi : l[i]? = some o) (hr : Region.ready md l.toArray listed = [i]) (hw : Region.wanted o (yielded l.toArray a.tmps) = true) (h : (execOp a.eval o).run P w = .ok (.enter f vs) w)
    (hc : Calls P f vs w fun e w' => ∃ v, e = .returned v ∧ S w' ∧ wpAnyH P md l.toArray Q S fuel (listed.setIfInBounds i true) (a.put o.dst v) w') : wpAnyH P md l.toArray Q S (fuel + 1) listed a w :=
  wpAnyH_all hr (by simp) fun j hj => by
    obtain rfl : j = i := by simpa using hj
    unfold wpOp
    simp only [List.getElem?_toArray, hi, hw, if_true]
    refine .inl ?_
    unfold Oper.wp
    rw [h]
    exact hc.mono fun e w' ⟨v, he, hk⟩ => by subst he; exact hk
theorem held_nul (i : Nat) {w' : World} (hi : l[i]? = some o) (hr : Region.ready md l.toArray listed = [i]) (hw : Region.wanted o (yielded l.toArray a.tmps) = true) (h : (execOp a.eval o).run P w = .ok .skip w')
    (hS : S w') (hk : wpAnyH P md l.toArray Q S fuel (listed.setIfInBounds i true) (a.put o.dst undef) w') : wpAnyH P md l.toArray Q S (fuel + 1) listed a w :=
  wpAnyH_all hr (by simp) fun j hj => by
    obtain rfl : j = i := by simpa using hj
    unfold wpOp
    simp only [List.getElem?_toArray, hi, hw, if_true]
    refine .inl ?_
    unfold Oper.wp
    rw [h]
    exact ⟨hS, hk⟩
end

/-! ### More steps -/
section
variable {ρ : Operand → Value} {o : Oper} {x y z : Operand} {w : World} {t r : TypeId} {k : IntKind}
theorem exec_pick_t (ho : o.op = .pick x y z) (hx : ρ x = .bool true) : (execOp ρ o).run Tryd.prog w = .ok (.value (ρ y)) w := by
  unfold execOp
  simp [ho, hx, asBool]
theorem exec_pick_f (ho : o.op = .pick x y z) (hx : ρ x = .bool false) : (execOp ρ o).run Tryd.prog w = .ok (.value (ρ z)) w := by
  unfold execOp
  simp [ho, hx, asBool]
theorem exec_not (b : Bool) (ho : o.op = .unOp .not t x) (hx : ρ x = .bool b) : (execOp ρ o).run Tryd.prog w = .ok (.value (.bool (!b))) w := by
  unfold execOp
  simp [ho, hx, Op.unary]
theorem exec_eqInt {a b : Int} (c : Bool) (ho : o.op = .binOp .eql t x y r) (hx : ρ x = .int k a) (hy : ρ y = .int k b) (h : (a == b) = c) : (execOp ρ o).run Tryd.prog w = .ok (.value (.bool c)) w := by
  unfold execOp
  simp [ho, hx, hy, eqGuard, binOp, Op.intCmp, h]
theorem exec_neInt {a b : Int} (c : Bool) (ho : o.op = .binOp .neq t x y r) (hx : ρ x = .int k a) (hy : ρ y = .int k b) (h : (a != b) = c) : (execOp ρ o).run Tryd.prog w = .ok (.value (.bool c)) w := by
  unfold execOp
  simp [ho, hx, hy, eqGuard, binOp, Op.intCmp, h]
theorem exec_eqBool {a b : Bool} (c : Bool) (ho : o.op = .binOp .eql 4 x y r) (hx : ρ x = .bool a) (hy : ρ y = .bool b) (h : (a == b) = c) : (execOp ρ o).run Tryd.prog w = .ok (.value (.bool c)) w := by
  have he := run_equalIn_bool' (P := Tryd.prog) w 9999 4 a b Tryd.underlying4
  unfold execOp
  simp [ho, hx, hy, eqGuard, binOp, Op.equal, Op.maxDepth, he, h]
end
/-! Values out of a frame that is written out: by its list, so that the kernel has little to do. -/
theorem ev {ts : List Value} {ds : List Deferred} {d : Nat} {v : Value} (h : ts[d]? = some v) : (Act.mk ts.toArray ds).eval (.tmp d) = v := by
  simp [Act.eval, h]
theorem evk {a : Act} {v : Value} : a.eval (.const v) = v := rfl
theorem evc {ρ : Operand → Value} {x : Operand} {xs : List Operand} {v : Value} {vs : List Value} (h : ρ x = v) (hs : xs.map ρ = vs) : (x :: xs).map ρ = v :: vs := by
  rw [List.map_cons, h, hs]
theorem evn {ρ : Operand → Value} : ([] : List Operand).map ρ = [] := rfl
theorem wanted_of {l : List Oper} {ts : List Value} {o oj : Oper} {j d : Nat} {b : Bool} (hg : o.guard = some (j, b)) (hj : l[j]? = some oj) (hd : oj.dst = some d) (hv : ts[d]? = some (.bool b)) : Region.wanted o (yielded l.toArray ts.toArray) = true := by
  unfold Region.wanted yielded
  simp [hg, hj, hd, hv]
section
variable {ρ : Operand → Value} {o : Oper} {x y z : Operand} {w : World} {v : Value}
theorem exec_mv (ho : o.op = .move x) (hx : ρ x = v) : (execOp ρ o).run Tryd.prog w = .ok (.value v) w := by rw [exec_move ho, hx]
theorem exec_as (ho : o.op = .assign x) (hx : ρ x = v) : (execOp ρ o).run Tryd.prog w = .ok (.value v) w := by rw [exec_assign ho, hx]
theorem exec_pt (ho : o.op = .pick x y z) (hx : ρ x = .bool true) (hy : ρ y = v) : (execOp ρ o).run Tryd.prog w = .ok (.value v) w := by rw [exec_pick_t ho hx, hy]
theorem exec_pf (ho : o.op = .pick x y z) (hx : ρ x = .bool false) (hz : ρ z = v) : (execOp ρ o).run Tryd.prog w = .ok (.value v) w := by rw [exec_pick_f ho hx, hz]
theorem exec_cl {f : FuncId} {args : List Operand} {vs : List Value} {ats : Array TypeId} {a : Act} (hf : ∀ args w, (callFunc f args).run Tryd.prog w = .ok (.enter f args) w) (ho : o.op = .call { callee := .value (.func f), args := args.toArray, argTypes := ats }) (hv : args.map a.eval = vs) :
    (execOp a.eval o).run Tryd.prog w = .ok (.enter f vs.toArray) w := by rw [exec_call hf ho, hv]
end
theorem above_of {f : FuncId} {vs : Array Value} {w0 : World} {B : Nat} {v : Value} (hB : B ≤ w0.heap.size) (h : ∀ w', Below B w0 w' → Calls Tryd.prog f vs w' fun e w'' => e = .returned v ∧ Below w'.heap.size w' w'') :
    ∀ w', Below B w0 w' → Calls Tryd.prog f vs w' fun e w'' => e = .returned v ∧ Below B w0 w'' :=
  fun w' hw => (h w' hw).mono fun _ _ hh => ⟨hh.1, hw.trans (hh.2.mono (Nat.le_trans hB hw.size))⟩

end Go.Proofs.YtiilclncedipiaaDoor
namespace Go.Proofs.YtiilclncedipiaaDoor
open Go.RowKit
set_option linter.unusedVariables false

abbrev Blk := Vector UInt8 64
def zeroB : Blk := Vector.replicate 64 0
/-- A block's cells. -/
def cel (b : Blk) : List Value := b.toList.map fun u => .int .u8 (u.toNat : Int)
/-- A block as a value. -/
def blk (b : Blk) : Value := .agg (cel b).toArray
/-- Byte number j of a block. -/
def byt (b : Blk) (j : Nat) : Int := bt b.toList j
theorem byt_lo (b : Blk) (j : Nat) : 0 ≤ byt b j := bt_lo _ _
theorem byt_hi (b : Blk) (j : Nat) : byt b j ≤ 255 := bt_hi _ _
theorem byt_get (b : Blk) {j : Nat} (h : j < 64) : byt b j = (b[j].toNat : Int) := by
  unfold byt
  rw [bt_get (by simpa using h)]
  simp
theorem cel_length (b : Blk) : (cel b).length = 64 := by simp [cel]
theorem cel_at (b : Blk) {j : Nat} (h : j < 64) : (cel b)[j]? = some (.int .u8 (byt b j)) := by
  rw [byt_get b h]
  simp [cel, h]
theorem cel_one (b : Blk) : ∀ v ∈ cel b, v.oneCell' = true := by
  intro v hv
  simp only [cel, List.mem_map] at hv
  obtain ⟨u, _, rfl⟩ := hv
  rfl
theorem blk_ext {a b : Blk} (h : ∀ j, j < 64 → byt a j = byt b j) : a = b := by
  apply Vector.ext
  intro i hi
  have := h i hi
  rw [byt_get a hi, byt_get b hi] at this
  exact UInt8.toNat_inj.1 (by omega)
theorem cells_blk (b : Blk) : (blk b).cells = (cel b).toArray := rfl

theorem infoB : (Tryd.prog.info? 31).map (fun i => (i.zero, i.size, i.bytes)) = some (some (blk zeroB), 64, 64) := by kernel_rfl
theorem undB : Tryd.prog.underlying 31 = some (.array 64 5) := Tryd.underlying31
theorem sizeB : (Tryd.prog.info? 31).map (·.size) = some 64 := by kernel_rfl
theorem guardB : Tryd.prog.eqGuardType Tryd.prog.depth 31 = false := by kernel_rfl

section
variable {w : World} {b off : Nat} {c : Blk}
theorem run_load (hc : w.rangeAt b off (cel c)) : (Instr.loadAt 31 (.pointer (some ⟨b, off, none⟩))).run Tryd.prog w = .ok (blk c) w :=
  run_loadAt_mid w b off 31 (cel c) _ hc undB rfl (by rw [cel_length]; exact sizeB)
theorem run_store (ht : w.there b off 64) : (Instr.storeAt 31 (.pointer (some ⟨b, off, none⟩)) (blk c)).run Tryd.prog w = .ok () (w.setCells b off (cel c)) := by
  have := run_storeAt_mid (P := Tryd.prog) w b off 31 (cel c).toArray (by simpa [cel_length] using ht) (by simpa [cel_length] using sizeB) (all_oneCell_toArray (cel_one c))
  simpa [blk] using this
theorem run_zeroB (w : World) : (zeroValue 31).run Tryd.prog w = .ok (blk zeroB) w := by
  have h := infoB
  cases hq : Tryd.prog.info? 31 with
  | none => rw [hq] at h; cases h
  | some i =>
    rw [hq] at h
    simp only [Option.map_some, Option.some.injEq, Prod.mk.injEq] at h
    simp [zeroValue, typeInfo, hq, h.1]
theorem run_newVar (w : World) (v : Value) : (newVar 31 v).run Tryd.prog w = .ok ⟨w.heap.size, 0, none⟩ (w.alloc (.cells v.cells 31)) := by
  simp [newVar, newRow]
theorem run_box (w : World) (c : Blk) : (Instr.box 31 (blk c)).run Tryd.prog w = .ok (.pointer (some ⟨w.heap.size, 0, none⟩)) (w.alloc (.cells (cel c).toArray 31)) := by
  simp [Instr.box, run_newVar, cells_blk]
theorem run_alloc (w : World) : (Instr.alloc 31 true (.tuple #[])).run Tryd.prog w = .ok (.pointer (some ⟨w.heap.size, 0, none⟩)) (w.alloc (.cells (cel zeroB).toArray 31)) := by
  simp only [Instr.alloc, Sem.run_bind, run_zeroB, Result.andThen_ok, run_newVar, Sem.run_pure, cells_blk]
end

/-! ### Comparing -/
theorem run_partB (w : World) (c : Blk) (i : Nat) (hi : i < 64) : (part 5 (cel c).toArray (i * 1)).run Tryd.prog w = .ok (.int .u8 (byt c i)) w := by
  have := cel_at c hi
  simp [part, this]
theorem run_eqB (w : World) (a b : Blk) (d : Nat) : (Op.equalIn (d + 2) 31 (blk a) (blk b)).run Tryd.prog w = .ok (decide (a = b)) w := by
  have he : ∀ x y : Int, (Op.equalIn (d + 1) 5 (.int .u8 x) (.int .u8 y)).run Tryd.prog w = .ok (x == y) w := fun x y => run_equalIn_int w d 5 .u8 .u8 x y Tryd.underlying5
  show (Op.equalIn ((d + 1) + 1) 31 (blk a) (blk b)).run Tryd.prog w = .ok (decide (a = b)) w
  generalize d + 1 = e at *
  have key : ∀ (l : List Nat), (∀ i ∈ l, i < 64) →
      ((forIn l ((none : Option Bool), ()) fun i r => do
        let x ← part 5 (cel a).toArray (i * 1)
        let y ← part 5 (cel b).toArray (i * 1)
        let z ← Op.equalIn e 5 x y
        if (!z) = true then pure (ForInStep.done (some false, ())) else pure (ForInStep.yield (none, ())) : Sem _)).run Tryd.prog w =
      .ok (if l.all (fun i => byt a i == byt b i) then (none, ()) else (some false, ())) w := by
    intro l
    induction l with
    | nil => intro _; simp
    | cons i l ih =>
      intro hl
      have hi := hl i (by simp)
      simp only [List.forIn_cons, Sem.run_bind, run_partB w a i hi, run_partB w b i hi, Result.andThen_ok, he]
      by_cases h : byt a i = byt b i
      · have hb : (byt a i == byt b i) = true := by simpa using h
        simp only [hb, Bool.not_true, Bool.false_eq_true, if_false, Sem.run_pure, Result.andThen_ok, List.all_cons, Bool.true_and]
        exact ih fun j hj => hl j (by simp [hj])
      · have hb : (byt a i == byt b i) = false := by simpa using h
        simp [hb]
  have hall : ((List.range' 0 64).all fun i => byt a i == byt b i) = decide (a = b) := by
    rw [Bool.eq_iff_iff, List.all_eq_true, decide_eq_true_iff]
    constructor
    · intro h
      exact blk_ext fun j hj => by simpa using h j (by simp [List.mem_range']; omega)
    · rintro rfl i _
      simp
  have hk := key (List.range' 0 64) (fun i hi => by simp [List.mem_range'] at hi; omega)
  rw [hall] at hk
  simp only [Op.equalIn, blk, Sem.run_bind, run_underlying undB, Result.andThen_ok, Tryd.sizeOf5, Std.Legacy.Range.forIn_eq_forIn_range']
  simp only [Std.Legacy.Range.size, Nat.sub_zero, Nat.add_sub_cancel, Nat.div_one]
  rw [hk]
  by_cases h : a = b
  · simp [h]
  · simp [h]
end Go.Proofs.YtiilclncedipiaaDoor
namespace Go.Proofs.YtiilclncedipiaaDoor
open Go.RowKit
set_option linter.unusedVariables false

/-! ### What one operation does -/
section
variable {ρ : Operand → Value} {o : Oper} {x y : Operand} {w : World} {b off : Nat} {c d : Blk}
theorem exec_load (ho : o.op = .load 31 x) (hx : ρ x = .pointer (some ⟨b, off, none⟩)) (hc : w.rangeAt b off (cel c)) : (execOp ρ o).run Tryd.prog w = .ok (.value (blk c)) w := by
  unfold execOp
  simp only [ho, hx, Sem.run_bind, run_load hc, Result.andThen_ok, Sem.run_pure]
theorem exec_store (ho : o.op = .store 31 x y) (hx : ρ x = .pointer (some ⟨b, off, none⟩)) (hy : ρ y = blk c) (ht : w.there b off 64) : (execOp ρ o).run Tryd.prog w = .ok .skip (w.setCells b off (cel c)) := by
  unfold execOp
  simp only [ho, hx, hy, Sem.run_bind, run_store ht, Result.andThen_ok, Sem.run_pure]
theorem exec_fill (ho : o.op = .store 31 x y) (hx : ρ x = .pointer (some ⟨w.heap.size, 0, none⟩)) (hy : ρ y = blk c) : (execOp ρ o).run Tryd.prog (w.alloc (.cells (cel d).toArray 31)) = .ok .skip (w.alloc (.cells (cel c).toArray 31)) := by
  have h := run_storeAt_new (P := Tryd.prog) w 31 (cel d).toArray (cel c).toArray (by simpa [cel_length] using sizeB) (by simp [cel_length]) (all_oneCell_toArray (cel_one c))
  unfold execOp
  simp only [ho, hx, hy, Sem.run_bind]
  unfold blk
  rw [h]
  simp
theorem exec_box (ho : o.op = .box 31 x) (hx : ρ x = blk c) : (execOp ρ o).run Tryd.prog w = .ok (.value (.pointer (some ⟨w.heap.size, 0, none⟩))) (w.alloc (.cells (cel c).toArray 31)) := by
  unfold execOp
  simp only [ho, hx, Sem.run_bind, run_box, Result.andThen_ok, Sem.run_pure]
theorem exec_alloc (ho : o.op = .alloc 31) : (execOp ρ o).run Tryd.prog w = .ok (.value (.pointer (some ⟨w.heap.size, 0, none⟩))) (w.alloc (.cells (cel zeroB).toArray 31)) := by
  unfold execOp
  simp only [ho, Sem.run_bind, run_alloc, Result.andThen_ok, Sem.run_pure]
theorem run_guardB (op : BinOp) (x y : Operand) (c d : Blk) (w : World) : (eqGuard op 31 x y (blk c) (blk d)).run Tryd.prog w = .ok () w := run_eqGuard_agg w op _ x y _ _ guardB
theorem exec_eql {t : TypeId} (ho : o.op = .binOp .eql 31 x y t) (hx : ρ x = blk c) (hy : ρ y = blk d) : (execOp ρ o).run Tryd.prog w = .ok (.value (.bool (decide (c = d)))) w := by
  have h := run_eql_struct (P := Tryd.prog) w 31 (cel c).toArray (cel d).toArray
  have he := run_eqB w c d 9998
  unfold blk at he
  rw [he] at h
  unfold execOp
  simp only [ho, hx, hy, Sem.run_bind, run_guardB, Result.andThen_ok]
  unfold blk
  rw [h]
  simp
theorem exec_neq {t : TypeId} (ho : o.op = .binOp .neq 31 x y t) (hx : ρ x = blk c) (hy : ρ y = blk d) : (execOp ρ o).run Tryd.prog w = .ok (.value (.bool (!decide (c = d)))) w := by
  have h := run_neq_struct (P := Tryd.prog) w 31 (cel c).toArray (cel d).toArray
  have he := run_eqB w c d 9998
  unfold blk at he
  rw [he] at h
  unfold execOp
  simp only [ho, hx, hy, Sem.run_bind, run_guardB, Result.andThen_ok]
  unfold blk
  rw [h]
  simp
theorem run_build {parts : List (Nat × Value)} (h : Instr.fill (fun i => some (i * 1, 1)) (cel zeroB).toArray parts = some (cel c).toArray) (w : World) : (Instr.build 31 parts.toArray).run Tryd.prog w = .ok (blk c) w := by
  simp only [Instr.build, Sem.run_bind, run_zeroB, run_underlying undB, Result.andThen_ok, Tryd.sizeOf5, cells_blk, h, Sem.run_pure]
  rfl
theorem exec_build {parts : List (Nat × Operand)} (ho : o.op = .build 31 parts.toArray) (h : Instr.fill (fun i => some (i * 1, 1)) (cel zeroB).toArray (parts.map fun (i, x) => (i, ρ x)) = some (cel c).toArray) : (execOp ρ o).run Tryd.prog w = .ok (.value (blk c)) w := by
  unfold execOp
  simp only [ho, List.map_toArray, Sem.run_bind, run_build h, Result.andThen_ok, Sem.run_pure]
end

/-! ### Results -/
theorem res_blk {fn : Func} {p : Tmp} {c : Blk} (h : fn.results = #[.cell p 31]) (tmps : Array Value) (w : World) (b : Nat) (hp : tmps.getD p undef = .pointer (some ⟨b, 0, none⟩)) (hc : w.rangeAt b 0 (cel c)) :
    (results fn tmps).run Tryd.prog w = .ok (blk c) w := by
  have hl : (loadVar 31 ⟨b, 0, none⟩).run Tryd.prog w = .ok (blk c) w := run_loadVar_mid w b 0 31 (cel c) _ hc undB rfl (by rw [cel_length]; exact sizeB)
  have hp' : tmps[p]?.getD undef = .pointer (some ⟨b, 0, none⟩) := by simpa using hp
  simp [results, h, hp', asAddr, hl]
theorem res_blk2 {fn : Func} {p u : Tmp} {c : Blk} (h : fn.results = #[.cell p 31, .tmp u]) (tmps : Array Value) (w : World) (b : Nat) (hp : tmps.getD p undef = .pointer (some ⟨b, 0, none⟩)) (hc : w.rangeAt b 0 (cel c)) :
    (results fn tmps).run Tryd.prog w = .ok (.tuple #[blk c, tmps.getD u undef]) w := by
  have hl : (loadVar 31 ⟨b, 0, none⟩).run Tryd.prog w = .ok (blk c) w := run_loadVar_mid w b 0 31 (cel c) _ hc undB rfl (by rw [cel_length]; exact sizeB)
  have hp' : tmps[p]?.getD undef = .pointer (some ⟨b, 0, none⟩) := by simpa using hp
  simp [results, h, hp', asAddr, hl]

/-! ### Ranges -/
section
variable {w w' : World} {B b o n : Nat} {cs : List Value} {c : Blk}
theorem range_below (h : w.rangeAt b o cs) (hb : b < B) (hw : Below B w w') : w'.rangeAt b o cs := fun j v hj => by
  rw [hw.cell (p := ⟨b, o + j, none⟩) hb]; exact h j v hj
theorem there_below (h : w.there b o n) (hb : b < B) (hw : Below B w w') : w'.there b o n := fun j hj => by
  rw [hw.cell (p := ⟨b, o + j, none⟩) hb, hw.frozen (p := ⟨b, o + j, none⟩) hb]; exact h j hj
theorem range_new (w : World) (cs : List Value) (t : TypeId) : (w.alloc (.cells cs.toArray t)).rangeAt w.heap.size 0 cs := fun j v hj => by
  rw [cell_of_row _ _ (0 + j) cs.toArray t (0, 0) (heap_alloc_new w _)]
  simpa using hj
theorem there_new (w : World) (c : Blk) (t : TypeId) : (w.alloc (.cells (cel c).toArray t)).there w.heap.size 0 64 := fun j hj => by
  rw [cell_of_row _ _ (0 + j) _ t (0, 0) (heap_alloc_new w _), frozen_of_row _ _ (0 + j) _ t (heap_alloc_new w _)]
  exact ⟨by simp [cel_length]; omega, rfl⟩
theorem there_row {g m : Nat} {t : TypeId} {f : Nat → Value} (h : w.rowIs g t m f) (ho : o + n ≤ m) : w.there g o n := fun j hj => by
  rw [h.cell (i := o + j) (by omega), h.frozen (o + j)]
  exact ⟨rfl, rfl⟩
theorem range_row {g m : Nat} {t : TypeId} {f : Nat → Int} (h : w.rowIs g t m (fun j => .int .u8 (f j))) (ho : o + 64 ≤ m) (hf : ∀ j, j < 64 → f (o + j) = byt c j) : w.rangeAt g o (cel c) := fun j v hj => by
  have hlt : j < 64 := by have := (List.getElem?_eq_some_iff.1 hj).1; rwa [cel_length] at this
  rw [h.cell (i := o + j) (by omega), ← hj, cel_at c hlt]
  show some (Value.int .u8 (f (o + j))) = _
  rw [hf j hlt]
theorem row_new (w : World) (c : Blk) (t : TypeId) : (w.alloc (.cells (cel c).toArray t)).rowIs w.heap.size t 64 (fun j => .int .u8 (byt c j)) := by
  have h := World.rowIs_alloc w (cel c).toArray t (fun j => .int .u8 (byt c j)) (fun i hi => by
    have : i < 64 := by simpa [cel_length] using hi
    simpa using cel_at c this)
  simpa [cel_length] using h
theorem blk_setCells (b : Nat) : ∀ (vs : List Value) (o : Nat) (w : World) (k : Nat), k ≠ b → (w.setCells b o vs).heap[k]? = w.heap[k]?
  | [], _, _, _, _ => rfl
  | v :: r, o, w, k, h => by
    rw [World.setCells, blk_setCells b r (o + 1) _ k h]
    exact heap_setCell_other w ⟨b, o, none⟩ k v h
theorem heap_setCells (b : Nat) : ∀ (vs : List Value) (o : Nat) (w : World), (w.setCells b o vs).heap.size = w.heap.size ∧ (w.setCells b o vs).os = w.os ∧ (w.setCells b o vs).tape = w.tape ∧ (w.setCells b o vs).output = w.output
  | [], _, _ => ⟨rfl, rfl, rfl, rfl⟩
  | v :: r, o, w => by
    have h := heap_setCells b r (o + 1) (w.setCell ⟨b, o, none⟩ v)
    rw [World.setCells]
    refine ⟨h.1.trans ?_, h.2.1.trans rfl, h.2.2.1.trans rfl, h.2.2.2.trans rfl⟩
    simp [World.setCell]
theorem below_setCells {a : World} (h : Below B a w) {b o : Nat} (hb : B ≤ b) (vs : List Value) : Below B a (w.setCells b o vs) := by
  obtain ⟨h1, h2, h3, h4⟩ := heap_setCells b vs o w
  exact ⟨h2.trans h.os, h3.trans h.tape, h4.trans h.output, by rw [h1]; exact h.size, fun k hk => (blk_setCells b vs o w k (by omega)).trans (h.block k hk)⟩
/-- A whole row's content with a block laid into it. -/
def lay (f : Nat → Int) (o : Nat) (c : Blk) : Nat → Int := fun j => if o ≤ j ∧ j < o + 64 then byt c (j - o) else f j
end

theorem cel_set (c : Blk) {r : Nat} (hr : r < 64) (u : UInt8) : (cel c).set r (.int .u8 (u.toNat : Int)) = cel (c.set r u) := by
  unfold cel
  rw [← List.map_set, Vector.toList_set]
end Go.Proofs.YtiilclncedipiaaDoor
namespace Go.Proofs.YtiilclncedipiaaDoor
open Go.RowKit
set_option linter.unusedVariables false

theorem wrap64_nat {n : Nat} (h : n < 9223372036854775808) : wrap64 (n : Int) = (n : Int) := by unfold wrap64; omega
/-! Blocks of memory that a walk laid: kept by whatever a callee lays. -/
theorem blk_keep {w w' : World} {b : Nat} {o : Obj} (h : w.heap[b]? = some o) (hb : Below w.heap.size w w') : w'.heap[b]? = some o := (hb.block b (Array.getElem?_eq_some_iff.1 h).1).trans h
theorem blk_keep2 {w w' : World} {B b : Nat} {o : Obj} (h : w.heap[b]? = some o) (hB : b < B) (hb : Below B w w') : w'.heap[b]? = some o := (hb.block b hB).trans h
theorem blk_past {w : World} {b : Nat} {o : Obj} (h : w.heap[b]? = some o) (o' : Obj) : (w.alloc o').heap[b]? = some o := (Below.heap_alloc w o' b (Array.getElem?_eq_some_iff.1 h).1).trans h
theorem blk_lt {w : World} {b : Nat} {o : Obj} (h : w.heap[b]? = some o) : b < w.heap.size := (Array.getElem?_eq_some_iff.1 h).1
section
variable {w : World} {b : Nat} {t : TypeId} {x y z : Value}
theorem cells2 (h : w.heap[b]? = some (.cells #[x, y] t (0, 0))) : w.cell? ⟨b, 0, none⟩ = some x ∧ w.cell? ⟨b, 1, none⟩ = some y ∧ w.frozen? ⟨b, 0, none⟩ = false ∧ w.frozen? ⟨b, 1, none⟩ = false := by
  refine ⟨?_, ?_, frozen_of_row w b 0 _ t h, frozen_of_row w b 1 _ t h⟩
  · rw [cell_of_row w b 0 _ t (0, 0) h]; rfl
  · rw [cell_of_row w b 1 _ t (0, 0) h]; rfl
theorem cells3 (h : w.heap[b]? = some (.cells #[x, y, z] t (0, 0))) : w.cell? ⟨b, 0, none⟩ = some x ∧ w.cell? ⟨b, 1, none⟩ = some y ∧ w.cell? ⟨b, 2, none⟩ = some z := by
  refine ⟨?_, ?_, ?_⟩
  · rw [cell_of_row w b 0 _ t (0, 0) h]; rfl
  · rw [cell_of_row w b 1 _ t (0, 0) h]; rfl
  · rw [cell_of_row w b 2 _ t (0, 0) h]; rfl
end
/-- Behind a first callee: what was boxed ahead of it stands. -/
theorem behind_g {w w1 : World} {o : Obj} (hb : Below (w.alloc o).heap.size (w.alloc o) w1) (hf : (w.alloc o).heap[w.heap.size]? = some o) : Hid (w1.heap[w.heap.size]? = some o) ∧ Hid (Below w.heap.size w w1) :=
  ⟨Lib.hid (blk_keep hf hb), Lib.hid (((Below.refl w.heap.size w).alloc (Nat.le_refl _) _).trans (hb.mono (by simp)))⟩
theorem behind_gp {w w1 : World} {o o' : Obj} (hb : Below ((w.alloc o).alloc o').heap.size ((w.alloc o).alloc o') w1) (hf : (w.alloc o).heap[w.heap.size]? = some o) (hf' : ((w.alloc o).alloc o').heap[w.heap.size + 1]? = some o') :
    Hid (w1.heap[w.heap.size]? = some o) ∧ Hid (w1.heap[w.heap.size + 1]? = some o') ∧ w.heap.size + 1 < w1.heap.size ∧ Hid (Below w.heap.size w w1) :=
  ⟨Lib.hid (blk_keep (blk_past hf o') hb), Lib.hid (blk_keep hf' hb), blk_lt (blk_keep hf' hb), Lib.hid ((((Below.refl w.heap.size w).alloc (Nat.le_refl _) _).alloc (by simp) _).trans (hb.mono (by simp; omega)))⟩
theorem new1 (w : World) (cs : Array Value) (t : TypeId) : (w.alloc (.cells cs t)).heap[w.heap.size]? = some (.cells cs t) := heap_alloc_new w _
theorem new2 (w : World) (o : Obj) (cs : Array Value) (t : TypeId) : ((w.alloc o).alloc (.cells cs t)).heap[w.heap.size + 1]? = some (.cells cs t) := by
  have := heap_alloc_new (w.alloc o) (.cells cs t)
  rwa [World.size_alloc] at this
end Go.Proofs.YtiilclncedipiaaDoor
namespace Go.Proofs.YtiilclncedipiaaDoor
open Go.RowKit
set_option linter.unusedVariables false

/-- Four blocks laid one behind the other. -/
def four_ (w : World) (a b c d : Blk) : World := (((w.alloc (.cells (cel a).toArray 31)).alloc (.cells (cel b).toArray 31)).alloc (.cells (cel c).toArray 31)).alloc (.cells (cel d).toArray 31)
theorem laid4 (w : World) (a b c d : Blk) : (four_ w a b c d).rangeAt w.heap.size 0 (cel a) ∧ (four_ w a b c d).rangeAt (w.heap.size + 1) 0 (cel b) ∧ (four_ w a b c d).there (w.heap.size + 1 + 1) 0 64 ∧
    (four_ w a b c d).rowIs (w.heap.size + 1 + 1 + 1) 31 64 (fun j => .int .u8 (byt d j)) ∧ Below w.heap.size w (four_ w a b c d) := by
  unfold four_
  have e1 := World.size_alloc (w := w) (o := Obj.cells (cel a).toArray 31)
  have e2 := World.size_alloc (w := (w.alloc (.cells (cel a).toArray 31))) (o := Obj.cells (cel b).toArray 31)
  have e3 := World.size_alloc (w := (w.alloc (.cells (cel a).toArray 31)).alloc (.cells (cel b).toArray 31)) (o := Obj.cells (cel c).toArray 31)
  refine ⟨World.rangeAt_alloc (World.rangeAt_alloc (World.rangeAt_alloc (range_new w (cel a) _) _) _) _, ?_, ?_, ?_, ?_⟩
  · rw [← e1]; exact World.rangeAt_alloc (World.rangeAt_alloc (range_new _ (cel b) _) _) _
  · rw [← e1, ← e2]; exact World.there_alloc (there_new _ c _) _
  · rw [← e1, ← e2, ← e3]; exact row_new _ d _
  · exact ((((Below.refl _ w).alloc (Nat.le_refl _) _).alloc (by omega) _).alloc (by omega) _).alloc (by omega) _

/-- The first bytes of a new block, the others of an old one. -/
def torn (old now : Blk) (n : Int) : Blk := Vector.ofFn fun i => if (i.val : Int) < n then now[i] else old[i]
theorem torn_get (old now : Blk) (n : Int) (i : Nat) (h : i < 64) : (torn old now n)[i] = if (i : Int) < n then now[i] else old[i] := by simp [torn]
theorem torn_byt (old now : Blk) (n : Int) {i : Nat} (h : i < 64) : byt (torn old now n) i = if (i : Int) < n then byt now i else byt old i := by
  rw [byt_get _ h, torn_get _ _ _ _ h]
  split
  · rw [byt_get _ h]
  · rw [byt_get _ h]
theorem torn_same (a : Blk) (n : Int) : torn a a n = a := Vector.ext fun i h => by rw [torn_get _ _ _ _ h]; split <;> rfl
end Go.Proofs.YtiilclncedipiaaDoor
namespace Go.Proofs.YtiilclncedipiaaDoor
open Go.RowKit
set_option linter.unusedVariables false
set_option maxRecDepth 100000

set_option maxHeartbeats 800000 in
theorem refTorn_any (a b : Blk) (n : Int) (w : World) : Calls Tryd.prog 22 #[blk a, blk b, .int .i64 n] w fun e w' => e = .returned (blk (torn a b n)) ∧ Below w.heap.size w w' := by
  obtain ⟨hA, hB, hR, hO, hb⟩ := laid4 w a b zeroB a
  obtain ⟨w4, hw4⟩ : ∃ w4, four_ w a b zeroB a = w4 := ⟨_, rfl⟩
  rw [hw4] at hA hB hR hO hb
  have hA0 := World.rangeAt_alloc (World.rangeAt_alloc (range_new w (cel a) 31) (.cells (cel b).toArray 31)) (.cells (cel zeroB).toArray 31)
  have HA0 := Lib.hid hA0
  have HW := Lib.hid hw4
  have HB := Lib.hid hB
  have HR := Lib.hid hR
  clear hw4 hA hB hR hA0
  go_enter Tryd.func22, Tryd.ntmps22
  go_wp2_with (first | (refine wpList_val rfl (exec_box rfl rfl) ?_) | (refine wpList_val rfl (exec_alloc rfl) ?_) | (refine wpList_val rfl (exec_load rfl rfl HA0.out) ?_) | (refine wpList_nul rfl (exec_fill rfl rfl rfl) ?_))
  have hs := HW.out
  unfold four_ at hs
  rw [hs]
  clear hs HW
  generalize hsz : w.heap.size = s at *
  go_loopw [8] (fun i wr => ∃ (j : Nat) (f : Nat → Int), j ≤ 64 ∧ ((j : Int) ≤ n ∨ j = 0) ∧ i = .int .i64 j ∧ wr.rowIs (s + 1 + 1 + 1) 31 64 (fun j => .int .u8 (f j)) ∧ (∀ m, m < 64 → f m = if m < j then byt b m else byt a m) ∧ Below (s + 1 + 1 + 1) w4 wr) (fun i _ => 64 - (intOf i).toNat)
  case atStart => exact ⟨0, byt a, by omega, .inr rfl, rfl, hO, fun m hm => rfl, Below.refl _ _⟩
  case round =>
    obtain ⟨j, f, hj, hjn, rfl, hrow, hf, hbl⟩ := hrel
    have HF := Lib.hid hf
    clear hf hO
    by_cases hlt : j < 64 ∧ (j : Int) < n
    · obtain ⟨h64, hn⟩ := hlt
      first
        | (exfalso; omega)
        | skip
          have hc1 := hrow.cell (i := j) (by omega)
          have hfr := hrow.frozen j
          have hb' := range_below HB.out (by omega) hbl j _ (cel_at b h64)
          rw [Nat.zero_add] at hb'
          go_wp2_with fail
          go_roundw
          case rel =>
            refine ⟨j + 1, upd f j (byt b j), by omega, .inl (by omega), by go_num, row_put hrow _, ?_, hbl.setCell (by simp) _⟩
            intro m hm
            by_cases e : m = j
            · subst e; rw [upd_at, if_pos (by omega)]
            · rw [upd_off _ _ e, HF.out m hm]
              by_cases e2 : m < j
              · rw [if_pos e2, if_pos (by omega)]
              · rw [if_neg e2, if_neg (by omega)]
          case measure => simp [intOf]; omega
    · have hr := range_row (c := torn a b n) (o := 0) hrow (by omega) (fun m hm => by
        rw [Nat.zero_add, HF.out m hm, torn_byt _ _ _ hm]
        by_cases e : m < j
        · rw [if_pos e, if_pos (by omega)]
        · rw [if_neg e, if_neg (by omega)])
      have ht := there_below HR.out (by omega) hbl
      have hex : 64 ≤ j ∨ (j < 64 ∧ n ≤ (j : Int)) := by omega
      have HR2 := Lib.hid hr
      have HT2 := Lib.hid ht
      clear hr ht hlt
      rcases hex with h1 | ⟨h1, h2⟩
      all_goals
        go_wp2_with (first | (refine wpList_val rfl (exec_load rfl rfl HR2.out) ?_) | (refine wpList_nul rfl (exec_store rfl rfl rfl HT2.out) ?_))
        refine bodyPost_ret (res_blk rfl _ _ _ rfl (World.rangeAt_setCells_same _ _ _ _ (by rw [cel_length]; exact HT2.out))) rfl ⟨rfl, ?_⟩
        try rw [hsz]
        exact hb.trans (below_setCells (hbl.mono (by omega)) (by omega) _)
end Go.Proofs.YtiilclncedipiaaDoor
namespace Go.Proofs.YtiilclncedipiaaDoor
open Go.RowKit
set_option linter.unusedVariables false

/-- Operations that are not wanted, one behind the other. -/
def unw (ops : Array Oper) : List Oper → Act → Bool
  | [], _ => true
  | r :: rs, a => !(Region.wanted r (yielded ops a.tmps)) && unw ops rs (a.put r.dst undef)
def skipAct : List Oper → Act → Act
  | [], a => a
  | r :: rs, a => skipAct rs (a.put r.dst undef)
section
variable {P : Program} {ops : Array Oper} {rest l : List Oper} {o : Oper} {a : Act} {w w' : World} {Q : Exit → Act → World → Prop} {v : Value}
theorem wpList_unw : ∀ (rs : List Oper) (a : Act), unw ops rs a = true → wpList P ops Q rest (skipAct rs a) w → wpList P ops Q (rs ++ rest) a w
  | [], _, _, h => h
  | r :: rs, a, hu, h => by
    simp only [unw, Bool.and_eq_true, Bool.not_eq_true'] at hu
    refine wpList_step fun K hK => ?_
    rw [if_neg (by rw [hu.1]; exact Bool.false_ne_true)]
    exact hK _ _ (wpList_unw rs _ hu.2 h)
/-- An operation, and so many behind it that are not wanted. -/
theorem wpList_skips (n : Nat) (hw : Region.wanted o (yielded ops a.tmps) = true) (h : (execOp a.eval o).run P w = .ok (.value v) w') (hu : unw ops (l.take n) (a.put o.dst v) = true) (hr : wpList P ops Q (l.drop n) (skipAct (l.take n) (a.put o.dst v)) w') : wpList P ops Q (o :: l) a w :=
  wpList_val hw h (by have := wpList_unw (P := P) (Q := Q) (l.take n) _ hu hr; rwa [List.take_append_drop] at this)
end
end Go.Proofs.YtiilclncedipiaaDoor
namespace Go.Proofs.YtiilclncedipiaaDoor
open Go.RowKit
set_option linter.unusedVariables false

section
variable {P : Program} {ops : Array Oper} {C : World → Prop} {Q : Act → Prop} {a : Act} {o : Oper} {rest l : List Oper} {v : Value}
theorem wpQuiet_unw : ∀ (rs : List Oper) (a : Act), unw ops rs a = true → wpQuiet P ops C Q rest (skipAct rs a) → wpQuiet P ops C Q (rs ++ rest) a
  | [], _, _, h => h
  | r :: rs, a, hu, h => by
    simp only [unw, Bool.and_eq_true, Bool.not_eq_true'] at hu
    exact qv_skip hu.1 (wpQuiet_unw rs _ hu.2 h)
theorem qv_vals (n : Nat) (hw : Region.wanted o (yielded ops a.tmps) = true) (h : ∀ w, C w → (execOp a.eval o).run P w = .ok (.value v) w) (hu : unw ops (l.take n) (a.put o.dst v) = true) (hr : wpQuiet P ops C Q (l.drop n) (skipAct (l.take n) (a.put o.dst v))) : wpQuiet P ops C Q (o :: l) a :=
  qv_val hw h (by have := wpQuiet_unw (P := P) (C := C) (Q := Q) (l.take n) _ hu hr; rwa [List.take_append_drop] at this)
end
end Go.Proofs.YtiilclncedipiaaDoor
namespace Go.Proofs.YtiilclncedipiaaDoor
open Go.RowKit
set_option linter.unusedVariables false

theorem maySize_yes (s : Int) (w : World) (h1 : 1 ≤ s) (h2 : s ≤ 8) : Calls Tryd.prog 61 #[.int .i64 s] w fun e w' => e = .returned (.bool true) ∧ w = w' := by
  go_enter Tryd.func61, Tryd.ntmps61
  go_wp2
  go_ret
  exact ⟨rfl, rfl⟩
def fitB (n k : Nat) : Bool := decide (n < 2 ^ k)
theorem fits_any (n : Nat) (c : Int) (w : World) (h0 : 0 ≤ c) (h64 : c ≤ 64) : Calls Tryd.prog 62 #[.int .u64 n, .int .i64 c] w fun e w' => e = .returned (.bool (fitB n c.toNat)) ∧ w = w' := by
  obtain ⟨k, rfl⟩ := Int.eq_ofNat_of_zero_le h0
  rw [Int.toNat_natCast]
  go_enter Tryd.func62, Tryd.ntmps62
  go_wp2
  go_ret
  refine ⟨ret_bool ?_, rfl⟩
  have e : ((n : Int) / 2 ^ k) = ((n / 2 ^ k : Nat) : Int) := by simp
  rw [e]
  unfold fitB
  have h2 : 0 < 2 ^ k := Nat.pow_pos (by omega)
  rw [Bool.eq_iff_iff]
  simp only [beq_iff_eq, decide_eq_true_eq]
  rw [← Nat.div_eq_zero_iff_lt h2]
  omega
theorem bt_digL8 (n k j : Nat) (h : j < k) : bt (digL 8 k n) j = (n : Int) / 2 ^ (j * 8) % 256 := by
  have hl : j < (digL 8 k n).length := by rw [length_digL]; exact h
  rw [bt_get hl, getElem_digL (by omega) hl, Nat.mul_comm 8 j]
  simp
/-- num.Put of a number of a size: its bytes, in memory of their own. -/
theorem put_ok (n k : Nat) (w : World) (h1 : 1 ≤ k) (h2 : k ≤ 8) (hn : n < 256 ^ k) :
    Calls Tryd.prog 44 #[.int .u64 n, .int .i64 k] w fun e w' => ∃ v, e = .returned (.tuple #[v, .int .i64 0]) ∧ Own w' w.heap.size v (digL 8 k n) ∧ Below w.heap.size w w' := by
  have hf : fitB n (k * 8) = true := by
    have e : (2 : Nat) ^ (k * 8) = 256 ^ k := by rw [Nat.mul_comm, Nat.pow_mul]
    unfold fitB
    rw [e]
    simpa using hn
  have HF := Lib.hid hf
  clear hf
  have hmk := fun (kl kc : IntKind) (m : Nat) (h1 : 1 * m ≤ 281474976710656) (h2 : m ≤ 9223372036854775807) (W : World) => run_make_row' (P := Tryd.prog) 39 5 (.int .u8 0) 1 Tryd.underlying39 u8info rfl kl kc m h1 h2 W
  have hmk1 := hmk .i64 .i64 k (by omega) (by omega)
  clear hmk
  go_enter Tryd.func44, Tryd.ntmps44
  go_wp2_with (first | (go_at_call 61; refine (maySize_yes _ _ (by omega) (by omega)).mono ?_; rintro e w' ⟨rfl, rfl⟩))
  refine (fits_any _ _ _ (by omega) (by omega)).mono ?_
  rintro e w' ⟨rfl, rfl⟩
  rw [show ((k : Int) * 8).toNat = k * 8 from by omega, HF.out]
  go_wp2
  clear hmk1
  have hr0 := World.rowIs_made w (Value.int .u8 0) k 5
  obtain ⟨g, hg⟩ : ∃ g, g = w.heap.size := ⟨_, rfl⟩
  rw [← hg] at hr0 ⊢
  have hbl0 : Below g w (w.alloc (.cells (madeCells #[Value.int .u8 0] k) 5)) := by rw [hg]; exact (Below.refl _ _).alloc (Nat.le_refl _) _
  have HG := Lib.hid hg
  clear hg HF
  go_loopw [21] (fun i wr => ∃ (j : Nat) (f : Nat → Int), j ≤ k ∧ i = .int .i64 j ∧ wr.rowIs g 5 k (fun j => .int .u8 (f j)) ∧ (∀ m, m < j → f m = bt (digL 8 k n) m) ∧ (∀ m, 0 ≤ f m ∧ f m ≤ 255) ∧ Below g w wr) (fun i _ => k - (intOf i).toNat)
  case atStart => exact ⟨0, fun _ => 0, Nat.zero_le _, rfl, hr0, fun j hj => absurd hj (by omega), fun _ => by simp, hbl0⟩
  case round =>
    obtain ⟨j, f, hj, rfl, hrow, hf, hr, hbl⟩ := hrel
    by_cases hlt : j < k
    · have hc := hrow.cell hlt
      have hfr := hrow.frozen j
      have HFF := Lib.hid hf
      have HR := Lib.hid hr
      clear hf hr
      go_wp2
      go_roundw
      case rel =>
        refine ⟨j + 1, _, by omega, by go_num, (hrow.set j _).congr (g := fun m => .int .u8 (if m = j then bt (digL 8 k n) j else f m)) ?_, ?_, ?_, hbl.setCell (Nat.le_refl _) _⟩
        · intro m hm
          show (if m = j then Value.int IntKind.u8 (↑n / 2 ^ (j * 8) % 256) else Value.int .u8 (f m)) = _
          split
          · rw [bt_digL8 n k j hlt]
          · rfl
        · intro m hm
          show (if m = j then bt (digL 8 k n) j else f m) = _
          split
          · subst m; rfl
          · exact HFF.out m (by omega)
        · intro m
          show 0 ≤ (if m = j then bt (digL 8 k n) j else f m) ∧ (if m = j then bt (digL 8 k n) j else f m) ≤ 255
          split
          · exact ⟨bt_lo _ _, bt_hi _ _⟩
          · exact HR.out m
      case measure => simp [intOf]; omega
    · go_wp2
      go_ret2
      have hjk : j = k := by omega
      subst hjk
      refine ⟨_, rfl, Own.of_row (length_digL 8 j n) (Nat.le_of_eq HG.out.symm) hrow (Nat.le_refl _) (by unfold maxLen; omega) hf hr, ?_⟩
      rw [← HG.out]
      exact hbl
/-- So many bytes from a place on. -/
def piece (b : List UInt8) (at_ k : Nat) : List UInt8 := (b.drop at_).take k
theorem length_piece {b : List UInt8} {p k : Nat} (h : p + k ≤ b.length) : (piece b p k).length = k := by simp [piece]; omega
theorem val_piece_succ {b : List UInt8} {p k : Nat} (h : p + k < b.length) : (val 8 (piece b p (k + 1)) : Int) = val 8 (piece b p k) + 2 ^ (k * 8) * bt b (p + k) := by
  have hk : k < (b.drop p).length := by simp; omega
  have e : piece b p (k + 1) = piece b p k ++ [b[p + k]] := by
    unfold piece
    rw [List.take_succ_eq_append_getElem hk]
    simp
  rw [e, val_append, length_piece (by omega), bt_get h, Nat.mul_comm 8 k]
  rw [val_one]
  push_cast
  rfl
theorem val_piece_head {b : List UInt8} {p k : Nat} (h : p < b.length) : (val 8 (piece b p (k + 1)) : Int) = 256 * val 8 (piece b (p + 1) k) + bt b p := by
  have e : piece b p (k + 1) = b[p] :: piece b (p + 1) k := by
    unfold piece
    rw [List.drop_eq_getElem_cons h, List.take_succ_cons]
  rw [e, val, bt_get h, show (2 : Nat) ^ 8 = 256 from rfl]
  omega
theorem val_piece_lt {b : List UInt8} {p k : Nat} (h : p + k ≤ b.length) : val 8 (piece b p k) < 2 ^ (k * 8) := by
  have := val_lt (all_256 (piece b p k))
  rwa [length_piece h, Nat.mul_comm] at this
theorem shl_fits {s : Nat} (x : Nat) (h1 : x ≤ 255) (hs : s ≤ 56) : x * 2 ^ s ≤ 18446744073709551615 := by
  have h2 : 2 ^ s ≤ 2 ^ 56 := Nat.pow_le_pow_right (by omega) hs
  have h3 : x * 2 ^ s ≤ 255 * 2 ^ 56 := Nat.mul_le_mul h1 h2
  omega
theorem or_shl {V s : Nat} {x : Int} (h0 : 0 ≤ x) (h1 : x ≤ 255) (hs : s ≤ 56) (hV : V < 2 ^ s) :
    bits .or .u64 (V : Int) (IntKind.u64.wrap (x * 2 ^ s)) = V + 2 ^ s * x := by
  obtain ⟨m, rfl⟩ := Int.eq_ofNat_of_zero_le h0
  have hf := shl_fits (s := s) m (by omega) hs
  have hV' : V < 18446744073709551616 := by
    have h2 : 2 ^ s ≤ 2 ^ 56 := Nat.pow_le_pow_right (by omega) hs
    omega
  have e : ((m : Int) * 2 ^ s) = ((m * 2 ^ s : Nat) : Int) := by push_cast; rfl
  rw [e, IntWalk.u64_in _ ⟨by omega, by omega⟩, u64_or_nat V _ hV' (by omega), Nat.or_comm, nat_join s _ _ (Nat.mul_mod_left m (2 ^ s)) hV]
  push_cast
  rw [Int.mul_comm (2 ^ s) (m : Int), Int.add_comm]
theorem get_ok (A : Option Addr) (n c N : Nat) (b : List UInt8) (p k : Nat) (w : World) (hb : Rd w N A n b) (hn : n ≤ maxLen) (h1 : 1 ≤ k) (h2 : k ≤ 8) (h3 : p + k ≤ n) :
    Calls Tryd.prog 57 #[.slice A n c, .int .i64 p, .int .i64 k] w fun e w' => e = .returned (.tuple #[.int .u64 (val 8 (piece b p k)), .int .i64 0]) ∧ w = w' := by
  unfold maxLen at hn
  go_enter Tryd.func57, Tryd.ntmps57
  go_wp2_with (first | (go_at_call 61; refine (maySize_yes _ _ (by omega) (by omega)).mono ?_; rintro e w' ⟨rfl, rfl⟩))
  go_loop [8, 30] (fun x i => ∃ j : Nat, j ≤ k ∧ i = .int .i64 j ∧ x = .int .u64 (val 8 (piece b p j))) (fun _ i => k - (intOf i).toNat)
  case atStart => exact ⟨0, Nat.zero_le _, rfl, by simp [piece, val]⟩
  case round =>
    obtain ⟨j, hj, rfl, rfl⟩ := hrel
    by_cases hlt : j < k
    · obtain ⟨bA, oA, rfl, hA, cA⟩ := hb.2 (p + j) (by omega)
      have hlo := bt_lo b (p + j)
      have hhi := bt_hi b (p + j)
      go_wp2
      go_round
      case rel =>
        refine ⟨j + 1, by omega, by go_num, ?_⟩
        rw [val_piece_succ (by have := hb.1; omega), or_shl hlo hhi (by omega) (val_piece_lt (by have := hb.1; omega))]
      case measure => simp [intOf]; omega
    · go_wp2
      go_ret2
      have e : j = k := by omega
      subst e
      exact ⟨rfl, rfl⟩
theorem mul256_fits {V j : Nat} (h : V < 2 ^ (j * 8)) (hj : j ≤ 7) : 256 * V + 255 ≤ 18446744073709551615 := by
  have h2 : 2 ^ (j * 8) ≤ 2 ^ 56 := Nat.pow_le_pow_right (by omega) (by omega)
  omega
theorem rget_ok (A : Option Addr) (n c N : Nat) (b : List UInt8) (p k : Nat) (w : World) (hb : Rd w N A n b) (hn : n ≤ maxLen) (h1 : 1 ≤ k) (h2 : k ≤ 8) (h3 : p + k ≤ n) :
    Calls Tryd.prog 35 #[.slice A n c, .int .i64 p, .int .i64 k] w fun e w' => e = .returned (.tuple #[.int .u64 (val 8 (piece b p k)), .int .i64 0]) ∧ w = w' := by
  unfold maxLen at hn
  go_enter Tryd.func35, Tryd.ntmps35
  go_wp2
  go_loop [8, 9] (fun x i => ∃ j : Nat, j ≤ k ∧ i = .int .i64 ((j : Int) - 1) ∧ x = .int .u64 (val 8 (piece b (p + j) (k - j)))) (fun _ i => (intOf i + 1).toNat)
  case atStart => exact ⟨k, Nat.le_refl _, rfl, by simp [piece, val]⟩
  case round =>
    obtain ⟨j, hj, rfl, rfl⟩ := hrel
    by_cases hlt : 0 < j
    · obtain ⟨i, rfl⟩ : ∃ i, j = i + 1 := ⟨j - 1, by omega⟩
      obtain ⟨bA, oA, rfl, hA, cA⟩ := hb.2 (p + i) (by omega)
      have hlo := bt_lo b (p + i)
      have hhi := bt_hi b (p + i)
      have hv := val_piece_lt (b := b) (p := p + (i + 1)) (k := k - (i + 1)) (by have := hb.1; omega)
      have hv2 := mul256_fits hv (by omega)
      clear hv
      rw [show ((i + 1 : Nat) : Int) - 1 = (i : Int) from by omega]
      go_wp2
      go_round
      case rel =>
        refine ⟨i, by omega, rfl, ?_⟩
        have h3 := val_piece_head (b := b) (p := p + i) (k := k - (i + 1)) (by have := hb.1; omega)
        rw [show k - (i + 1) + 1 = k - i from by omega] at h3
        rw [h3, Nat.add_assoc]
      case measure => simp [intOf]
    · have e : j = 0 := by omega
      subst e
      go_wp2
      go_ret2
      exact ⟨rfl, rfl⟩
set_option maxHeartbeats 800000 in
/-- The walk of ref.Put up to its last test, of a number of whatever many bits: the bytes that it laid, and what is left of the number. -/
theorem rput_any (n k B : Nat) (w : World) (HB : Hid (B = w.heap.size)) (hn : n < 18446744073709551616) (h1 : 1 ≤ k) (h2 : k ≤ 8) :
    Calls Tryd.prog 38 #[.int .u64 n, .int .i64 k] w fun e w' =>
      ((n < 2 ^ (8 * k) → ∃ v, e = .returned (.tuple #[v, .int .i64 0]) ∧ Made w' B v (digL 8 k n)) ∧ (¬ n < 2 ^ (8 * k) → e = .returned (.tuple #[.slice none 0 0, .int .i64 2]))) ∧ Below B w w' := by
  obtain ⟨i0, hi, hz0, hz1, hz2⟩ := info_parts u8info
  go_enter Tryd.func38, Tryd.ntmps38
  go_wp2
  have hBle : B ≤ w.heap.size := Nat.le_of_eq HB.out
  go_loopw [0, 6, 7] (fun x v i wr => ∃ j : Nat, j ≤ k ∧ i = .int .i64 j ∧ x = .int .u64 ((n / 2 ^ (8 * j) : Nat) : Int) ∧ Made wr B v (digL 8 j n) ∧ Below B w wr) (fun _ _ i _ => k - (intOf i).toNat)
  case atStart => exact ⟨0, Nat.zero_le _, rfl, by simp, World.ownsRow_nil _ _ _ _, Below.refl _ _⟩
  case round =>
    obtain ⟨j, hj, rfl, rfl, hm, hbl⟩ := hrel
    by_cases hlt : j < k
    · have hown := hm.own (length_digL 8 j n)
      have hsz : B ≤ wr.heap.size := Nat.le_trans hBle hbl.size
      have hq : n / 2 ^ (8 * j) ≤ n := Nat.div_le_self _ _
      have hm' := Lib.hid hm
      have hE : Hid (n / 2 ^ (8 * (j + 1)) = n / 2 ^ (8 * j) / 256 ∧ digL 8 (j + 1) n = digL 8 j n ++ [UInt8.ofNat (n / 2 ^ (8 * j) % 256)]) := ⟨by rw [Nat.div_div_eq_div_mul, Nat.mul_succ, Nat.pow_add], digL_snoc 8 j n⟩
      clear hm
      generalize n / 2 ^ (8 * j) = q at *
      go_wp2_with (at_builtin; refine wpList_append_own _ rfl _ _ 39 rfl B 5 i0 (.int .u8 0) 1 1 Tryd.underlying39 hi hz0 hz1 hz2 rfl (by decide) _ _ _ rfl (hown.alloc _) ⟨wr.heap.size, 0, none⟩ 1 1 [.int .u8 ((q : Int) % 256)] rfl rfl ?c1 ?c2 ?c3 ?c4 ?c5 ?_)
      case c1 => exact cell_one_new _ _ _
      case c2 => intro u hu; simp at hu; subst hu; rfl
      case c3 => unfold maxLen; omega
      case c4 => omega
      case c5 => simp; omega
      intro v' w1 hown1 hg1 _
      have hx : ((q : Int) % 256) = ((UInt8.ofNat (q % 256)).toNat : Int) := by rw [UInt8.toNat_ofNat']; omega
      obtain ⟨hm1, hb1⟩ := Made.push (hm'.out) hbl hsz hx hown1 hg1
      have hm1' := Lib.hid hm1
      clear hm1 hown1 hg1 hown hx hm'
      go_wp2
      go_roundw
      case rel =>
        refine ⟨j + 1, by omega, by go_num, ?_, ?_, hb1⟩
        · rw [hE.out.1]; simp
        · rw [hE.out.2]; exact hm1'.out
      case measure => simp [intOf]; omega
    · have e : j = k := by omega
      subst e
      have h0 : 0 < 2 ^ (8 * j) := Nat.pow_pos (by omega)
      by_cases hq : n < 2 ^ (8 * j)
      · rw [Nat.div_eq_of_lt hq]
        go_wp2
        go_ret2
        exact ⟨⟨fun _ => ⟨_, rfl, hm⟩, fun h => absurd hq h⟩, hbl⟩
      · have hq0 : 0 < n / 2 ^ (8 * j) := Nat.div_pos (by omega) h0
        generalize n / 2 ^ (8 * j) = q at *
        go_wp2
        go_ret2
        exact ⟨⟨fun h => absurd h hq, fun _ => rfl⟩, hbl⟩
end Go.Proofs.YtiilclncedipiaaDoor
namespace Go.Proofs.YtiilclncedipiaaDoor
open Go.RowKit
set_option linter.unusedVariables false

theorem cells_of_rd {w : World} {N n : Nat} {ad : Addr} {l : List UInt8} (h : Rd w N (some ad) n l) : ∀ (j : Nat) (u : Value), (l.map fun u => Value.int .u8 (u.toNat : Int))[j]? = some u → w.cell? (ad.add j) = some u := by
  intro j u hu
  have hj : j < l.length := by
    rcases Nat.lt_or_ge j l.length with hlt | hge
    · exact hlt
    · rw [List.getElem?_eq_none (by simpa using hge)] at hu
      cases hu
  obtain ⟨b, off, e, _, hc⟩ := h.2 j (by have := h.1; omega)
  injection e with e
  subst e
  have hadd : (⟨b, off, none⟩ : Addr).add j = ⟨b, off + j, none⟩ := by unfold Addr.add; split <;> simp_all
  rw [hadd, hc, bt_get hj]
  rw [List.getElem?_map, List.getElem?_eq_getElem hj] at hu
  simpa using hu

theorem run_app (w : World) (ty B N m c : Nat) (v : Value) (l l' : List UInt8) (A : Option Addr) (hm : Made w B v l) (hr : Rd w N A m l') (hB : B ≤ w.heap.size) (hsum : l.length + m ≤ 140737488355328) :
    ∃ v' w', (Builtin.append_ #[39, 39] ty #[v, .slice A m c]).run Tryd.prog w = .ok v' w' ∧ Made w' B v' (l ++ l') ∧ w.grownBy w' v.ownBlock := by
  obtain ⟨i0, hi, hz0, hz1, hz2⟩ := info_parts u8info
  rcases A with _ | ad
  · have h0 : m = 0 := by
      rcases Nat.eq_zero_or_pos m with h | h
      · exact h
      · obtain ⟨b, off, e, _⟩ := hr.2 0 h
        cases e
    subst h0
    have hn : l' = [] := List.eq_nil_of_length_eq_zero hr.1
    subst hn
    refine ⟨v, w, ?_, by rw [List.append_nil]; exact hm, World.grownBy.refl w _⟩
    rcases hm.2 with ⟨rfl, _⟩ | ⟨g, cap, cur, rfl, _, _, hnc, _⟩
    · simp [Builtin.append_, run_underlying Tryd.underlying39, sizeOf, typeInfo, hi, Builtin.lenOf, Builtin.firstCells]
    · simp [Builtin.append_, run_underlying Tryd.underlying39, sizeOf, typeInfo, hi, Builtin.lenOf, Builtin.firstCells, hnc, storeCells]
  · obtain ⟨v', w', h1, h2, h3, _⟩ := run_append_own (P := Tryd.prog) w B 39 ty 5 i0 (.int .u8 0) 1 1 Tryd.underlying39 hi hz0 hz1 hz2 rfl (by decide) v l.length _ hm ad m c (l'.map fun u => .int .u8 (u.toNat : Int))
      (by have := hr.1; simpa using this) (cells_of_rd hr) (by intro u hu; simp at hu; obtain ⟨x, _, rfl⟩ := hu; rfl) (by unfold maxLen; omega) (by omega) hB
    refine ⟨v', w', h1, ?_, h3⟩
    rw [← List.map_append] at h2
    exact Made.of_own h2

theorem wpList_app {w : World} {ops : Array Oper} {rest : List Oper} {o : Oper} {a : Act} {Q : Exit → Act → World → Prop} (hgd : o.guard = none) (s x : Operand)
    (ho : o.op = .call { callee := .builtin .append, args := #[s, x], argTypes := #[39, 39] })
    (B N m c : Nat) (v : Value) (l l' : List UInt8) (A : Option Addr) (hs : a.eval s = v) (hx : a.eval x = .slice A m c) (hm : Made w B v l) (hr : Rd w N A m l') (hB : B ≤ w.heap.size) (hsum : l.length + m ≤ 140737488355328)
    (h : ∀ v' w', Made w' B v' (l ++ l') → w.grownBy w' v.ownBlock → wpList Tryd.prog ops Q rest (a.put o.dst v') w') : wpList Tryd.prog ops Q (o :: rest) a w := by
  refine wpList_plain hgd fun K hK => ?_
  obtain ⟨v', w', hrun, h1, h2⟩ := run_app w o.type B N m c v l l' A hm hr hB hsum
  unfold Oper.wp
  simp [execOp, ho, resolve, invoke, builtin, hs, hx, hrun, Result.andThen]
  exact hK _ _ (h v' w' h1 h2)

theorem copy_any (A : Option Addr) (n c N B : Nat) (b : List UInt8) (w : World) (HB : Hid (B = w.heap.size)) (hb : Rd w N A n b) (hN : N ≤ B) (hn : n ≤ 140737488351232) :
    Calls Tryd.prog 39 #[.slice A n c] w fun e w' => ∃ v, e = .returned v ∧ Made w' B v b ∧ Below B w w' := by
  have hBle := Nat.le_of_eq HB.out
  go_enter Tryd.func39, Tryd.ntmps39
  go_wp2_with (at_builtin; refine wpList_app rfl _ _ rfl B N n c _ [] b A rfl rfl (World.ownsRow_nil _ _ _ _) hb hBle ?c1 ?_)
  case c1 => simp; omega
  intro v1 w1 hm1 hg1
  go_wp2
  go_ret
  exact ⟨_, rfl, hm1, (Below.refl _ _).grown hg1 hBle (by simp [Value.ownBlock])⟩
end Go.Proofs.YtiilclncedipiaaDoor
namespace Go.Proofs.YtiilclncedipiaaDoor
open Go.RowKit

def same (a b : List UInt8) : Bool := a == b

set_option maxHeartbeats 400000 in
theorem same_any (A B : Option Addr) (n m c d N : Nat) (a b : List UInt8) (w : World) (ha : Rd w N A n a) (hb : Rd w N B m b) (hN : N ≤ w.heap.size) (hn : n ≤ maxLen) :
    Calls Tryd.prog 30 #[.slice A n c, .slice B m d] w fun e w' => e = .returned (.bool (same a b)) ∧ Below w.heap.size w w' := by
  unfold maxLen at hn
  by_cases hnm : n = m
  · subst hnm
    go_enter Tryd.func30, Tryd.ntmps30
    go_wp2
    go_loopw [5] (fun i wr => ∃ k : Nat, k ≤ n ∧ i = .int .i64 k ∧ (∀ j, j < k → bt a j = bt b j) ∧ Below w.heap.size w wr) (fun i _ => n - (intOf i).toNat)
    case atStart => exact ⟨0, Nat.zero_le _, rfl, fun j hj => absurd hj (by omega), Below.refl _ _⟩
    case round =>
      obtain ⟨k, hk, rfl, hj, hbl⟩ := hrel
      by_cases hlt : k < n
      · obtain ⟨bA, oA, rfl, hA, cA⟩ := (ha.below (hbl.mono hN)).2 k hlt
        obtain ⟨bB, oB, rfl, hB, cB⟩ := (hb.below (hbl.mono hN)).2 k hlt
        have hidj := Lib.hid hj
        clear hj
        go_wp2
        go_quiet (fail)
        go_wp2
        · have hd : (bt a k != bt b k) = true := by assumption
          go_ret
          refine ⟨?_, bdn hbl _⟩
          have : same a b = false := by
            simp only [same, beq_eq_false_iff_ne]
            rintro rfl
            simp at hd
          rw [this]; rfl
        · have hd : (bt a k != bt b k) = false := by assumption
          go_roundw
          case rel =>
            refine ⟨k + 1, by omega, by go_num, ?_, bdn hbl _⟩
            intro j hj
            by_cases h : j = k
            · subst h; simpa using hd
            · exact hidj.out j (by omega)
          case measure => simp [intOf]; omega
      · go_wp2
        go_ret
        refine ⟨?_, hbl⟩
        have : same a b = true := by
          simp only [same, beq_iff_eq]
          exact eq_of_bt (by rw [ha.1, hb.1]) fun j h => hj j (by have := ha.1; omega)
        rw [this]; rfl
  · have hne : ((n : Int) != (m : Int)) = true := by simp; omega
    go_enter Tryd.func30, Tryd.ntmps30
    go_wp2
    go_ret
    refine ⟨?_, Below.refl _ _⟩
    have : same a b = false := by
      have h1 := ha.1
      have h2 := hb.1
      simp only [same, beq_eq_false_iff_ne]
      rintro rfl
      omega
    rw [this]; rfl
end Go.Proofs.YtiilclncedipiaaDoor
