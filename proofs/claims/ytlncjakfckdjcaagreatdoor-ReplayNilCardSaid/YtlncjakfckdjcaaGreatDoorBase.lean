/-
  Words on bytes in memory for the walks of this seat: what a list's k-th byte is, a slice that reads as a list, a row that the call made. No statement.
-/
import Derived.Below
import Derived.Laws.OwnMore
import Derived.Deep.Draws
import Derived.Laws.Rows
import Derived.OwnWalk
import Derived.Deep.OwnRows
namespace Go.Proofs.YtlncjakfckdjcaaGreatDoor
open Go.RowKit
set_option maxRecDepth 100000

/-- The k-th byte of a list, as a number; 0 behind its end. -/
def bt (l : List UInt8) (k : Nat) : Int := ((l.getD k 0).toNat : Int)
theorem bt_lo (l : List UInt8) (k : Nat) : 0 ≤ bt l k := by unfold bt; omega
theorem bt_hi (l : List UInt8) (k : Nat) : bt l k ≤ 255 := by
  unfold bt
  have := UInt8.toNat_lt (l.getD k 0)
  omega
theorem bt_get {l : List UInt8} {k : Nat} (h : k < l.length) : bt l k = (l[k].toNat : Int) := by
  unfold bt
  simp [List.getD, List.getElem?_eq_getElem h]
theorem eq_of_bt {a b : List UInt8} (hl : a.length = b.length) (h : ∀ k, k < a.length → bt a k = bt b k) : a = b := by
  apply List.ext_getElem hl
  intro k h1 h2
  have := h k h1
  rw [bt_get h1, bt_get h2] at this
  exact UInt8.toNat_inj.1 (by omega)

/-- The slice of address A and length n reads as l; it lies below block B. -/
def Rd (w : World) (B : Nat) (A : Option Addr) (n : Nat) (l : List UInt8) : Prop :=
  l.length = n ∧ ∀ k, k < n → ∃ b off, A = some ⟨b, off, none⟩ ∧ b < B ∧ w.cell? ⟨b, off + k, none⟩ = some (.int .u8 (bt l k))

section
variable {w w' : World} {B B' n : Nat} {A : Option Addr} {l : List UInt8}
theorem Rd.nil (w : World) (B : Nat) (A : Option Addr) : Rd w B A 0 [] := ⟨rfl, fun k hk => absurd hk (by omega)⟩
theorem Rd.keep (h : Rd w B A n l) (hk : ∀ p : Addr, p.block < B → w'.cell? p = w.cell? p) : Rd w' B A n l :=
  ⟨h.1, fun k hn => by
    obtain ⟨b, off, e, hb, hc⟩ := h.2 k hn
    exact ⟨b, off, e, hb, (hk _ hb).trans hc⟩⟩
theorem Rd.more (h : Rd w B A n l) (hB : B ≤ B') : Rd w B' A n l :=
  ⟨h.1, fun k hn => by
    obtain ⟨b, off, e, hb, hc⟩ := h.2 k hn
    exact ⟨b, off, e, by omega, hc⟩⟩
theorem Rd.below (h : Rd w B A n l) (hb : Below B w w') : Rd w' B A n l := h.keep fun _ hp => hb.cell hp
theorem Rd.step (h : Rd w w.heap.size A n l) (hb : Below w.heap.size w w') : Rd w' w'.heap.size A n l := (h.below hb).more hb.size
end

theorem bdn {B : Nat} {a w : World} (h : Below B a w) (k : Nat) : Below B a (w.drewN k) := ⟨h.os, h.tape, h.output, h.size, h.block⟩

theorem bd {B : Nat} {a w : World} (h : Below B a w) : Below B a w.drew := ⟨h.os, h.tape, h.output, h.size, h.block⟩

theorem two {a b c : World} (h1 : Below a.heap.size a b) (h2 : Below b.heap.size b c) : Below a.heap.size a c := h1.trans (h2.mono h1.size)
theorem four {a b c d e : World} (h1 : Below a.heap.size a b) (h2 : Below b.heap.size b c) (h3 : Below c.heap.size c d) (h4 : Below d.heap.size d e) : Below a.heap.size a e := two (two (two h1 h2) h3) h4
theorem ret_bool {a b : Bool} (h : a = b) : Ending.returned (.bool a) = .returned (.bool b) := by rw [h]
theorem ret_ints {k k' : IntKind} {a b a' b' : Int} (h : a = b) (h' : a' = b') : Ending.returned (.tuple #[.int k a, .int k' a']) = .returned (.tuple #[.int k b, .int k' b']) := by rw [h, h']
theorem ret_int {k : IntKind} {a b : Int} (h : a = b) : Ending.returned (.int k a) = .returned (.int k b) := by rw [h]

/-- A row that the call made: block g holds just the bytes of 'l' (its first cells), none frozen; 'c' cells in all. -/
def Made (w : World) (base : Nat) (v : Value) (l : List UInt8) : Prop :=
  w.ownsRow base 5 1 v l.length (l.map fun u => .int .u8 (u.toNat : Int))
theorem Made.form {w : World} {base : Nat} {v : Value} {l : List UInt8} (h : Made w base v l) : ∃ A c, v = .slice A l.length c ∧ l.length ≤ c ∧ c ≤ maxLen := by
  rcases h.2 with ⟨rfl, h0⟩ | ⟨g, cap, cur, rfl, _, _, h1, h2, _⟩
  · exact ⟨none, 0, by rw [h0], by omega, by simp [maxLen]⟩
  · exact ⟨_, cap, rfl, h1, h2⟩
theorem Made.rd {w : World} {base n c : Nat} {A : Option Addr} {l : List UInt8} (h : Made w base (.slice A n c) l) : Rd w w.heap.size A n l := by
  rcases h.2 with ⟨hv, h0⟩ | ⟨g, cap, cur, hv, _, hg, _, _, _, ht⟩
  · have hl : l = [] := List.eq_nil_of_length_eq_zero h0
    subst hl
    injection hv with h1 h2 h3
    subst h2
    exact Rd.nil _ _ _
  · injection hv with h1 h2 h3
    subst h1 h2 h3
    refine ⟨rfl, fun k hk => ⟨g, 0, rfl, (Array.getElem?_eq_some_iff.1 hg).1, ?_⟩⟩
    rw [cell_of_row w g (0 + k) cur 5 (0, 0) hg]
    have h2 : (cur.toList.take (l.length * 1))[k]? = (l.map fun u => Value.int .u8 (u.toNat : Int))[k]? := by rw [ht]
    rw [List.getElem?_take_of_lt (by omega), List.getElem?_map, List.getElem?_eq_getElem hk] at h2
    rw [bt_get hk, Nat.zero_add]
    simpa using h2
theorem Made.below {w w' : World} {base : Nat} {v : Value} {l : List UInt8} (h : Made w base v l) (hb : Below w.heap.size w w') : Made w' base v l := by
  refine ⟨h.1, ?_⟩
  rcases h.2 with hn | ⟨g, cap, cur, rfl, hbg, hg, rest⟩
  · exact .inl hn
  · exact .inr ⟨g, cap, cur, rfl, hbg, by rw [hb.block g (Array.getElem?_eq_some_iff.1 hg).1]; exact hg, rest⟩

theorem Made.own {w : World} {base n : Nat} {v : Value} {l : List UInt8} (h : Made w base v l) (hn : l.length = n) : w.ownsRow base 5 1 v n (l.map fun u => .int .u8 (u.toNat : Int)) := by
  subst hn; exact h
theorem Made.of_own {w : World} {base n : Nat} {v : Value} {l : List UInt8} (h : w.ownsRow base 5 1 v n (l.map fun u => .int .u8 (u.toNat : Int))) : Made w base v l := by
  have hn : l.length = n := by have := h.1; simpa using this
  subst hn; exact h
/-- Behind an append of one byte to a row of the call's own. -/
theorem Made.push {w0 wr w' : World} {B n : Nat} {v v' : Value} {l : List UInt8} {u : UInt8} {x : Int} {o : Obj} (hm : Made wr B v l) (hbl : Below B w0 wr) (hsz : B ≤ wr.heap.size) (hx : x = (u.toNat : Int))
    (hown : w'.ownsRow B 5 1 v' n ((l.map fun u => .int .u8 (u.toNat : Int)) ++ [.int .u8 x])) (hg : (wr.alloc o).grownBy w' v.ownBlock) : Made w' B v' (l ++ [u]) ∧ Below B w0 w' := by
  subst hx
  refine ⟨Made.of_own (n := n) ?_, ((hbl.alloc hsz o).grown hg (by simp; omega) fun k hk => ?_)⟩
  · rw [List.map_append]; exact hown
  · exact (hm.lt k hk).1
theorem Made.base {w : World} {b b' : Nat} {v : Value} {l : List UInt8} (h : Made w b v l) (hb : b' ≤ b) : Made w b' v l := by
  refine ⟨h.1, ?_⟩
  rcases h.2 with hn | ⟨g, cap, cur, rfl, hbg, rest⟩
  · exact .inl hn
  · exact .inr ⟨g, cap, cur, rfl, Nat.le_trans hb hbg, rest⟩
theorem Made.open_ {w : World} {base n : Nat} {v : Value} {l : List UInt8} (h : Made w base v l) (hn : l.length = n) : ∃ A c, v = .slice A n c ∧ Rd w w.heap.size A n l ∧ n ≤ c ∧ c ≤ maxLen := by
  subst hn
  obtain ⟨A, c, rfl, h1, h2⟩ := h.form
  exact ⟨A, c, rfl, h.rd, h1, h2⟩

/-- A row's content with one place turned. -/
def upd (f : Nat → Int) (i : Nat) (x : Int) : Nat → Int := fun j => if j = i then x else f j
theorem upd_at (f : Nat → Int) (i : Nat) (x : Int) : upd f i x i = x := by unfold upd; rw [if_pos rfl]
theorem upd_off (f : Nat → Int) {i j : Nat} (x : Int) (h : j ≠ i) : upd f i x j = f j := by unfold upd; rw [if_neg h]
theorem row_put {w : World} {g c i : Nat} {f : Nat → Int} {e : TypeId} (h : w.rowIs g e c (fun j => .int .u8 (f j))) (x : Int) : (w.setCell ⟨g, i, none⟩ (.int .u8 x)).rowIs g e c (fun j => .int .u8 (upd f i x j)) :=
  (h.set i _).congr fun j _ => by
    unfold upd
    split
    · rfl
    · rfl

/-- A row of bytes that the call made, all its room told: cell j holds 'f j', a byte; the first ones are the list's. -/
def Own (w : World) (base : Nat) (v : Value) (l : List UInt8) : Prop :=
  ∃ (g c : Nat) (f : Nat → Int), v = .slice (some ⟨g, 0, none⟩) l.length c ∧ base ≤ g ∧ w.rowIs g 5 c (fun j => .int .u8 (f j)) ∧ l.length ≤ c ∧ c ≤ maxLen ∧ (∀ j, j < l.length → f j = bt l j) ∧ ∀ j, 0 ≤ f j ∧ f j ≤ 255
theorem Own.made {w : World} {base : Nat} {v : Value} {l : List UInt8} (h : Own w base v l) : Made w base v l := by
  obtain ⟨g, c, f, rfl, hb, ⟨cur, hg, hn, hc⟩, h1, h2, hf, _⟩ := h
  refine ⟨by simp, .inr ⟨g, c, cur, rfl, hb, hg, h1, h2, by simpa using hn, ?_⟩⟩
  apply List.ext_getElem?
  intro k
  by_cases hk : k < l.length
  · rw [List.getElem?_take_of_lt (by omega), List.getElem?_map, List.getElem?_eq_getElem hk, Array.getElem?_toList, hc k (by omega)]
    show some (Value.int .u8 (f k)) = _
    rw [hf k hk, bt_get hk]
    rfl
  · rw [List.getElem?_eq_none (by simp; omega), List.getElem?_eq_none (by simp; omega)]
theorem Own.of_row {w : World} {base g c : Nat} {f : Nat → Int} {l : List UInt8} {n : Nat} (hn : l.length = n) (hb : base ≤ g) (h : w.rowIs g 5 c (fun j => .int .u8 (f j))) (h1 : n ≤ c) (h2 : c ≤ maxLen)
    (hf : ∀ j, j < n → f j = bt l j) (hr : ∀ j, 0 ≤ f j ∧ f j ≤ 255) : Own w base (.slice (some ⟨g, 0, none⟩) n c) l := by
  subst hn
  exact ⟨g, c, f, rfl, hb, h, h1, h2, hf, hr⟩
end Go.Proofs.YtlncjakfckdjcaaGreatDoor
