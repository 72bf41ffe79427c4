/-
  Bits and Unbits, the program's and the document's, over whatever arguments: one answer for both; NumBits' walk.
-/
import Derived.Test.YtcddmkmogdaobaaRefUnbits
import Derived.Test.YtcddmkmogdaobaaLives
import Derived.Test.YtcddmkmogdaobaaWide
namespace Go.Proofs.Ytcddmkmogdaobaa
open Go.RowKit
set_option linter.unusedVariables false

/-- A row that is nil, or the call's own, all its room told. -/
def OwnNil (w : World) (B : Nat) (v : Value) (l : List UInt8) : Prop := (v = .slice none 0 0 ∧ l = []) ∨ Own w B v l
theorem OwnNil.made {w : World} {B : Nat} {v : Value} {l : List UInt8} (h : OwnNil w B v l) : Made w B v l := by
  rcases h with ⟨rfl, rfl⟩ | h
  · exact World.ownsRow_nil _ _ _ _
  · exact h.made
theorem OwnNil.lt {w : World} {B : Nat} {v : Value} {l : List UInt8} (h : OwnNil w B v l) : ∀ k, v.ownBlock = some k → B ≤ k ∧ k < w.heap.size := h.made.lt
theorem OwnNil.kept {w w' : World} {B : Nat} {v : Value} {l : List UInt8} {row : Option Nat} (h : OwnNil w B v l) (hg : w.grownBy w' row) (hne : ∀ k, v.ownBlock = some k → some k ≠ row) : OwnNil w' B v l := by
  rcases h with h | ⟨g, c, f, rfl, hb, hrow, rest⟩
  · exact .inl h
  · exact .inr ⟨g, c, f, rfl, hb, hrow.of_block (hg.block g hrow.lt (hne g rfl)), rest⟩
theorem grown_of_below {a w : World} (h : Below a.heap.size a w) (row : Option Nat) : a.grownBy w row := ⟨h.os, h.tape, h.output, h.size, fun i hi _ => h.block i hi⟩
theorem OwnNil.below {w w' : World} {B : Nat} {v : Value} {l : List UInt8} (h : OwnNil w B v l) (hb : Below w.heap.size w w') : OwnNil w' B v l :=
  h.kept (grown_of_below hb none) fun k _ => by simp
theorem Wided.kept {w w' : World} {g : Nat} {b : List UInt8} {row : Option Nat} (h : Wided w g b) (hg : w.grownBy w' row) (hne : some g ≠ row) : Wided w' g b := World.rowIs.of_block h (hg.block g (World.rowIs.lt h) hne)

theorem spoil_all (B : Nat) (v : Value) (l : List UInt8) (x : Int) (w : World) (h : OwnNil w B v l) :
    Calls Try.prog 20 #[v, .int .u8 x] w fun e w' => e = .returned (.tuple #[]) ∧ w.grownBy w' v.ownBlock := by
  rcases h with ⟨rfl, rfl⟩ | ⟨g, c, f, rfl, hb, hrow, h1, h2, _⟩
  · exact (spoil_nil x w).mono fun e w' ⟨he, hw⟩ => ⟨he, hw ▸ World.grownBy.refl w _⟩
  · exact spoil_row g l.length c f x w hrow h1 h2

/-- May the list be laid by this width? -/
def layOk (l : List UInt8) (s : Int) : Prop := (1 ≤ s ∧ s ≤ 8) ∧ narrow s.toNat l = true
instance (l : List UInt8) (s : Int) : Decidable (layOk l s) := by unfold layOk; infer_instance
def layE (l : List UInt8) (s : Int) : Int := if layOk l s then 0 else 2
def layR (l : List UInt8) (s : Int) : List UInt8 := if layOk l s then digL 8 (bytesOf l.length s.toNat) (val s.toNat l) else []

theorem bits_all (A : Option Addr) (n c N B : Nat) (l : List UInt8) (s : Int) (w : World) (HB : Hid (B = w.heap.size)) (hl : Rd w N A n l) (hN : N ≤ B) (hn : n ≤ 140737488351232) :
    Calls Try.prog 16 #[.slice A n c, .int .i64 s] w fun e w' => ∃ v, e = .returned (.tuple #[v, .int .i64 (layE l s)]) ∧ OwnNil w' B v (layR l s) ∧ Below B w w' := by
  unfold layE layR
  by_cases hs : 1 ≤ s ∧ s ≤ 8
  · obtain ⟨d, rfl⟩ := Int.eq_ofNat_of_zero_le (show 0 ≤ s by omega)
    cases hall : narrow d l
    · have h : ¬ layOk l d := fun h => by have := h.2; rw [Int.toNat_natCast, hall] at this; cases this
      rw [if_neg h, if_neg h]
      exact (bits_big A n c N d l w hl (by unfold maxLen; omega) (by omega) (by omega) hall).mono fun e w' ⟨he, hw⟩ => ⟨_, he, .inl ⟨rfl, rfl⟩, hw ▸ Below.refl _ _⟩
    · have h : layOk l d := ⟨hs, by rw [Int.toNat_natCast]; exact hall⟩
      rw [if_pos h, if_pos h, Int.toNat_natCast, hl.1]
      exact (bits_ok A n c N d B l w HB hl hN hn (by omega) (by omega) hall).mono fun e w' ⟨v, he, hv, hb⟩ => ⟨v, he, .inr hv, hb⟩
  · have h : ¬ layOk l s := fun h => hs h.1
    rw [if_neg h, if_neg h]
    exact (bits_width A n c s w hs).mono fun e w' ⟨he, hw⟩ => ⟨_, he, .inl ⟨rfl, rfl⟩, hw ▸ Below.refl _ _⟩
theorem rbits_all (A : Option Addr) (n c N B : Nat) (l : List UInt8) (s : Int) (w : World) (HB : Hid (B = w.heap.size)) (hl : Rd w N A n l) (hN : N ≤ B) (hn : n ≤ 3000) :
    Calls Try.prog 17 #[.slice A n c, .int .i64 s] w fun e w' => ∃ v, e = .returned (.tuple #[v, .int .i64 (layE l s)]) ∧ Made w' B v (layR l s) ∧ Below B w w' := by
  unfold layE layR
  by_cases hs : 1 ≤ s ∧ s ≤ 8
  · obtain ⟨d, rfl⟩ := Int.eq_ofNat_of_zero_le (show 0 ≤ s by omega)
    refine (rbits_any A n c N d B l w HB hl hN hn (by omega) (by omega)).mono fun e w' ⟨⟨hy, hno⟩, hb⟩ => ?_
    cases hall : narrow d l
    · have h : ¬ layOk l d := fun h => by have := h.2; rw [Int.toNat_natCast, hall] at this; cases this
      rw [if_neg h, if_neg h]
      exact ⟨_, hno hall, World.ownsRow_nil _ _ _ _, hb⟩
    · have h : layOk l d := ⟨hs, by rw [Int.toNat_natCast]; exact hall⟩
      obtain ⟨v, he, hv⟩ := hy hall
      rw [if_pos h, if_pos h, Int.toNat_natCast, hl.1]
      exact ⟨v, he, hv, hb⟩
  · have h : ¬ layOk l s := fun h => hs h.1
    rw [if_neg h, if_neg h]
    exact (rbits_width A n c s w hs).mono fun e w' ⟨he, hw⟩ => ⟨_, he, World.ownsRow_nil _ _ _ _, hw ▸ Below.refl _ _⟩

/-- What Unbits answers of so many bytes. -/
def unE (n : Nat) (s m : Int) : Int := if ¬ (1 ≤ s ∧ s ≤ 8) ∨ m < 0 ∨ 1048576 < m then 2 else if n < bytesOf m.toNat s.toNat then 4 else 0
def unR (b : List UInt8) (n : Nat) (s m : Int) : List UInt8 := if unE n s m = 0 then digL s.toNat m.toNat (val 8 b) else []
theorem length_unR (b : List UInt8) (n : Nat) (s m : Int) : (unR b n s m).length ≤ 1048576 := by
  unfold unR
  split
  · rename_i h
    rw [length_digL]
    unfold unE at h
    split at h
    · cases h
    · omega
  · simp

theorem unbits_all (A : Option Addr) (n c N B : Nat) (b : List UInt8) (s m : Int) (w : World) (HB : Hid (B = w.heap.size)) (hb : Rd w N A n b) (hN : N ≤ B) (hn : n ≤ 140737488351232) :
    Calls Try.prog 18 #[.slice A n c, .int .i64 s, .int .i64 m] w fun e w' => ∃ v, e = .returned (.tuple #[v, .int .i64 (unE n s m)]) ∧ OwnNil w' B v (unR b n s m) ∧ Below B w w' := by
  by_cases h : ¬ (1 ≤ s ∧ s ≤ 8) ∨ m < 0 ∨ 1048576 < m
  · have e : unE n s m = 2 := by unfold unE; rw [if_pos h]
    unfold unR
    rw [e, if_neg (by omega)]
    exact (unbits_arg A n c s m w h).mono fun e w' ⟨he, hw⟩ => ⟨_, he, .inl ⟨rfl, rfl⟩, hw ▸ Below.refl _ _⟩
  · obtain ⟨d, rfl⟩ := Int.eq_ofNat_of_zero_le (show 0 ≤ s by omega)
    obtain ⟨k, rfl⟩ := Int.eq_ofNat_of_zero_le (show 0 ≤ m by omega)
    by_cases h4 : n < bytesOf k d
    · have e : unE n d k = 4 := by unfold unE; rw [if_neg h, Int.toNat_natCast, Int.toNat_natCast, if_pos h4]
      unfold unR
      rw [e, if_neg (by omega)]
      exact (unbits_short A n c d k w (by omega) (by omega) (by omega) h4).mono fun e w' ⟨he, hw⟩ => ⟨_, he, .inl ⟨rfl, rfl⟩, hw ▸ Below.refl _ _⟩
    · have e : unE n d k = 0 := by unfold unE; rw [if_neg h, Int.toNat_natCast, Int.toNat_natCast, if_neg h4]
      unfold unR
      rw [e, if_pos rfl, Int.toNat_natCast, Int.toNat_natCast]
      exact (unbits_ok A n c N d k B b w HB hb hN (by omega) (by omega) (by omega) (by omega) (by omega)).mono fun e w' ⟨v, he, hv, hb⟩ => ⟨v, he, .inr hv, hb⟩
theorem runbits_all (A : Option Addr) (n c N B : Nat) (b : List UInt8) (s m : Int) (w : World) (HB : Hid (B = w.heap.size)) (hb : Rd w N A n b) (hN : N ≤ B) (hn : n ≤ 140737488351232) :
    Calls Try.prog 19 #[.slice A n c, .int .i64 s, .int .i64 m] w fun e w' => ∃ v, e = .returned (.tuple #[v, .int .i64 (unE n s m)]) ∧ Made w' B v (unR b n s m) ∧ Below B w w' := by
  by_cases h : ¬ (1 ≤ s ∧ s ≤ 8) ∨ m < 0 ∨ 1048576 < m
  · have e : unE n s m = 2 := by unfold unE; rw [if_pos h]
    unfold unR
    rw [e, if_neg (by omega)]
    exact (runbits_arg A n c s m w h).mono fun e w' ⟨he, hw⟩ => ⟨_, he, World.ownsRow_nil _ _ _ _, hw ▸ Below.refl _ _⟩
  · obtain ⟨d, rfl⟩ := Int.eq_ofNat_of_zero_le (show 0 ≤ s by omega)
    obtain ⟨k, rfl⟩ := Int.eq_ofNat_of_zero_le (show 0 ≤ m by omega)
    by_cases h4 : n < bytesOf k d
    · have e : unE n d k = 4 := by unfold unE; rw [if_neg h, Int.toNat_natCast, Int.toNat_natCast, if_pos h4]
      unfold unR
      rw [e, if_neg (by omega)]
      exact (runbits_short A n c d k w (by omega) (by omega) (by omega) (by omega) h4).mono fun e w' ⟨he, hw⟩ => ⟨_, he, World.ownsRow_nil _ _ _ _, hw ▸ Below.refl _ _⟩
    · have e : unE n d k = 0 := by unfold unE; rw [if_neg h, Int.toNat_natCast, Int.toNat_natCast, if_neg h4]
      unfold unR
      rw [e, if_pos rfl, Int.toNat_natCast, Int.toNat_natCast]
      exact runbits_ok A n c N d k B b w HB hb hN (by omega) (by omega) (by omega) (by omega) (by omega)
end Go.Proofs.Ytcddmkmogdaobaa
