import Derived.Tactics
import Derived.Below
import Derived.Lib.Hide
namespace Go.Proofs.YtehefifamaofkaaGreatDoor
open Go.RowKit
theorem aa : (∀ (t : Array Value) (ds : List Deferred) (i : Nat) (v : Value), Act.put ⟨t, ds⟩ (some i) v = ⟨t.setIfInBounds i v, ds⟩) ∧ (∀ (a : Act) (v : Value), a.put none v = a) ∧ (∀ (l : List Value) (i : Nat) (v : Value), l.toArray.setIfInBounds i v = (l.set i v).toArray) ∧ (∀ (l : List Value) (i : Nat) (a b : Value), (a :: l).set (i + 1) b = a :: l.set i b) ∧ ∀ (l : List Value) (a b : Value), (a :: l).set 0 b = b :: l := ⟨fun _ _ _ _ => rfl, fun _ _ => rfl, fun _ _ _ => List.setIfInBounds_toArray .., fun _ _ _ _ => rfl, fun _ _ _ => rfl⟩
theorem ac : (∀ (l : List Oper) (i : Nat) (a : Oper), (a :: l).take (i + 1) = a :: l.take i) ∧ (∀ l : List Oper, l.take 0 = []) ∧ (∀ (l : List Oper) (i : Nat) (a : Oper), (a :: l).drop (i + 1) = l.drop i) ∧ ∀ l : List Oper, l.drop 0 = l := ⟨fun _ _ _ => rfl, fun _ => rfl, fun _ _ _ => rfl, fun _ => rfl⟩
theorem ah : (∀ (l : List Value) (i : Nat) (a b : Value), (a :: l).set (i + 1) b = a :: l.set i b) ∧ ∀ (l : List Value) (a b : Value), (a :: l).set 0 b = b :: l := ⟨fun _ _ _ _ => rfl, fun _ _ _ => rfl⟩
theorem ai {n : Nat} : n ≤ n := Nat.le_refl n
theorem aj {B : Nat} {w : World} : Below B w w := Below.refl B w
theorem ak {w : World} {o : Obj} : (w.alloc o).heap.size = w.heap.size + 1 := World.size_alloc ..
theorem al {p : Prop} [i : Decidable p] (h : ¬p) : decide p = false := decide_eq_false h
theorem am {p : Prop} [i : Decidable p] (h : p) : decide p = true := decide_eq_true h
theorem ap {a b c : Nat} (h : a ≤ b) (k : b ≤ c) : a ≤ c := Nat.le_trans h k
theorem aq {a b c : Nat} (h : a < b) (k : b ≤ c) : a < c := Nat.lt_of_lt_of_le h k
theorem ar {T : Type} [BEq T] [LawfulBEq T] {a b : T} (h : a ≠ b) : (a == b) = false := beq_eq_false_iff_ne.2 h
theorem ae {p : Prop} (h : p) : Hid p := Lib.hid h
theorem af {P : Program} {Q : Exit → Act → World → Prop} {a : Act} {w : World} {id : Nat} {l : List Oper} (h : wpList P l.toArray Q l a w) : (Code.region id l.toArray false).wp P Q a w := wp_region_lit h
theorem ag {P : Program} {ops : Array Oper} {Q : Exit → Act → World → Prop} {a : Act} {w : World} (h : Q .normal a w) : wpList P ops Q [] a w := wpList_nil h
end Go.Proofs.YtehefifamaofkaaGreatDoor
