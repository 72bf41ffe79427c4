import Derived.Calls
namespace Go.Proofs.Ytdmhelalbemlcaa
theorem aa {A : Type} (l : List A) (i : Nat) (a : A) : l.toArray.setIfInBounds i a = (l.set i a).toArray := List.setIfInBounds_toArray ..
theorem ac {A : Type} (l : List A) (i : Nat) (a b : A) : (a :: l).set (i + 1) b = a :: l.set i b := rfl
theorem ae {A : Type} (l : List A) (a b : A) : (a :: l).set 0 b = b :: l := rfl
end Go.Proofs.Ytdmhelalbemlcaa
