/-
  Geometries and places that came in.
-/
import Derived.Test.YthephlgdjbdaoaaGeo
import Derived.Test.YthephlgdjbdaoaaKnob
import Derived.Lib.SmallJoins
namespace Go.Proofs.Ythephlgdjbdaoaa
open Go.RowKit Go.ChangeShapes Go.WideShapes Go.ChangeAt Go.Deep Go.Joins
section
variable {H : Type} {enc : TypeId × Value → H} {W : World} {base : Nat} {v : Value} {d : DataW H} {p : List MemPlace}
theorem one_int {m : Nat} {x : Value} {y : DataW H × List MemPlace} (h : DataW.trod enc Try.prog W 0 (fun _ => true) true m 3 [x] = some y) : ∃ k : Int, x = .int .i64 k := by
  obtain ⟨k, e, _, hw⟩ := DataW.trod_int Try.underlying3 h
  injection e with e
  exact ⟨k, e⟩
theorem open_geo (hv : Value.okWide Try.prog W .any base 23 v) (h : DataW.Trod enc Try.prog W 0 (fun _ => true) true 23 v d p) : ∃ m s r : Int, v = geoV m s r := by
  obtain ⟨v0, v1, v2, y0, y1, y2, n, rfl, _, _, h0, h1, h2⟩ := open_agg3 Try.underlying23 (by kernel_rfl) (by kernel_rfl) hv h
  obtain ⟨a, rfl⟩ := one_int h0
  obtain ⟨b, rfl⟩ := one_int h1
  obtain ⟨c, rfl⟩ := one_int h2
  exact ⟨a, b, c, rfl⟩
theorem open_place (hv : Value.okWide Try.prog W .any base 25 v) (h : DataW.Trod enc Try.prog W 0 (fun _ => true) true 25 v d p) : ∃ s m : Int, v = placeV s m := by
  obtain ⟨v0, v1, y0, y1, n, rfl, _, _, h0, h1⟩ := open_agg2 Try.underlying25 (by kernel_rfl) (by kernel_rfl) hv h
  obtain ⟨a, rfl⟩ := one_int h0
  obtain ⟨b, rfl⟩ := one_int h1
  exact ⟨a, b, rfl⟩
end
end Go.Proofs.Ythephlgdjbdaoaa
