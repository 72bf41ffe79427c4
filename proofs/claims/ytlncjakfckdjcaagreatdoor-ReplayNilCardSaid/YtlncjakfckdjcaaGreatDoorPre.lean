/-
  What the walks of this seat import alike; what a row of bytes is made of.
-/
import Derived.Test.YtlncjakfckdjcaaGreatDoorBase
import Derived.Test.YtlncjakfckdjcaaGreatDoorMath
import Derived.Test.YtlncjakfckdjcaaGreatDoorProg
import Derived.WalkKit
import Derived.RegionTactic
import Derived.ChangeAlike
import Derived.Deep.QuietTactic
import Derived.BigQuiet
import Derived.Lib.Hide
import Derived.WalkLawsBesides
import Derived.WalkSpells
import Derived.Deep.OwnRows
namespace Go.Proofs.YtlncjakfckdjcaaGreatDoor
open Go.RowKit
set_option maxRecDepth 100000
theorem u8info : (Tryz.prog.info? 5).map (fun i => (i.zero, i.size, i.bytes)) = some (some (.int .u8 0), 1, 1) := by kernel_rfl

/-- A literal's row reads as its bytes. -/
theorem rd_new (w : World) (l : List UInt8) (cs : Array Value) (h : cs.toList = l.map fun u => Value.int .u8 (u.toNat : Int)) : Rd (w.alloc (.cells cs 5)) (w.heap.size + 1) (some ⟨w.heap.size, 0, none⟩) l.length l := by
  refine ⟨rfl, fun k hk => ⟨w.heap.size, 0, rfl, by omega, ?_⟩⟩
  rw [cell_of_row (w.alloc (.cells cs 5)) w.heap.size (0 + k) cs 5 (0, 0) (heap_alloc_new w _), Nat.zero_add, ← Array.getElem?_toList, h, List.getElem?_map, List.getElem?_eq_getElem hk, bt_get hk]
  rfl
/-- The same of a block of whatever type. -/
theorem rd_typed (t : TypeId) (w : World) (l : List UInt8) (cs : Array Value) (h : cs.toList = l.map fun u => Value.int .u8 (u.toNat : Int)) : Rd (w.alloc (.cells cs t)) (w.heap.size + 1) (some ⟨w.heap.size, 0, none⟩) l.length l := by
  refine ⟨rfl, fun k hk => ⟨w.heap.size, 0, rfl, by omega, ?_⟩⟩
  rw [cell_of_row (w.alloc (.cells cs t)) w.heap.size (0 + k) cs t (0, 0) (heap_alloc_new w _), Nat.zero_add, ← Array.getElem?_toList, h, List.getElem?_map, List.getElem?_eq_getElem hk, bt_get hk]
  rfl
/-- The same of a block that bears a mark. -/
theorem rd_marked (w : World) (l : List UInt8) (cs : Array Value) (fr : Nat × Nat) (h : cs.toList = l.map fun u => Value.int .u8 (u.toNat : Int)) : Rd (w.alloc (.cells cs 5 fr)) (w.heap.size + 1) (some ⟨w.heap.size, 0, none⟩) l.length l := by
  refine ⟨rfl, fun k hk => ⟨w.heap.size, 0, rfl, by omega, ?_⟩⟩
  rw [cell_of_row (w.alloc (.cells cs 5 fr)) w.heap.size (0 + k) cs 5 fr (heap_alloc_new w _), Nat.zero_add, ← Array.getElem?_toList, h, List.getElem?_map, List.getElem?_eq_getElem hk, bt_get hk]
  rfl
theorem Rd.alloc {w : World} {N n : Nat} {A : Option Addr} {l : List UInt8} (h : Rd w N A n l) (hN : N ≤ w.heap.size) (o : Obj) : Rd (w.alloc o) N A n l := h.below ((Below.refl N w).alloc hN o)
theorem over_alloc {w w' : World} {o : Obj} (hb : Below (w.heap.size + 1) (w.alloc o) w') : Below w.heap.size w w' :=
  ((Below.refl _ w).alloc (Nat.le_refl _) o).trans (hb.mono (by omega))
theorem Rd.over {w w' : World} {n : Nat} {A : Option Addr} {l : List UInt8} {o : Obj} (h : Rd w w.heap.size A n l) (hb : Below (w.heap.size + 1) (w.alloc o) w') : Rd w' w'.heap.size A n l :=
  h.step (over_alloc hb)
theorem Rd.up {w : World} {n : Nat} {A : Option Addr} {l : List UInt8} (h : Rd w w.heap.size A n l) (o : Obj) : Rd (w.alloc o) (w.heap.size + 1) A n l :=
  (h.alloc (Nat.le_refl _) o).more (by omega)
end Go.Proofs.YtlncjakfckdjcaaGreatDoor
