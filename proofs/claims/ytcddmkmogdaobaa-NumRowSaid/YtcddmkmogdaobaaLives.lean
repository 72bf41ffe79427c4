/-
  lives: the four answers that each law of layer 1 asks besides are true.
-/
import Derived.Test.YtcddmkmogdaobaaUnbits
import Derived.Test.YtcddmkmogdaobaaSame
namespace Go.Proofs.Ytcddmkmogdaobaa
open Go.RowKit
set_option linter.unusedVariables false

/-- A literal's row reads as its bytes. -/
theorem rd_new (w : World) (l : List UInt8) (cs : Array Value) (h : cs.toList = l.map fun u => Value.int .u8 (u.toNat : Int)) : Rd (w.alloc (.cells cs 5)) (w.heap.size + 1) (some ⟨w.heap.size, 0, none⟩) l.length l := by
  refine ⟨rfl, fun k hk => ⟨w.heap.size, 0, rfl, by omega, ?_⟩⟩
  rw [cell_of_row (w.alloc (.cells cs 5)) w.heap.size (0 + k) cs 5 (0, 0) (heap_alloc_new w _), Nat.zero_add, ← Array.getElem?_toList, h, List.getElem?_map, List.getElem?_eq_getElem hk, bt_get hk]
  rfl
theorem Rd.alloc {w : World} {N n : Nat} {A : Option Addr} {l : List UInt8} (h : Rd w N A n l) (hN : N ≤ w.heap.size) (o : Obj) : Rd (w.alloc o) N A n l := h.below ((Below.refl N w).alloc hN o)

theorem over_alloc {w w' : World} {o : Obj} (hb : Below (w.heap.size + 1) (w.alloc o) w') : Below w.heap.size w w' :=
  ((Below.refl _ w).alloc (Nat.le_refl _) o).trans (hb.mono (by omega))
theorem Rd.over {w w' : World} {n : Nat} {A : Option Addr} {l : List UInt8} {o : Obj} (h : Rd w w.heap.size A n l) (hb : Below (w.heap.size + 1) (w.alloc o) w') : Rd w' w'.heap.size A n l :=
  h.step (over_alloc hb)
theorem Rd.up {w : World} {n : Nat} {A : Option Addr} {l : List UInt8} (h : Rd w w.heap.size A n l) (o : Obj) : Rd (w.alloc o) (w.heap.size + 1) A n l :=
  (h.alloc (Nat.le_refl _) o).more (by omega)
set_option maxHeartbeats 1000000 in
theorem lives_yes (w : World) : Calls Try.prog 15 #[] w fun e w' => e = .returned (.bool true) ∧ Below w.heap.size w w' := by
  go_enter Try.func15, Try.ntmps15
  go_wp2_with fail
  refine (put_ok 258 2 w (by omega) (by omega) (by omega)).mono ?_
  rintro e w1 ⟨v1, rfl, hv1, hb1⟩
  go_wp2_with fail
  refine (put_no 256 1 w1 (by omega) (.inr (by decide))).mono ?_
  rintro e w' ⟨rfl, rfl⟩
  go_wp2_with fail
  have r1 : Rd _ _ _ 3 _ := rd_new w1 [1, 2, 3] #[Value.int .u8 1, Value.int .u8 2, Value.int .u8 3] rfl
  refine (bits_ok _ _ _ _ 2 _ [1, 2, 3] _ (Lib.hid rfl) r1 (by simp) (by omega) (by omega) (by omega) rfl).mono ?_
  rintro e w2 ⟨v2, rfl, hv2, hb2⟩
  go_wp2_with fail
  have r2 : Rd _ _ _ 1 _ := rd_new w2 [57] #[Value.int .u8 57] rfl
  refine (unbits_ok _ _ _ _ 2 3 _ [57] _ (Lib.hid rfl) r2 (by simp) (by omega) (by omega) (by omega) (by omega) (by decide)).mono ?_
  rintro e w3 ⟨v3, rfl, hv3, hb3⟩
  obtain ⟨A1, c1, rfl, d1, _, _⟩ := hv1.made.open_ (n := 2) rfl
  obtain ⟨A2, c2, rfl, d2, _, _⟩ := hv2.made.open_ (n := 1) rfl
  obtain ⟨A3, c3, rfl, d3, _, _⟩ := hv3.made.open_ (n := 3) rfl
  rw [World.size_alloc] at hb2 hb3
  have d1 := (d1.over hb2).over hb3
  have d2 := d2.over hb3
  go_wp2_with fail
  have r4 : Rd _ _ _ 2 _ := rd_new w3 [2, 1] #[Value.int .u8 2, Value.int .u8 1] rfl
  refine (same_any _ _ _ _ _ _ _ _ _ _ (d1.up _) r4 (by simp) (by unfold maxLen; omega)).mono ?_
  rintro e w4 ⟨rfl, hb4⟩
  rw [show same (digL 8 2 258) [2, 1] = true from rfl]
  rw [World.size_alloc] at hb4
  have d2 := d2.over hb4
  have d3 := d3.over hb4
  go_wp2_with fail
  have r5 : Rd _ _ _ 1 _ := rd_new w4 [57] #[Value.int .u8 57] rfl
  refine (same_any _ _ _ _ _ _ _ _ _ _ (d2.up _) r5 (by simp) (by unfold maxLen; omega)).mono ?_
  rintro e w5 ⟨rfl, hb5⟩
  rw [show same (digL 8 (bytesOf 3 2) (val 2 [1, 2, 3])) [57] = true from rfl]
  rw [World.size_alloc] at hb5
  have d3 := d3.over hb5
  go_wp2_with fail
  have r6 : Rd _ _ _ 3 _ := rd_new w5 [1, 2, 3] #[Value.int .u8 1, Value.int .u8 2, Value.int .u8 3] rfl
  refine (same_any _ _ _ _ _ _ _ _ _ _ (d3.up _) r6 (by simp) (by unfold maxLen; omega)).mono ?_
  rintro e w6 ⟨rfl, hb6⟩
  rw [show same (digL 2 3 (val 8 [57])) [1, 2, 3] = true from rfl]
  rw [World.size_alloc] at hb6
  go_wp2
  go_ret
  have b1 := over_alloc hb2
  have b2 := over_alloc hb3
  have b3 := over_alloc hb4
  have b4 := over_alloc hb5
  have b5 := over_alloc hb6
  have s1 := hb1.size
  have s2 := b1.size
  have s3 := b2.size
  have s4 := b3.size
  have s5 := b4.size
  exact ⟨rfl, (((((hb1.trans (b1.mono (by omega))).trans (b2.mono (by omega))).trans (b3.mono (by omega))).trans (b4.mono (by omega))).trans (b5.mono (by omega)))⟩
end Go.Proofs.Ytcddmkmogdaobaa
