/-
  Geometries, and what the small functions of geom answer: May, width, hasStripe.
-/
import Derived.Test.YthephlgdjbdaoaaReg
namespace Go.Proofs.Ythephlgdjbdaoaa
open Go.RowKit
set_option linter.unusedVariables false

/-- A geometry's value. -/
def geoV (m s r : Int) : Value := .agg #[.int .i64 m, .int .i64 s, .int .i64 r]
/-- A place's value. -/
def placeV (s m : Int) : Value := .agg #[.int .i64 s, .int .i64 m]
def may (m s r : Int) : Bool := decide (3 ≤ m ∧ m ≤ 16 ∧ 1 ≤ s ∧ s ≤ 64 ∧ 40 ≤ r ∧ r ≤ 256)
theorem may_iff {m s r : Int} : may m s r = true ↔ (3 ≤ m ∧ m ≤ 16 ∧ 1 ≤ s ∧ s ≤ 64 ∧ 40 ≤ r ∧ r ≤ 256) := by unfold may; rw [decide_eq_true_iff]
theorem may_not {m s r : Int} : may m s r = false ↔ ¬(3 ≤ m ∧ m ≤ 16 ∧ 1 ≤ s ∧ s ≤ 64 ∧ 40 ≤ r ∧ r ≤ 256) := by unfold may; rw [decide_eq_false_iff_not]
def has (s t : Int) : Bool := decide (0 ≤ t ∧ t < s)
theorem has_iff {s t : Int} : has s t = true ↔ (0 ≤ t ∧ t < s) := by unfold has; rw [decide_eq_true_iff]
theorem has_not {s t : Int} : has s t = false ↔ ¬(0 ≤ t ∧ t < s) := by unfold has; rw [decide_eq_false_iff_not]

set_option maxHeartbeats 1000000 in
theorem may_prog (m s r : Int) (w : World) : Calls Try.prog 10 #[geoV m s r] w fun e w' => e = .returned (.bool (may m s r)) ∧ Below w.heap.size w w' := by
  unfold geoV
  go_enter Try.func10, Try.ntmps10
  go_wp2
  all_goals
    go_ret
    refine ⟨ret_bool ?_, (Below.refl _ _).alloc (Nat.le_refl _) _⟩
    first
      | (refine Eq.symm (may_not.2 ?_); omega)
      | (rw [Bool.eq_iff_iff, may_iff, decide_eq_true_iff]; omega)
set_option maxHeartbeats 1000000 in
theorem may_ref (m s r : Int) (w : World) : Calls Try.prog 11 #[geoV m s r] w fun e w' => e = .returned (.bool (may m s r)) ∧ Below w.heap.size w w' := by
  unfold geoV
  go_enter Try.func11, Try.ntmps11
  go_wp2
  all_goals
    go_ret
    refine ⟨ret_bool ?_, (Below.refl _ _).alloc (Nat.le_refl _) _⟩
    first
      | (refine Eq.symm (may_not.2 ?_); omega)
      | (rw [Bool.eq_iff_iff, may_iff, decide_eq_true_iff]; omega)
theorem has_prog (m s r t : Int) (w : World) : Calls Try.prog 25 #[geoV m s r, .int .i64 t] w fun e w' => e = .returned (.bool (has s t)) ∧ Below w.heap.size w w' := by
  unfold geoV
  go_enter Try.func25, Try.ntmps25
  go_wp2
  all_goals
    go_ret
    refine ⟨ret_bool ?_, (Below.refl _ _).alloc (Nat.le_refl _) _⟩
    first
      | (refine Eq.symm (has_not.2 ?_); omega)
      | (rw [Bool.eq_iff_iff, has_iff, decide_eq_true_iff]; omega)
theorem width_prog (M : Nat) (s r : Int) (w : World) (h3 : 3 ≤ M) (h16 : M ≤ 16) : Calls Try.prog 27 #[geoV M s r] w fun e w' => e = .returned (.int .i64 ((M - 1 : Nat) : Int)) ∧ Below w.heap.size w w' := by
  unfold geoV
  go_enter Try.func27, Try.ntmps27
  go_wp2
  go_ret
  exact ⟨ret_int (by omega), (Below.refl _ _).alloc (Nat.le_refl _) _⟩
/-- The member of a stripe's parity; of its data. -/
def par (M T : Nat) : Nat := M - 1 - T % M
def dat (M T d : Nat) : Nat := (par M T + 1 + d) % M
theorem tmod_nat (a b : Nat) : (a : Int).tmod (b : Int) = ((a % b : Nat) : Int) := (Int.ofNat_tmod a b).symm
theorem tdiv_nat (a b : Nat) : (a : Int).tdiv (b : Int) = ((a / b : Nat) : Int) := (Int.ofNat_tdiv a b).symm

theorem wrap64_nat {n : Nat} (h : n < 9223372036854775808) : wrap64 (n : Int) = (n : Int) := by unfold wrap64; omega
/-! Blocks of memory that a walk laid: kept by whatever a callee lays. -/
theorem blk_keep {w w' : World} {b : Nat} {o : Obj} (h : w.heap[b]? = some o) (hb : Below w.heap.size w w') : w'.heap[b]? = some o := (hb.block b (Array.getElem?_eq_some_iff.1 h).1).trans h
theorem blk_keep2 {w w' : World} {B b : Nat} {o : Obj} (h : w.heap[b]? = some o) (hB : b < B) (hb : Below B w w') : w'.heap[b]? = some o := (hb.block b hB).trans h
theorem blk_past {w : World} {b : Nat} {o : Obj} (h : w.heap[b]? = some o) (o' : Obj) : (w.alloc o').heap[b]? = some o := (Below.heap_alloc w o' b (Array.getElem?_eq_some_iff.1 h).1).trans h
theorem blk_lt {w : World} {b : Nat} {o : Obj} (h : w.heap[b]? = some o) : b < w.heap.size := (Array.getElem?_eq_some_iff.1 h).1
section
variable {w : World} {b : Nat} {t : TypeId} {x y z : Value}
theorem cells2 (h : w.heap[b]? = some (.cells #[x, y] t (0, 0))) : w.cell? ⟨b, 0, none⟩ = some x ∧ w.cell? ⟨b, 1, none⟩ = some y ∧ w.frozen? ⟨b, 0, none⟩ = false ∧ w.frozen? ⟨b, 1, none⟩ = false := by
  refine ⟨?_, ?_, frozen_of_row w b 0 _ t h, frozen_of_row w b 1 _ t h⟩
  · rw [cell_of_row w b 0 _ t (0, 0) h]; rfl
  · rw [cell_of_row w b 1 _ t (0, 0) h]; rfl
theorem cells3 (h : w.heap[b]? = some (.cells #[x, y, z] t (0, 0))) : w.cell? ⟨b, 0, none⟩ = some x ∧ w.cell? ⟨b, 1, none⟩ = some y ∧ w.cell? ⟨b, 2, none⟩ = some z := by
  refine ⟨?_, ?_, ?_⟩
  · rw [cell_of_row w b 0 _ t (0, 0) h]; rfl
  · rw [cell_of_row w b 1 _ t (0, 0) h]; rfl
  · rw [cell_of_row w b 2 _ t (0, 0) h]; rfl
end
/-- Behind a first callee: what was boxed ahead of it stands. -/
theorem behind_g {w w1 : World} {o : Obj} (hb : Below (w.alloc o).heap.size (w.alloc o) w1) (hf : (w.alloc o).heap[w.heap.size]? = some o) : Hid (w1.heap[w.heap.size]? = some o) ∧ Hid (Below w.heap.size w w1) :=
  ⟨Lib.hid (blk_keep hf hb), Lib.hid (((Below.refl w.heap.size w).alloc (Nat.le_refl _) _).trans (hb.mono (by simp)))⟩
theorem behind_gp {w w1 : World} {o o' : Obj} (hb : Below ((w.alloc o).alloc o').heap.size ((w.alloc o).alloc o') w1) (hf : (w.alloc o).heap[w.heap.size]? = some o) (hf' : ((w.alloc o).alloc o').heap[w.heap.size + 1]? = some o') :
    Hid (w1.heap[w.heap.size]? = some o) ∧ Hid (w1.heap[w.heap.size + 1]? = some o') ∧ w.heap.size + 1 < w1.heap.size ∧ Hid (Below w.heap.size w w1) :=
  ⟨Lib.hid (blk_keep (blk_past hf o') hb), Lib.hid (blk_keep hf' hb), blk_lt (blk_keep hf' hb), Lib.hid ((((Below.refl w.heap.size w).alloc (Nat.le_refl _) _).alloc (by simp) _).trans (hb.mono (by simp; omega)))⟩
theorem new1 (w : World) (cs : Array Value) (t : TypeId) : (w.alloc (.cells cs t)).heap[w.heap.size]? = some (.cells cs t) := heap_alloc_new w _
theorem new2 (w : World) (o : Obj) (cs : Array Value) (t : TypeId) : ((w.alloc o).alloc (.cells cs t)).heap[w.heap.size + 1]? = some (.cells cs t) := by
  have := heap_alloc_new (w.alloc o) (.cells cs t)
  rwa [World.size_alloc] at this
/-! A result through a cell: a place, alone or with a number behind it; a geometry. -/
section
variable {fn : Func} {p u : Tmp} {x y z : Int} {tmps : Array Value} {w : World} {b : Nat}
theorem load_place (h0 : w.cell? ⟨b, 0, none⟩ = some (.int .i64 x)) (h1 : w.cell? ⟨b, 1, none⟩ = some (.int .i64 y)) : (loadVar 25 ⟨b, 0, none⟩).run Try.prog w = .ok (placeV x y) w := by
  simp [go_sem, loadVar, h0, h1, placeV]
  done
theorem res_place (h : fn.results = #[.cell p 25]) (hp : tmps.getD p undef = .pointer (some ⟨b, 0, none⟩)) (h0 : w.cell? ⟨b, 0, none⟩ = some (.int .i64 x)) (h1 : w.cell? ⟨b, 1, none⟩ = some (.int .i64 y)) :
    (results fn tmps).run Try.prog w = .ok (placeV x y) w := by
  have hp' : tmps[p]?.getD undef = .pointer (some ⟨b, 0, none⟩) := by simpa using hp
  simp [results, h, hp', asAddr, load_place h0 h1]
theorem res_place2 (h : fn.results = #[.cell p 25, .tmp u]) (hp : tmps.getD p undef = .pointer (some ⟨b, 0, none⟩)) (h0 : w.cell? ⟨b, 0, none⟩ = some (.int .i64 x)) (h1 : w.cell? ⟨b, 1, none⟩ = some (.int .i64 y)) :
    (results fn tmps).run Try.prog w = .ok (.tuple #[placeV x y, tmps.getD u undef]) w := by
  have hp' : tmps[p]?.getD undef = .pointer (some ⟨b, 0, none⟩) := by simpa using hp
  simp [results, h, hp', asAddr, load_place h0 h1]
end

theorem par_int {M : Nat} (T : Nat) (h3 : 3 ≤ M) : (M : Int) - 1 - (T : Int) % (M : Int) = ((par M T : Nat) : Int) := by
  have hlt : T % M < M := Nat.mod_lt _ (by omega)
  have e : (T : Int) % (M : Int) = ((T % M : Nat) : Int) := rfl
  rw [e]
  unfold par
  omega
theorem par_lt {M : Nat} (T : Nat) (h3 : 3 ≤ M) : par M T < M := by unfold par; omega
theorem dat_int (M T d : Nat) : ((par M T : Nat) + 1 + (d : Int)) % (M : Int) = ((dat M T d : Nat) : Int) := rfl
theorem dat_lt {M : Nat} (T d : Nat) (h3 : 3 ≤ M) : dat M T d < M := Nat.mod_lt _ (by omega)
section
variable {w : World} {b : Nat} {m s r : Int} {a : Addr} {v : Value}
theorem faG0 : (Instr.fieldAt 23 (.pointer (some ⟨b, 0, none⟩)) 0).run Try.prog w = .ok (.pointer (some ⟨b, 0, none⟩)) w := by kernel_rfl
theorem faG1 : (Instr.fieldAt 23 (.pointer (some ⟨b, 0, none⟩)) 1).run Try.prog w = .ok (.pointer (some ⟨b, 1, none⟩)) w := by kernel_rfl
theorem faG2 : (Instr.fieldAt 23 (.pointer (some ⟨b, 0, none⟩)) 2).run Try.prog w = .ok (.pointer (some ⟨b, 2, none⟩)) w := by kernel_rfl
theorem faP0 : (Instr.fieldAt 25 (.pointer (some ⟨b, 0, none⟩)) 0).run Try.prog w = .ok (.pointer (some ⟨b, 0, none⟩)) w := by kernel_rfl
theorem faP1 : (Instr.fieldAt 25 (.pointer (some ⟨b, 0, none⟩)) 1).run Try.prog w = .ok (.pointer (some ⟨b, 1, none⟩)) w := by kernel_rfl
theorem ldI {k : IntKind} {x : Int} (h : w.cell? a = some (.int k x)) : (Instr.loadAt 3 (.pointer (some a))).run Try.prog w = .ok (.int k x) w := by
  simp [go_sem, h]
theorem ldG (h0 : w.cell? ⟨b, 0, none⟩ = some (.int .i64 m)) (h1 : w.cell? ⟨b, 1, none⟩ = some (.int .i64 s)) (h2 : w.cell? ⟨b, 2, none⟩ = some (.int .i64 r)) : (Instr.loadAt 23 (.pointer (some ⟨b, 0, none⟩))).run Try.prog w = .ok (geoV m s r) w := by
  simp [go_sem, h0, h1, h2, geoV]
theorem ldP (h0 : w.cell? ⟨b, 0, none⟩ = some (.int .i64 m)) (h1 : w.cell? ⟨b, 1, none⟩ = some (.int .i64 s)) : (Instr.loadAt 25 (.pointer (some ⟨b, 0, none⟩))).run Try.prog w = .ok (placeV m s) w := by
  simp [go_sem, h0, h1, placeV]
end
theorem fieldP0 (x y : Int) : ∀ w : World, (Instr.field 25 (.agg #[.int .i64 x, .int .i64 y]) 0).run Try.prog w = .ok (.int .i64 x) w := fun _ => by kernel_rfl
theorem fieldP1 (x y : Int) : ∀ w : World, (Instr.field 25 (.agg #[.int .i64 x, .int .i64 y]) 1).run Try.prog w = .ok (.int .i64 y) w := fun _ => by kernel_rfl
theorem par_prog (M T : Nat) (s r : Int) (w : World) (h3 : 3 ≤ M) (h16 : M ≤ 16) (ht : T ≤ 64) : Calls Try.prog 26 #[geoV M s r, .int .i64 T] w fun e w' => e = .returned (placeV T (par M T)) ∧ Below w.heap.size w w' := by
  have hne : (M : Int) ≠ 0 := by omega
  unfold geoV
  go_enter Try.func26, Try.ntmps26
  go_wp2
  go_region
  go_wp2
  refine bodyPost_ret (res_place (b := w.heap.size + 1) (x := T) (y := par M T) rfl rfl (by go_simp) (by go_simp; rw [par_int T h3]; exact wrap64_nat (by have := par_lt T h3; omega))) rfl ⟨rfl, ?_⟩
  exact bd (((Below.refl _ _).alloc (Nat.le_refl _) _).alloc (by go_simp) _)
theorem dat_prog (M T d : Nat) (s r : Int) (w : World) (h3 : 3 ≤ M) (h16 : M ≤ 16) (ht : T ≤ 64) (hd : d ≤ 16) : Calls Try.prog 28 #[geoV M s r, .int .i64 T, .int .i64 d] w fun e w' => e = .returned (placeV T (dat M T d)) ∧ Below w.heap.size w w' := by
  have hne : (M : Int) ≠ 0 := by omega
  have hp := par_lt T h3
  have hf := fieldP1 T (par M T)
  unfold geoV
  go_enter Try.func28, Try.ntmps28
  go_wp2_with fail
  refine (par_prog M T s r _ h3 h16 ht).mono ?_
  rintro e w1 ⟨rfl, hb1⟩
  unfold placeV
  obtain ⟨K0, K1, hs, HB⟩ := behind_gp hb1 (new1 ..) (new2 ..)
  obtain ⟨c0, c1, c2⟩ := cells3 K0.out
  obtain ⟨p0, p1, f0, f1⟩ := cells2 K1.out
  clear hb1
  go_wp2
  refine bodyPost_ret (res_place (b := w.heap.size + 1) (x := T) (y := dat M T d) rfl rfl (by go_simp) (by go_simp; exact dat_int M T d)) rfl ⟨rfl, ?_⟩
  exact (HB.out.setCell (by simp) _).setCell (by simp) _

theorem blocks_no (m s r : Int) (w : World) (h : may m s r = false) : Calls Try.prog 12 #[geoV m s r] w fun e w' => e = .returned (.int .i64 0) ∧ Below w.heap.size w w' := by
  have H := Lib.hid h
  clear h
  unfold geoV
  go_enter Try.func12, Try.ntmps12
  go_wp2_with fail
  refine (may_prog m s r _).mono ?_
  rintro e w1 ⟨rfl, hb1⟩
  obtain ⟨K0, HB⟩ := behind_g hb1 (new1 ..)
  obtain ⟨c0, c1, c2⟩ := cells3 K0.out
  rw [H.out]
  clear hb1
  go_wp2
  go_ret
  exact ⟨rfl, HB.out⟩
end Go.Proofs.Ythephlgdjbdaoaa
