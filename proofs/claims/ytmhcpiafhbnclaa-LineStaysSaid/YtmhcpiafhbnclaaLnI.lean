/-
  The program's line: what its methods answer and leave, as an interface; a line that lives.
-/
import Derived.Test.YtmhcpiafhbnclaaLnR
import Derived.Test.YtmhcpiafhbnclaaLnO
import Derived.Test.YtmhcpiafhbnclaaInts
namespace Go.Proofs.Ytmhcpiafhbnclaa
open Go.RowKit
set_option linter.unusedVariables false
set_option linter.unusedSimpArgs false
set_option maxRecDepth 100000

/-- A line of the program. -/
structure LnI where
  P : World → Nat → Nat → LnS → Prop
  I : Obj → Prop
  keep : ∀ {w w' : World} {B p : Nat} {s : LnS}, P w B p s → (∀ (b : Nat) (o : Obj), w.heap[b]? = some o → I o → w'.heap[b]? = some o) → P w' B p s
  ok : ∀ {w : World} {B p : Nat} {s : LnS}, P w B p s → LnOk s ∧ B ≤ p ∧ p < w.heap.size
  rn : ∀ o, isRn o → ¬ I o
  own : ∀ cs t fr, t = 36 ∨ t = 33 ∨ t = 3 → ¬ I (.cells cs t fr)
  new_ok : ∀ (N : Nat) (w : World), 1 ≤ N → N ≤ 16 → Calls Try.prog 7 #[.int .i64 (N : Int)] w fun e w' => ∃ p, e = .returned (.tuple #[.pointer (some ⟨p, 0, none⟩), .int .i64 0]) ∧ P w' w.heap.size p (lnNew N) ∧ Below w.heap.size w w'
  new_no : ∀ (n : Int) (w : World), ¬ (1 ≤ n ∧ n ≤ 16) → Calls Try.prog 7 #[.int .i64 n] w fun e w' => e = .returned (.tuple #[.pointer none, .int .i64 2]) ∧ Below w.heap.size w w'
  learn_ : ∀ (w : World) (m : Int) (b : Blk) {B p : Nat} {s : LnS}, P w B p s → Calls Try.prog 12 #[.pointer (some ⟨p, 0, none⟩), .int .i64 m, blk b] w fun e w' => e = .returned (.int .i64 (lnE s m)) ∧ P w' B p (lnLrn s m b) ∧ Turn I B w w'
  set_ : ∀ (w : World) (m : Int) (b : Blk) (Q : Nat) {B p : Nat} {s : LnS}, P w B p s → Q < 18446744073709551616 → Calls Try.prog 13 #[.pointer (some ⟨p, 0, none⟩), .int .i64 m, blk b, .int .u64 (Q : Int)] w fun e w' => e = .returned (.int .i64 (lnSE s m Q)) ∧ P w' B p (lnSet s m b Q) ∧ Turn I B w w'
  forget_ : ∀ (w : World) (m : Int) {B p : Nat} {s : LnS}, P w B p s → Calls Try.prog 14 #[.pointer (some ⟨p, 0, none⟩), .int .i64 m] w fun e w' => e = .returned (.int .i64 (lnE s m)) ∧ P w' B p (lnFrg s m) ∧ Turn I B w w'
  clean_ : ∀ (w : World)  {B p : Nat} {s : LnS}, P w B p s → Calls Try.prog 15 #[.pointer (some ⟨p, 0, none⟩)] w fun e w' => e = .returned (.int .i64 0) ∧ P w' B p (lnCln s) ∧ Turn I B w w'
  get_ : ∀ (w : World) (m : Int) {B p : Nat} {s : LnS}, P w B p s → Calls Try.prog 17 #[.pointer (some ⟨p, 0, none⟩), .int .i64 m] w fun e w' => e = .returned (.tuple #[blk (lnG s m).b, .bool (lnG s m).kn]) ∧ Below w.heap.size w w'
  dirty_ : ∀ (w : World)  {B p : Nat} {s : LnS}, P w B p s → Calls Try.prog 16 #[.pointer (some ⟨p, 0, none⟩)] w fun e w' => ∃ v, e = .returned v ∧ MadeE IntE w' w.heap.size v (lnD s) ∧ Below w.heap.size w w'
  first_ : ∀ (w : World)  {B p : Nat} {s : LnS}, P w B p s → Calls Try.prog 18 #[.pointer (some ⟨p, 0, none⟩)] w fun e w' => e = .returned (.int .u64 (s.f : Int)) ∧ Below w.heap.size w w'
  members_ : ∀ (w : World)  {B p : Nat} {s : LnS}, P w B p s → Calls Try.prog 20 #[.pointer (some ⟨p, 0, none⟩)] w fun e w' => e = .returned (.int .i64 (s.l.length : Int)) ∧ Below w.heap.size w w'
  No : World → Value → Prop
  zc : List Value
  no_nil : ∀ w : World, No w (.pointer none)
  bld0 : ∀ w : World, (Instr.build 54 #[]).run Try.prog w = .ok (.agg zc.toArray) w
  no_zero : ∀ w : World, No (w.alloc (.cells zc.toArray 54)) (.pointer (some ⟨w.heap.size, 0, none⟩))
  no_below : ∀ {w w' : World} {v : Value}, No w v → Below w.heap.size w w' → No w' v
  no_learn : ∀ (w : World) (v : Value) (m : Int) (b : Blk), No w v → Calls Try.prog 12 #[v, .int .i64 m, blk b] w fun e w' => e = .returned (.int .i64 1) ∧ Below w.heap.size w w'
  no_set : ∀ (w : World) (v : Value) (m : Int) (b : Blk) (Q : Nat), No w v → Calls Try.prog 13 #[v, .int .i64 m, blk b, .int .u64 (Q : Int)] w fun e w' => e = .returned (.int .i64 1) ∧ Below w.heap.size w w'
  no_forget : ∀ (w : World) (v : Value) (m : Int), No w v → Calls Try.prog 14 #[v, .int .i64 m] w fun e w' => e = .returned (.int .i64 1) ∧ Below w.heap.size w w'
  no_clean : ∀ (w : World) (v : Value) , No w v → Calls Try.prog 15 #[v] w fun e w' => e = .returned (.int .i64 1) ∧ Below w.heap.size w w'
  no_get : ∀ (w : World) (v : Value) (m : Int), No w v → Calls Try.prog 17 #[v, .int .i64 m] w fun e w' => e = .returned (.tuple #[blk zeroB, .bool false]) ∧ Below w.heap.size w w'
  no_dirty : ∀ (w : World) (v : Value) , No w v → Calls Try.prog 16 #[v] w fun e w' => e = .returned (.slice none 0 0) ∧ Below w.heap.size w w'
  no_first : ∀ (w : World) (v : Value) , No w v → Calls Try.prog 18 #[v] w fun e w' => e = .returned (.int .u64 0) ∧ Below w.heap.size w w'
  no_members : ∀ (w : World) (v : Value) , No w v → Calls Try.prog 20 #[v] w fun e w' => e = .returned (.int .i64 0) ∧ Below w.heap.size w w'
section
variable {C : LnI} {w w' : World} {B p : Nat} {s : LnS}
theorem LnI.below (h : C.P w B p s) (hb : Below w.heap.size w w') : C.P w' B p s := C.keep h fun b o ho _ => blk_keep ho hb
theorem LnI.other {I : Obj → Prop} {B' : Nat} (h : C.P w B p s) (hb : Turn I B' w w') (hI : ∀ o, C.I o → ¬ I o) : C.P w' B p s := C.keep h fun b o ho hp => hb.keep ho (hI o hp)
theorem LnI.pr (o : Obj) (h : C.I o) : ¬ isRn o := fun e => C.rn o e h
theorem LnI.learn_v (h : C.P w B p s) {m : Int} {b : Blk} {e0 : Int} {s' : LnS} (he : lnE s m = e0) (hs : lnLrn s m b = s') : Calls Try.prog 12 #[.pointer (some ⟨p, 0, none⟩), .int .i64 m, blk b] w fun e w' => e = .returned (.int .i64 e0) ∧ C.P w' B p s' ∧ Turn C.I B w w' := by
  subst he hs; exact C.learn_ w m b h
theorem LnI.set_v (h : C.P w B p s) {m : Int} {b : Blk} {Q : Nat} {e0 : Int} {s' : LnS} (hQ : Q < 18446744073709551616) (he : lnSE s m Q = e0) (hs : lnSet s m b Q = s') : Calls Try.prog 13 #[.pointer (some ⟨p, 0, none⟩), .int .i64 m, blk b, .int .u64 (Q : Int)] w fun e w' => e = .returned (.int .i64 e0) ∧ C.P w' B p s' ∧ Turn C.I B w w' := by
  subst he hs; exact C.set_ w m b Q h hQ
theorem LnI.get_v (h : C.P w B p s) {m : Int} {c : LC} (hc : lnG s m = c) : Calls Try.prog 17 #[.pointer (some ⟨p, 0, none⟩), .int .i64 m] w fun e w' => e = .returned (.tuple #[blk c.b, .bool c.kn]) ∧ Below w.heap.size w w' := by
  subst hc; exact C.get_ w m h
theorem LnI.dirty_v (h : C.P w B p s) {l : List Int} (hl : lnD s = l) : Calls Try.prog 16 #[.pointer (some ⟨p, 0, none⟩)] w fun e w' => ∃ v, e = .returned v ∧ MadeE IntE w' w.heap.size v l ∧ Below w.heap.size w w' := by
  subst hl; exact C.dirty_ w h
theorem LnI.first_v (h : C.P w B p s) {f : Nat} (hf : s.f = f) : Calls Try.prog 18 #[.pointer (some ⟨p, 0, none⟩)] w fun e w' => e = .returned (.int .u64 (f : Int)) ∧ Below w.heap.size w w' := by
  subst hf; exact C.first_ w h
end
def lvA : Blk := zeroB.set 0 170
def lvB : Blk := zeroB.set 0 187
def lvC : Blk := zeroB.set 0 204
theorem bldA (w : World) : (Instr.build 33 #[(0, .int .u8 170)]).run Try.prog w = .ok (blk lvA) w := by kernel_rfl
theorem bldB_ (w : World) : (Instr.build 33 #[(0, .int .u8 187)]).run Try.prog w = .ok (blk lvB) w := by kernel_rfl
theorem bldC_ (w : World) : (Instr.build 33 #[(0, .int .u8 204)]).run Try.prog w = .ok (blk lvC) w := by kernel_rfl
def lv1 (a : Blk) : LnS := ⟨[lc0, ⟨true, false, a⟩, lc0], 0⟩
def lv2 (b : Blk) : LnS := ⟨[lc0, ⟨true, true, b⟩, lc0], 7⟩
theorem lv_1 (a : Blk) : lnE (lnNew 3) 1 = 0 ∧ lnLrn (lnNew 3) 1 a = lv1 a := ⟨rfl, rfl⟩
theorem lv_2 (a b : Blk) : lnSE (lv1 a) 1 7 = 0 ∧ lnSet (lv1 a) 1 b 7 = lv2 b := ⟨rfl, rfl⟩
theorem lv_3 (b c : Blk) : lnE (lv2 b) 1 = 0 ∧ lnLrn (lv2 b) 1 c = lv2 b := ⟨rfl, rfl⟩
theorem lv_4 (b : Blk) : lnG (lv2 b) 1 = ⟨true, true, b⟩ ∧ lnG (lv2 b) 2 = lc0 ∧ lnD (lv2 b) = [1] ∧ (lv2 b).f = 7 := ⟨rfl, rfl, rfl, rfl⟩
set_option maxHeartbeats 2000000 in
theorem lnlives (C : LnI) (w : World) : Calls Try.prog 9 #[] w fun e w' => e = .returned (.bool true) ∧ Below w.heap.size w w' := by
  go_enter Try.func9, Try.ntmps9
  go_upto_region 1 with fail
  refine wp_region_lit ?_
  refine wpList_call rfl (exec_cl Try.call7 rfl (evc evk evn)) ?_
  refine (C.new_ok 3 w (by omega) (by omega)).mono ?_
  rintro e w1 ⟨p, rfl, h1, b1⟩
  have H1 := Lib.hid h1
  have B1 := Lib.hid b1
  clear h1 b1
  refine ⟨_, rfl, ?_⟩
  simp only [Act.put, List.setIfInBounds_toArray, List.set_cons_succ, List.set_cons_zero]
  refine wpList_valn rfl (exec_mv rfl (ev rfl)) ?_
  simp only [Act.put, List.setIfInBounds_toArray, List.set_cons_succ, List.set_cons_zero]
  refine wpList_valn rfl (exec_ext rfl (ev rfl) rfl) ?_
  simp only [Act.put, List.setIfInBounds_toArray, List.set_cons_succ, List.set_cons_zero]
  refine wpList_valn rfl (exec_ext rfl (ev rfl) rfl) ?_
  simp only [Act.put, List.setIfInBounds_toArray, List.set_cons_succ, List.set_cons_zero]
  refine wpList_valn rfl (exec_as rfl (ev rfl)) ?_
  simp only [Act.put, List.setIfInBounds_toArray, List.set_cons_succ, List.set_cons_zero]
  refine wpList_valn rfl (exec_as rfl (ev rfl)) ?_
  simp only [Act.put, List.setIfInBounds_toArray, List.set_cons_succ, List.set_cons_zero]
  refine wpList_nil ?_
  go_upto_region 2 with fail
  refine wp_region_lit ?_
  refine wpList_valn rfl (exec_mv rfl (ev rfl)) ?_
  simp only [Act.put, List.setIfInBounds_toArray, List.set_cons_succ, List.set_cons_zero]
  refine wpList_valn (v := .bool false) rfl (exec_neInt false rfl (ev rfl) evk rfl) ?_
  simp only [Act.put, List.setIfInBounds_toArray, List.set_cons_succ, List.set_cons_zero]
  refine wpList_valn (v := .bool false) rfl (exec_mv rfl (ev rfl)) ?_
  simp only [Act.put, List.setIfInBounds_toArray, List.set_cons_succ, List.set_cons_zero]
  refine wpList_val (wanted_of rfl rfl rfl rfl) (exec_mv rfl (ev rfl)) ?_
  simp only [Act.put, List.setIfInBounds_toArray, List.set_cons_succ, List.set_cons_zero]
  refine wpList_val (v := .bool false) (wanted_of rfl rfl rfl rfl) (exec_eqNil false Try.underlying23 rfl (ev rfl) evk rfl) ?_
  simp only [Act.put, List.setIfInBounds_toArray, List.set_cons_succ, List.set_cons_zero]
  refine wpList_valn (v := .bool false) rfl (exec_pf rfl (ev rfl) (ev rfl)) ?_
  simp only [Act.put, List.setIfInBounds_toArray, List.set_cons_succ, List.set_cons_zero]
  refine wpList_nil ?_
  go_upto_region 4 with fail
  refine wp_region_lit ?_
  refine wpList_valn rfl (exec_mv rfl (ev rfl)) ?_
  simp only [Act.put, List.setIfInBounds_toArray, List.set_cons_succ, List.set_cons_zero]
  refine wpList_valn rfl (exec_bld1 rfl evk (bldA _)) ?_
  simp only [Act.put, List.setIfInBounds_toArray, List.set_cons_succ, List.set_cons_zero]
  refine wpList_call rfl (exec_cl Try.call12 rfl (evc (ev rfl) (evc evk (evc (ev rfl) evn)))) ?_
  refine (LnI.learn_v (b := lvA) (m := 1) H1.out (lv_1 lvA).1 (lv_1 lvA).2).mono ?_
  rintro e w2 ⟨rfl, h2, t2⟩
  have H2 := Lib.hid h2
  have B2 := Lib.hid (Turn.below B1.out t2 B1.out.size)
  clear h2 t2
  refine ⟨_, rfl, ?_⟩
  simp only [Act.put, List.setIfInBounds_toArray, List.set_cons_succ, List.set_cons_zero]
  refine wpList_valn rfl (exec_as rfl (ev rfl)) ?_
  simp only [Act.put, List.setIfInBounds_toArray, List.set_cons_succ, List.set_cons_zero]
  refine wpList_nil ?_
  go_upto_region 5 with fail
  refine wp_region_lit ?_
  refine wpList_valn rfl (exec_mv rfl (ev rfl)) ?_
  simp only [Act.put, List.setIfInBounds_toArray, List.set_cons_succ, List.set_cons_zero]
  refine wpList_valn rfl (exec_bld1 rfl evk (bldB_ _)) ?_
  simp only [Act.put, List.setIfInBounds_toArray, List.set_cons_succ, List.set_cons_zero]
  refine wpList_call rfl (exec_cl Try.call13 rfl (evc (ev rfl) (evc evk (evc (ev rfl) (evc evk evn))))) ?_
  refine (LnI.set_v (b := lvB) (m := 1) (Q := 7) H2.out (by omega) (lv_2 lvA lvB).1 (lv_2 lvA lvB).2).mono ?_
  rintro e w3 ⟨rfl, h3, t3⟩
  have H3 := Lib.hid h3
  have B3 := Lib.hid (Turn.below B2.out t3 B2.out.size)
  clear h3 t3
  refine ⟨_, rfl, ?_⟩
  simp only [Act.put, List.setIfInBounds_toArray, List.set_cons_succ, List.set_cons_zero]
  refine wpList_valn rfl (exec_as rfl (ev rfl)) ?_
  simp only [Act.put, List.setIfInBounds_toArray, List.set_cons_succ, List.set_cons_zero]
  refine wpList_nil ?_
  go_upto_region 6 with fail
  refine wp_region_lit ?_
  refine wpList_valn rfl (exec_mv rfl (ev rfl)) ?_
  simp only [Act.put, List.setIfInBounds_toArray, List.set_cons_succ, List.set_cons_zero]
  refine wpList_valn rfl (exec_bld1 rfl evk (bldC_ _)) ?_
  simp only [Act.put, List.setIfInBounds_toArray, List.set_cons_succ, List.set_cons_zero]
  refine wpList_call rfl (exec_cl Try.call12 rfl (evc (ev rfl) (evc evk (evc (ev rfl) evn)))) ?_
  refine (LnI.learn_v (b := lvC) (m := 1) H3.out (lv_3 lvB lvC).1 (lv_3 lvB lvC).2).mono ?_
  rintro e w4 ⟨rfl, h4, t4⟩
  have H4 := Lib.hid h4
  have B4 := Lib.hid (Turn.below B3.out t4 B3.out.size)
  clear h4 t4
  refine ⟨_, rfl, ?_⟩
  simp only [Act.put, List.setIfInBounds_toArray, List.set_cons_succ, List.set_cons_zero]
  refine wpList_valn rfl (exec_as rfl (ev rfl)) ?_
  simp only [Act.put, List.setIfInBounds_toArray, List.set_cons_succ, List.set_cons_zero]
  refine wpList_nil ?_
  go_upto_region 7 with fail
  refine wp_region_lit ?_
  refine wpList_valn rfl (exec_mv rfl (ev rfl)) ?_
  simp only [Act.put, List.setIfInBounds_toArray, List.set_cons_succ, List.set_cons_zero]
  refine wpList_call rfl (exec_cl Try.call17 rfl (evc (ev rfl) (evc evk evn))) ?_
  refine (LnI.get_v (m := 1) H4.out (lv_4 lvB).1).mono ?_
  rintro e w5 ⟨rfl, b5⟩
  have H5 := Lib.hid (LnI.below H4.out b5)
  have B5 := Lib.hid (B4.out.trans (b5.mono B4.out.size))
  clear b5
  refine ⟨_, rfl, ?_⟩
  simp only [Act.put, List.setIfInBounds_toArray, List.set_cons_succ, List.set_cons_zero]
  refine wpList_valn rfl (exec_mv rfl (ev rfl)) ?_
  simp only [Act.put, List.setIfInBounds_toArray, List.set_cons_succ, List.set_cons_zero]
  refine wpList_valn rfl (exec_ext rfl (ev rfl) rfl) ?_
  simp only [Act.put, List.setIfInBounds_toArray, List.set_cons_succ, List.set_cons_zero]
  refine wpList_valn rfl (exec_ext rfl (ev rfl) rfl) ?_
  simp only [Act.put, List.setIfInBounds_toArray, List.set_cons_succ, List.set_cons_zero]
  refine wpList_valn rfl (exec_alloc rfl) ?_
  simp only [Act.put, List.setIfInBounds_toArray, List.set_cons_succ, List.set_cons_zero]
  refine wpList_nuln rfl (exec_fillN rfl (ev rfl) (ev rfl)) ?_
  simp only [Act.put, List.setIfInBounds_toArray, List.set_cons_succ, List.set_cons_zero]
  have HA5 := Lib.hid ((Below.refl w5.heap.size w5).alloc (Nat.le_refl _) (.cells (cel lvB).toArray 33))
  have H6 := Lib.hid (LnI.below H5.out HA5.out)
  have B6 := Lib.hid (B5.out.trans (HA5.out.mono B5.out.size))
  have HX := Lib.hid (range_new w5 (cel lvB) 33)
  have HXL : Hid (w5.heap.size < (w5.alloc (.cells (cel lvB).toArray 33)).heap.size) := Lib.hid (by rw [World.size_alloc]; omega)
  generalize w5.alloc (.cells (cel lvB).toArray 33) = w6 at *
  refine wpList_valn rfl (exec_as rfl (ev rfl)) ?_
  simp only [Act.put, List.setIfInBounds_toArray, List.set_cons_succ, List.set_cons_zero]
  refine wpList_nil ?_
  go_upto_region 8 with fail
  refine wp_region_lit ?_
  refine wpList_valn rfl (exec_mv rfl (ev rfl)) ?_
  simp only [Act.put, List.setIfInBounds_toArray, List.set_cons_succ, List.set_cons_zero]
  refine wpList_call rfl (exec_cl Try.call17 rfl (evc (ev rfl) (evc evk evn))) ?_
  refine (LnI.get_v (m := 2) H6.out (lv_4 lvB).2.1).mono ?_
  rintro e w7 ⟨rfl, b7⟩
  have H7 := Lib.hid (LnI.below H6.out b7)
  have B7 := Lib.hid (B6.out.trans (b7.mono B6.out.size))
  have HX := Lib.hid (range_below HX.out HXL.out b7)
  have HS7 := Lib.hid b7.size
  clear b7
  refine ⟨_, rfl, ?_⟩
  simp only [Act.put, List.setIfInBounds_toArray, List.set_cons_succ, List.set_cons_zero]
  refine wpList_valn rfl (exec_mv rfl (ev rfl)) ?_
  simp only [Act.put, List.setIfInBounds_toArray, List.set_cons_succ, List.set_cons_zero]
  refine wpList_valn rfl (exec_ext rfl (ev rfl) rfl) ?_
  simp only [Act.put, List.setIfInBounds_toArray, List.set_cons_succ, List.set_cons_zero]
  refine wpList_valn rfl (exec_ext rfl (ev rfl) rfl) ?_
  simp only [Act.put, List.setIfInBounds_toArray, List.set_cons_succ, List.set_cons_zero]
  refine wpList_valn rfl (exec_alloc rfl) ?_
  simp only [Act.put, List.setIfInBounds_toArray, List.set_cons_succ, List.set_cons_zero]
  refine wpList_nuln rfl (exec_fillN (c := zeroB) rfl (ev rfl) (ev rfl)) ?_
  simp only [Act.put, List.setIfInBounds_toArray, List.set_cons_succ, List.set_cons_zero]
  have HX := Lib.hid (range_below HX.out (Nat.lt_of_lt_of_le HXL.out (HS7.out)) ((Below.refl w7.heap.size w7).alloc (Nat.le_refl _) (.cells (cel zeroB).toArray 33)))
  have HA7 := Lib.hid ((Below.refl w7.heap.size w7).alloc (Nat.le_refl _) (.cells (cel zeroB).toArray 33))
  have H8 := Lib.hid (LnI.below H7.out HA7.out)
  have B8 := Lib.hid (B7.out.trans (HA7.out.mono B7.out.size))
  generalize w7.alloc (.cells (cel zeroB).toArray 33) = w8 at *
  refine wpList_valn rfl (exec_as rfl (ev rfl)) ?_
  simp only [Act.put, List.setIfInBounds_toArray, List.set_cons_succ, List.set_cons_zero]
  refine wpList_nil ?_
  go_upto_region 9 with fail
  refine wp_region_lit ?_
  refine wpList_valn rfl (exec_mv rfl (ev rfl)) ?_
  simp only [Act.put, List.setIfInBounds_toArray, List.set_cons_succ, List.set_cons_zero]
  refine wpList_valn (v := .bool true) rfl (exec_eqInt true rfl (ev rfl) evk rfl) ?_
  simp only [Act.put, List.setIfInBounds_toArray, List.set_cons_succ, List.set_cons_zero]
  refine wpList_valn (v := .bool true) rfl (exec_mv rfl (ev rfl)) ?_
  simp only [Act.put, List.setIfInBounds_toArray, List.set_cons_succ, List.set_cons_zero]
  refine wpList_val (wanted_of rfl rfl rfl rfl) (exec_mv rfl (ev rfl)) ?_
  simp only [Act.put, List.setIfInBounds_toArray, List.set_cons_succ, List.set_cons_zero]
  refine wpList_val (v := .bool true) (wanted_of rfl rfl rfl rfl) (exec_eqInt true rfl (ev rfl) evk rfl) ?_
  simp only [Act.put, List.setIfInBounds_toArray, List.set_cons_succ, List.set_cons_zero]
  refine wpList_valn (v := .bool true) rfl (exec_pt rfl (ev rfl) (ev rfl)) ?_
  simp only [Act.put, List.setIfInBounds_toArray, List.set_cons_succ, List.set_cons_zero]
  refine wpList_valn (v := .bool true) rfl (exec_mv rfl (ev rfl)) ?_
  simp only [Act.put, List.setIfInBounds_toArray, List.set_cons_succ, List.set_cons_zero]
  refine wpList_val (wanted_of rfl rfl rfl rfl) (exec_mv rfl (ev rfl)) ?_
  simp only [Act.put, List.setIfInBounds_toArray, List.set_cons_succ, List.set_cons_zero]
  refine wpList_val (v := .bool true) (wanted_of rfl rfl rfl rfl) (exec_eqInt true rfl (ev rfl) evk rfl) ?_
  simp only [Act.put, List.setIfInBounds_toArray, List.set_cons_succ, List.set_cons_zero]
  refine wpList_valn (v := .bool true) rfl (exec_pt rfl (ev rfl) (ev rfl)) ?_
  simp only [Act.put, List.setIfInBounds_toArray, List.set_cons_succ, List.set_cons_zero]
  refine wpList_valn (v := .bool true) rfl (exec_mv rfl (ev rfl)) ?_
  simp only [Act.put, List.setIfInBounds_toArray, List.set_cons_succ, List.set_cons_zero]
  refine wpList_val (wanted_of rfl rfl rfl rfl) (exec_load rfl (ev rfl) HX.out) ?_
  simp only [Act.put, List.setIfInBounds_toArray, List.set_cons_succ, List.set_cons_zero]
  refine wpList_val (wanted_of rfl rfl rfl rfl) (exec_bld1 rfl evk (bldB_ _)) ?_
  simp only [Act.put, List.setIfInBounds_toArray, List.set_cons_succ, List.set_cons_zero]
  refine wpList_val (v := .bool true) (wanted_of rfl rfl rfl rfl) (exec_eqlB true rfl (ev rfl) (ev rfl) (decide_eq_true rfl)) ?_
  simp only [Act.put, List.setIfInBounds_toArray, List.set_cons_succ, List.set_cons_zero]
  refine wpList_valn (v := .bool true) rfl (exec_pt rfl (ev rfl) (ev rfl)) ?_
  simp only [Act.put, List.setIfInBounds_toArray, List.set_cons_succ, List.set_cons_zero]
  refine wpList_valn (v := .bool true) rfl (exec_mv rfl (ev rfl)) ?_
  simp only [Act.put, List.setIfInBounds_toArray, List.set_cons_succ, List.set_cons_zero]
  refine wpList_val (v := .bool true) (wanted_of rfl rfl rfl rfl) (exec_mv rfl (ev rfl)) ?_
  simp only [Act.put, List.setIfInBounds_toArray, List.set_cons_succ, List.set_cons_zero]
  refine wpList_valn (v := .bool true) rfl (exec_pt rfl (ev rfl) (ev rfl)) ?_
  simp only [Act.put, List.setIfInBounds_toArray, List.set_cons_succ, List.set_cons_zero]
  refine wpList_valn (v := .bool true) rfl (exec_mv rfl (ev rfl)) ?_
  simp only [Act.put, List.setIfInBounds_toArray, List.set_cons_succ, List.set_cons_zero]
  refine wpList_val (v := .bool false) (wanted_of rfl rfl rfl rfl) (exec_mv rfl (ev rfl)) ?_
  simp only [Act.put, List.setIfInBounds_toArray, List.set_cons_succ, List.set_cons_zero]
  refine wpList_val (v := .bool true) (wanted_of rfl rfl rfl rfl) (exec_not false rfl (ev rfl)) ?_
  simp only [Act.put, List.setIfInBounds_toArray, List.set_cons_succ, List.set_cons_zero]
  refine wpList_valn (v := .bool true) rfl (exec_pt rfl (ev rfl) (ev rfl)) ?_
  simp only [Act.put, List.setIfInBounds_toArray, List.set_cons_succ, List.set_cons_zero]
  refine wpList_valn (v := .bool true) rfl (exec_mv rfl (ev rfl)) ?_
  simp only [Act.put, List.setIfInBounds_toArray, List.set_cons_succ, List.set_cons_zero]
  refine wpList_val (wanted_of rfl rfl rfl rfl) (exec_mv rfl (ev rfl)) ?_
  simp only [Act.put, List.setIfInBounds_toArray, List.set_cons_succ, List.set_cons_zero]
  refine wpList_call (wanted_of rfl rfl rfl rfl) (exec_cl Try.call16 rfl (evc (ev rfl) evn)) ?_
  refine (LnI.dirty_v H8.out (lv_4 lvB).2.2.1).mono ?_
  rintro e w9 ⟨v9, rfl, hm9, b9⟩
  obtain ⟨A9, c9, rfl, h91, h92⟩ := hm9.form
  have HR := Lib.hid hm9.rd
  have H9 := Lib.hid (LnI.below H8.out b9)
  have B9 := Lib.hid (B8.out.trans (b9.mono B8.out.size))
  clear hm9 b9 h91 h92
  refine ⟨_, rfl, ?_⟩
  simp only [Act.put, List.setIfInBounds_toArray, List.set_cons_succ, List.set_cons_zero]
  refine wpList_val (wanted_of rfl rfl rfl rfl) (exec_mk1E (E := IntE) (a := 1) rfl evk rfl (by decide)) ?_
  simp only [Act.put, List.setIfInBounds_toArray, List.set_cons_succ, List.set_cons_zero]
  refine wpList_call (wanted_of rfl rfl rfl rfl) (exec_cl Try.call19 rfl (evc (ev rfl) (evc (ev rfl) evn))) ?_
  refine (ints_any _ _ _ _ _ _ (w9.heap.size + 1) [1] [1] _ (HR.out.up _) (rdE_new (E := IntE) (l := [1]) w9 (IntE.cel 1).toArray IntE.t rfl) (by rw [World.size_alloc]; exact Nat.le_refl _) (by unfold maxLen; decide)).mono ?_
  rintro e w10 ⟨rfl, b10⟩
  have hb10 := ((Below.refl w9.heap.size w9).alloc (Nat.le_refl _) (.cells (IntE.cel 1).toArray IntE.t)).trans (b10.mono (by rw [World.size_alloc]; omega))
  have H10 := Lib.hid (LnI.below H9.out hb10)
  have B10 := Lib.hid (B9.out.trans (hb10.mono B9.out.size))
  clear b10 hb10
  rw [show sameI [1] [1] = true from rfl]
  refine ⟨_, rfl, ?_⟩
  simp only [Act.put, List.setIfInBounds_toArray, List.set_cons_succ, List.set_cons_zero]
  refine wpList_valn (v := .bool true) rfl (exec_pt rfl (ev rfl) (ev rfl)) ?_
  simp only [Act.put, List.setIfInBounds_toArray, List.set_cons_succ, List.set_cons_zero]
  refine wpList_valn (v := .bool true) rfl (exec_mv rfl (ev rfl)) ?_
  simp only [Act.put, List.setIfInBounds_toArray, List.set_cons_succ, List.set_cons_zero]
  refine wpList_val (wanted_of rfl rfl rfl rfl) (exec_mv rfl (ev rfl)) ?_
  simp only [Act.put, List.setIfInBounds_toArray, List.set_cons_succ, List.set_cons_zero]
  refine wpList_call (wanted_of rfl rfl rfl rfl) (exec_cl Try.call18 rfl (evc (ev rfl) evn)) ?_
  refine (LnI.first_v H10.out (lv_4 lvB).2.2.2).mono ?_
  rintro e w11 ⟨rfl, b11⟩
  have B11 := Lib.hid (B10.out.trans (b11.mono B10.out.size))
  clear b11
  refine ⟨_, rfl, ?_⟩
  simp only [Act.put, List.setIfInBounds_toArray, List.set_cons_succ, List.set_cons_zero]
  refine wpList_val (v := .bool true) (wanted_of rfl rfl rfl rfl) (exec_eqInt true rfl (ev rfl) evk rfl) ?_
  simp only [Act.put, List.setIfInBounds_toArray, List.set_cons_succ, List.set_cons_zero]
  refine wpList_valn (v := .bool true) rfl (exec_pt rfl (ev rfl) (ev rfl)) ?_
  simp only [Act.put, List.setIfInBounds_toArray, List.set_cons_succ, List.set_cons_zero]
  refine wpList_valn (v := .bool true) rfl (exec_as rfl (ev rfl)) ?_
  simp only [Act.put, List.setIfInBounds_toArray, List.set_cons_succ, List.set_cons_zero]
  refine wpList_nil ?_
  go_wp2_with fail
  go_ret
  exact ⟨rfl, B11.out⟩
end Go.Proofs.Ytmhcpiafhbnclaa
