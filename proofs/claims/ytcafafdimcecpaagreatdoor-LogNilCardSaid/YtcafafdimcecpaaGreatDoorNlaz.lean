import Derived.Test.YtcafafdimcecpaaGreatDoorNlax
import Derived.Test.YtcafafdimcecpaaGreatDoorNlay
import Derived.Test.YtcafafdimcecpaaGreatDoorNlZ
namespace Go.Proofs.YtcafafdimcecpaaGreatDoor
open Go.RowKit
set_option linter.unusedVariables false
set_option linter.unusedSimpArgs false
set_option maxRecDepth 100000
section
variable {ρ : Operand → Value} {o : Oper} {x y : Operand} {w : World} {t r : TypeId}
theorem exec_eqPn {te : TypeId} (hp : Tryz.prog.underlying t = some (.pointer te)) (ho : o.op = .binOp .eql t x y r) (hx : ρ x = .pointer none) (hy : ρ y = .pointer none) : (execOp ρ o).run Tryz.prog w = .ok (.value (.bool true)) w := by
  have h : ∀ d : Nat, (Op.equalIn (d + 1) t (.pointer none) (.pointer none)).run Tryz.prog w = .ok true w := fun d => by
    simp [Op.equalIn, run_underlying hp]
  unfold execOp
  simp [ho, hx, hy, eqGuard, binOp, Op.equal, Op.maxDepth, h 9999]
end
def NoB (w : World) (v : Value) : Prop := ∀ w', Below w.heap.size w w' → Calls Tryz.prog 70 #[v] w' fun e w'' => e = .returned (.bool false) ∧ w' = w''
def NoL (w : World) (v : Value) : Prop := ∀ w', Below w.heap.size w w' → Calls Tryz.prog 56 #[v] w' fun e w'' => e = .returned (.bool false) ∧ w' = w''
theorem dev_nil (w : World) : Calls Tryz.prog 114 #[.pointer none] w fun e w' => e = .returned (.int .i64 0) ∧ w = w' := by
  go_enter Tryz.func114, Tryz.ntmps114
  go_wp2_with fail
  go_ret
  exact ⟨rfl, rfl⟩
def zbC : List Value := [.slice none 0 0, .int .i64 0, .int .i64 0, .bool false]
def zlC : List Value := [.pointer none, .int .i64 0, .int .u64 0, .int .u64 0, .int .i64 0, .int .u64 0, .int .u64 0, .slice none 0 0]
theorem dev_zero {b : Nat} (w : World) (h : w.heap[b]? = some (.cells zbC.toArray 85 (0, 0))) : Calls Tryz.prog 114 #[.pointer (some ⟨b, 0, none⟩)] w fun e w' => e = .returned (.int .i64 0) ∧ w = w' := by
  have c0 : w.cell? ⟨b, 0, none⟩ = some (.slice none 0 0) := (dC h) 0 _ rfl
  clear h
  go_enter Tryz.func114, Tryz.ntmps114
  go_wp2_with fail
  go_ret
  exact ⟨rfl, rfl⟩
theorem nob_of {w : World} {v : Value} (h : Calls Tryz.prog 114 #[v] w fun e w' => e = .returned (.int .i64 0) ∧ w = w') : Calls Tryz.prog 70 #[v] w fun e w'' => e = .returned (.bool false) ∧ w = w'' := by
  have HH := Lib.hid h
  clear h
  go_enter Tryz.func70, Tryz.ntmps70
  go_wp2_with fail
  refine HH.out.mono ?_
  rintro e w1 ⟨rfl, rfl⟩
  go_wp2_with fail
  go_ret
  exact ⟨rfl, rfl⟩
theorem nob_nil (w : World) : NoB w (.pointer none) := fun w' _ => nob_of (dev_nil w')
theorem nob_zero {b : Nat} (w : World) (h : w.heap[b]? = some (.cells zbC.toArray 85 (0, 0))) : NoB w (.pointer (some ⟨b, 0, none⟩)) := fun w' hb => nob_of (dev_zero w' (bx h hb))
theorem nol_nil (w : World) : NoL w (.pointer none) := fun w' _ => by
  go_enter Tryz.func56, Tryz.ntmps56
  go_wp2_with fail
  go_ret
  exact ⟨rfl, rfl⟩
theorem nol_zero {b : Nat} (w : World) (h : w.heap[b]? = some (.cells zlC.toArray 88 (0, 0))) : NoL w (.pointer (some ⟨b, 0, none⟩)) := fun w' hb => by
  have c0 : w'.cell? ⟨b, 0, none⟩ = some (.pointer none) := (dC (bx h hb)) 0 _ rfl
  clear h hb
  go_enter Tryz.func56, Tryz.ntmps56
  go_wp2_with fail
  go_ret
  exact ⟨rfl, rfl⟩
theorem nl_open {v : Value} {d : Int} (w : World) (h : NoB w v) : Calls Tryz.prog 22 #[v, .int .i64 d] w fun e w' => e = .returned (.tuple #[.pointer none, .int .i64 1]) ∧ w = w' := by
  have HH := Lib.hid (h w (Below.refl _ _))
  clear h
  go_enter Tryz.func22, Tryz.ntmps22
  go_wp2_with fail
  refine HH.out.mono ?_
  rintro e w1 ⟨rfl, rfl⟩
  go_wp2_with fail
  go_ret2
  exact ⟨rfl, rfl⟩
theorem nl_lay {v : Value} {d r : Int} {i : Nat} (w : World) (h : NoB w v) : Calls Tryz.prog 35 #[v, .int .i64 d, .int .u64 (i : Int), .int .i64 r] w fun e w' => e = .returned (.tuple #[.pointer none, .int .i64 1]) ∧ w = w' := by
  have HH := Lib.hid (h w (Below.refl _ _))
  clear h
  go_enter Tryz.func35, Tryz.ntmps35
  go_wp2_with fail
  refine HH.out.mono ?_
  rintro e w1 ⟨rfl, rfl⟩
  go_wp2_with fail
  go_ret2
  exact ⟨rfl, rfl⟩
theorem nl_app {v : Value} {A : Option Addr} {n c : Nat} (w : World) (h : NoL w v) : Calls Tryz.prog 19 #[v, .slice A n c] w fun e w' => e = .returned (.tuple #[.int .u64 0, .int .i64 1]) ∧ w = w' := by
  have HH := Lib.hid (h w (Below.refl _ _))
  clear h
  go_enter Tryz.func19, Tryz.ntmps19
  go_wp2_with fail
  refine HH.out.mono ?_
  rintro e w1 ⟨rfl, rfl⟩
  go_wp2_with fail
  go_ret2
  exact ⟨rfl, rfl⟩
theorem nl_rec {v : Value} {i : Nat} (w : World) (h : NoL w v) : Calls Tryz.prog 24 #[v, .int .u64 (i : Int)] w fun e w' => e = .returned (.tuple #[.slice none 0 0, .int .i64 1]) ∧ w = w' := by
  have HH := Lib.hid (h w (Below.refl _ _))
  clear h
  go_enter Tryz.func24, Tryz.ntmps24
  go_wp2_with fail
  refine HH.out.mono ?_
  rintro e w1 ⟨rfl, rfl⟩
  go_wp2_with fail
  go_ret2
  exact ⟨rfl, rfl⟩
theorem nl_clr {v : Value} {i : Nat} (w : World) (h : NoL w v) : Calls Tryz.prog 17 #[v, .int .u64 (i : Int)] w fun e w' => e = .returned (.int .i64 1) ∧ w = w' := by
  have HH := Lib.hid (h w (Below.refl _ _))
  clear h
  go_enter Tryz.func17, Tryz.ntmps17
  go_wp2_with fail
  refine HH.out.mono ?_
  rintro e w1 ⟨rfl, rfl⟩
  go_wp2_with fail
  go_ret
  exact ⟨rfl, rfl⟩
theorem nl_live {v : Value} (w : World) (h : NoL w v) : Calls Tryz.prog 23 #[v] w fun e w' => e = .returned (.tuple #[.int .u64 0, .int .u64 0]) ∧ w = w' := by
  have HH := Lib.hid (h w (Below.refl _ _))
  clear h
  go_enter Tryz.func23, Tryz.ntmps23
  go_wp2_with fail
  refine HH.out.mono ?_
  rintro e w1 ⟨rfl, rfl⟩
  go_wp2_with fail
  go_ret2
  exact ⟨rfl, rfl⟩
theorem nl_free {v : Value} (w : World) (h : NoL w v) : Calls Tryz.prog 31 #[v] w fun e w' => e = .returned (.int .i64 0) ∧ w = w' := by
  have HH := Lib.hid (h w (Below.refl _ _))
  clear h
  go_enter Tryz.func31, Tryz.ntmps31
  go_wp2_with fail
  refine HH.out.mono ?_
  rintro e w1 ⟨rfl, rfl⟩
  go_wp2_with fail
  go_ret
  exact ⟨rfl, rfl⟩
theorem nl_id {v : Value} (w : World) (h : NoL w v) : Calls Tryz.prog 36 #[v] w fun e w' => e = .returned (.int .u64 0) ∧ w = w' := by
  have HH := Lib.hid (h w (Below.refl _ _))
  clear h
  go_enter Tryz.func36, Tryz.ntmps36
  go_wp2_with fail
  refine HH.out.mono ?_
  rintro e w1 ⟨rfl, rfl⟩
  go_wp2_with fail
  go_ret
  exact ⟨rfl, rfl⟩
theorem nl_ring {v : Value} (w : World) (h : NoL w v) : Calls Tryz.prog 32 #[v] w fun e w' => e = .returned (.int .i64 0) ∧ w = w' := by
  have HH := Lib.hid (h w (Below.refl _ _))
  clear h
  go_enter Tryz.func32, Tryz.ntmps32
  go_wp2_with fail
  refine HH.out.mono ?_
  rintro e w1 ⟨rfl, rfl⟩
  go_wp2_with fail
  go_ret
  exact ⟨rfl, rfl⟩
theorem ldCells {w : World} {a : Addr} {A : Option Addr} {n c : Nat} (h : w.cell? a = some (.slice A n c)) : (Instr.loadAt 34 (.pointer (some a))).run Tryz.prog w = .ok (.slice A n c) w := by simp [go_sem, h]
theorem run_zb (w : World) : (Instr.build 85 #[]).run Tryz.prog w = .ok (.agg zbC.toArray) w := by kernel_rfl
theorem run_zl (w : World) : (Instr.build 88 #[]).run Tryz.prog w = .ok (.agg zlC.toArray) w := by kernel_rfl
set_option maxHeartbeats 2000000 in
theorem wnil (w : World) (T : Tbs w) (a : Act14) (z : Bool) : Calls Tryz.prog 8 #[a.V, .bool z] w fun e w' => e = .returned (.bool true) ∧ Below w.heap.size w w' := by
  have HT0 := Lib.hid T
  have HA0 := Lib.hid (Act14.At_.new w a)
  have HB0 := Lib.hid ((Below.refl w.heap.size w).alloc (Nat.le_refl _) (.cells a.C.toArray 38))
  have HZ0 : Hid (w.heap.size < (w.alloc (.cells a.C.toArray 38)).heap.size) := Lib.hid (by rw [World.size_alloc]; omega)
  clear T
  go_enter Tryz.func8, Tryz.ntmps8
  go_upto_region 1 with (first | (refine ag rfl (exec_boxAct14 rfl rfl) ?_) | fail)
  generalize w.alloc (.cells a.C.toArray 38) = w1 at *
  cases z
  · have HB := Lib.hid (nob_nil w1)
    have HL := Lib.hid (nol_nil w1)
    have HT := Lib.hid (HT0.out.below HB0.out)
    have HA := HA0
    have HBW := HB0
    clear HT0 HA0 HB0 HZ0
    obtain ⟨w2, hw2⟩ : ∃ w', w1 = w' := ⟨_, rfl⟩
    subst hw2
    go_upto_region 6 with fail
    refine wp_region_lit ?_
    refine ag rfl (ah rfl (ev rfl)) ?_
    simp only [Act.put, aa, ae, af]
    refine ag rfl (ak rfl (ev rfl) faAct141) ?_
    simp only [Act.put, aa, ae, af]
    refine ag rfl (au rfl (ev rfl) (bK HA.out.f1)) ?_
    simp only [Act.put, aa, ae, af]
    refine ao rfl (aq Tryz.call22 rfl (evc (ev rfl) (evc (ev rfl) evn))) ?_
    refine (nl_open w1 HB.out).mono ?_
    rintro e w' ⟨rfl, rfl⟩
    refine ⟨_, rfl, ?_⟩
    simp only [Act.put, aa, ae, af]
    refine ag rfl (ah rfl (ev rfl)) ?_
    simp only [Act.put, aa, ae, af]
    refine ag rfl (az rfl (ev rfl) rfl) ?_
    simp only [Act.put, aa, ae, af]
    refine ag rfl (az rfl (ev rfl) rfl) ?_
    simp only [Act.put, aa, ae, af]
    refine ag rfl (ar rfl (ev rfl)) ?_
    simp only [Act.put, aa, ae, af]
    refine ag rfl (ar rfl (ev rfl)) ?_
    simp only [Act.put, aa, ae, af]
    refine wpList_nil ?_
    go_upto_region 7 with fail
    refine wp_region_lit ?_
    refine ag rfl (ah rfl (ev rfl)) ?_
    simp only [Act.put, aa, ae, af]
    refine ag rfl (ak rfl (ev rfl) faAct141) ?_
    simp only [Act.put, aa, ae, af]
    refine ag rfl (au rfl (ev rfl) (bK HA.out.f1)) ?_
    simp only [Act.put, aa, ae, af]
    refine ag rfl (ak rfl (ev rfl) faAct143) ?_
    simp only [Act.put, aa, ae, af]
    refine ag rfl (au rfl (ev rfl) (bz HA.out.f3)) ?_
    simp only [Act.put, aa, ae, af]
    refine ag rfl (ak rfl (ev rfl) faAct145) ?_
    simp only [Act.put, aa, ae, af]
    refine ag rfl (au rfl (ev rfl) (bK HA.out.f5)) ?_
    simp only [Act.put, aa, ae, af]
    refine ao rfl (aq Tryz.call35 rfl (evc (ev rfl) (evc (ev rfl) (evc (ev rfl) (evc (ev rfl) evn))))) ?_
    refine (nl_lay w1 HB.out).mono ?_
    rintro e w' ⟨rfl, rfl⟩
    refine ⟨_, rfl, ?_⟩
    simp only [Act.put, aa, ae, af]
    refine ag rfl (ah rfl (ev rfl)) ?_
    simp only [Act.put, aa, ae, af]
    refine ag rfl (az rfl (ev rfl) rfl) ?_
    simp only [Act.put, aa, ae, af]
    refine ag rfl (az rfl (ev rfl) rfl) ?_
    simp only [Act.put, aa, ae, af]
    refine ag rfl (ar rfl (ev rfl)) ?_
    simp only [Act.put, aa, ae, af]
    refine ag rfl (ar rfl (ev rfl)) ?_
    simp only [Act.put, aa, ae, af]
    refine wpList_nil ?_
    go_upto_region 8 with fail
    refine wp_region_lit ?_
    refine ag rfl (ah rfl (ev rfl)) ?_
    simp only [Act.put, aa, ae, af]
    refine ag rfl (ak rfl (ev rfl) faAct142) ?_
    simp only [Act.put, aa, ae, af]
    refine ag rfl (au rfl (ev rfl) (ldCells HA.out.f2)) ?_
    simp only [Act.put, aa, ae, af]
    refine ao rfl (aq Tryz.call19 rfl (evc (ev rfl) (evc (ev rfl) evn))) ?_
    refine (nl_app w1 HL.out).mono ?_
    rintro e w' ⟨rfl, rfl⟩
    refine ⟨_, rfl, ?_⟩
    simp only [Act.put, aa, ae, af]
    refine ag rfl (ah rfl (ev rfl)) ?_
    simp only [Act.put, aa, ae, af]
    refine ag rfl (az rfl (ev rfl) rfl) ?_
    simp only [Act.put, aa, ae, af]
    refine ag rfl (az rfl (ev rfl) rfl) ?_
    simp only [Act.put, aa, ae, af]
    refine ag rfl (ar rfl (ev rfl)) ?_
    simp only [Act.put, aa, ae, af]
    refine ag rfl (ar rfl (ev rfl)) ?_
    simp only [Act.put, aa, ae, af]
    refine wpList_nil ?_
    go_upto_region 9 with fail
    refine wp_region_lit ?_
    refine ag rfl (ah rfl (ev rfl)) ?_
    simp only [Act.put, aa, ae, af]
    refine ag rfl (ak rfl (ev rfl) faAct143) ?_
    simp only [Act.put, aa, ae, af]
    refine ag rfl (au rfl (ev rfl) (bz HA.out.f3)) ?_
    simp only [Act.put, aa, ae, af]
    refine ao rfl (aq Tryz.call24 rfl (evc (ev rfl) (evc (ev rfl) evn))) ?_
    refine (nl_rec w1 HL.out).mono ?_
    rintro e w' ⟨rfl, rfl⟩
    refine ⟨_, rfl, ?_⟩
    simp only [Act.put, aa, ae, af]
    refine ag rfl (ah rfl (ev rfl)) ?_
    simp only [Act.put, aa, ae, af]
    refine ag rfl (az rfl (ev rfl) rfl) ?_
    simp only [Act.put, aa, ae, af]
    refine ag rfl (az rfl (ev rfl) rfl) ?_
    simp only [Act.put, aa, ae, af]
    refine ag rfl (ar rfl (ev rfl)) ?_
    simp only [Act.put, aa, ae, af]
    refine ag rfl (ar rfl (ev rfl)) ?_
    simp only [Act.put, aa, ae, af]
    refine wpList_nil ?_
    go_upto_region 10 with fail
    refine wp_region_lit ?_
    refine ag rfl (ah rfl (ev rfl)) ?_
    simp only [Act.put, aa, ae, af]
    refine ao rfl (aq Tryz.call23 rfl (evc (ev rfl) evn)) ?_
    refine (nl_live w1 HL.out).mono ?_
    rintro e w' ⟨rfl, rfl⟩
    refine ⟨_, rfl, ?_⟩
    simp only [Act.put, aa, ae, af]
    refine ag rfl (ah rfl (ev rfl)) ?_
    simp only [Act.put, aa, ae, af]
    refine ag rfl (az rfl (ev rfl) rfl) ?_
    simp only [Act.put, aa, ae, af]
    refine ag rfl (az rfl (ev rfl) rfl) ?_
    simp only [Act.put, aa, ae, af]
    refine ag rfl (ar rfl (ev rfl)) ?_
    simp only [Act.put, aa, ae, af]
    refine ag rfl (ar rfl (ev rfl)) ?_
    simp only [Act.put, aa, ae, af]
    refine wpList_nil ?_
    go_upto_region 11 with fail
    refine wp_region_lit ?_
    refine ag rfl (ah rfl (ev rfl)) ?_
    simp only [Act.put, aa, ae, af]
    refine ag (v := .bool true) rfl (exec_eqPn Tryz.underlying29 rfl (ev rfl) evk) ?_
    simp only [Act.put, aa, ae, af]
    refine ag (v := .bool true) rfl (ah rfl (ev rfl)) ?_
    simp only [Act.put, aa, ae, af]
    refine ai (aj rfl rfl rfl rfl) (ah rfl (ev rfl)) ?_
    simp only [Act.put, aa, ae, af]
    refine ai (v := .bool true) (aj rfl rfl rfl rfl) (aC true rfl (ev rfl) evk rfl) ?_
    simp only [Act.put, aa, ae, af]
    refine ag (v := .bool true) rfl (aG rfl (ev rfl) (ev rfl)) ?_
    simp only [Act.put, aa, ae, af]
    refine ag (v := .bool true) rfl (ah rfl (ev rfl)) ?_
    simp only [Act.put, aa, ae, af]
    refine ai (aj rfl rfl rfl rfl) (ah rfl (ev rfl)) ?_
    simp only [Act.put, aa, ae, af]
    refine ai (v := .bool true) (aj rfl rfl rfl rfl) (exec_eqPn Tryz.underlying29 rfl (ev rfl) evk) ?_
    simp only [Act.put, aa, ae, af]
    refine ag (v := .bool true) rfl (aG rfl (ev rfl) (ev rfl)) ?_
    simp only [Act.put, aa, ae, af]
    refine ag (v := .bool true) rfl (ah rfl (ev rfl)) ?_
    simp only [Act.put, aa, ae, af]
    refine ai (aj rfl rfl rfl rfl) (ah rfl (ev rfl)) ?_
    simp only [Act.put, aa, ae, af]
    refine ai (v := .bool true) (aj rfl rfl rfl rfl) (aC true rfl (ev rfl) evk rfl) ?_
    simp only [Act.put, aa, ae, af]
    refine ag (v := .bool true) rfl (aG rfl (ev rfl) (ev rfl)) ?_
    simp only [Act.put, aa, ae, af]
    refine ag (v := .bool true) rfl (ah rfl (ev rfl)) ?_
    simp only [Act.put, aa, ae, af]
    refine ai (aj rfl rfl rfl rfl) (ah rfl (ev rfl)) ?_
    simp only [Act.put, aa, ae, af]
    refine ai (v := .bool true) (aj rfl rfl rfl rfl) (aC true rfl (ev rfl) evk rfl) ?_
    simp only [Act.put, aa, ae, af]
    refine ag (v := .bool true) rfl (aG rfl (ev rfl) (ev rfl)) ?_
    simp only [Act.put, aa, ae, af]
    refine ag (v := .bool true) rfl (ah rfl (ev rfl)) ?_
    simp only [Act.put, aa, ae, af]
    refine ai (aj rfl rfl rfl rfl) (ah rfl (ev rfl)) ?_
    simp only [Act.put, aa, ae, af]
    refine ai (v := .bool true) (aj rfl rfl rfl rfl) (aC true rfl (ev rfl) evk rfl) ?_
    simp only [Act.put, aa, ae, af]
    refine ag (v := .bool true) rfl (aG rfl (ev rfl) (ev rfl)) ?_
    simp only [Act.put, aa, ae, af]
    refine ag (v := .bool true) rfl (ah rfl (ev rfl)) ?_
    simp only [Act.put, aa, ae, af]
    refine ai (aj rfl rfl rfl rfl) (ah rfl (ev rfl)) ?_
    simp only [Act.put, aa, ae, af]
    refine ai (aj rfl rfl rfl rfl) (ak rfl (ev rfl) faAct143) ?_
    simp only [Act.put, aa, ae, af]
    refine ai (aj rfl rfl rfl rfl) (au rfl (ev rfl) (bz HA.out.f3)) ?_
    simp only [Act.put, aa, ae, af]
    refine ao (aj rfl rfl rfl rfl) (aq Tryz.call17 rfl (evc (ev rfl) (evc (ev rfl) evn))) ?_
    refine (nl_clr w1 HL.out).mono ?_
    rintro e w' ⟨rfl, rfl⟩
    refine ⟨_, rfl, ?_⟩
    simp only [Act.put, aa, ae, af]
    refine ai (v := .bool true) (aj rfl rfl rfl rfl) (aC true rfl (ev rfl) evk rfl) ?_
    simp only [Act.put, aa, ae, af]
    refine ag (v := .bool true) rfl (aG rfl (ev rfl) (ev rfl)) ?_
    simp only [Act.put, aa, ae, af]
    refine ag (v := .bool true) rfl (ah rfl (ev rfl)) ?_
    simp only [Act.put, aa, ae, af]
    refine ai (aj rfl rfl rfl rfl) (ah rfl (ev rfl)) ?_
    simp only [Act.put, aa, ae, af]
    refine ai (aj rfl rfl rfl rfl) (ah rfl (ev rfl)) ?_
    simp only [Act.put, aa, ae, af]
    refine ai (aj rfl rfl rfl rfl) (exec_adU rfl (ev rfl) (ev rfl) (show IntKind.u64.wrap (0 + 0) = 0 from rfl)) ?_
    simp only [Act.put, aa, ae, af]
    refine ai (v := .bool true) (aj rfl rfl rfl rfl) (aC true rfl (ev rfl) evk rfl) ?_
    simp only [Act.put, aa, ae, af]
    refine ag (v := .bool true) rfl (aG rfl (ev rfl) (ev rfl)) ?_
    simp only [Act.put, aa, ae, af]
    refine ag (v := .bool true) rfl (ah rfl (ev rfl)) ?_
    simp only [Act.put, aa, ae, af]
    refine ai (aj rfl rfl rfl rfl) (ah rfl (ev rfl)) ?_
    simp only [Act.put, aa, ae, af]
    refine ao (aj rfl rfl rfl rfl) (aq Tryz.call31 rfl (evc (ev rfl) evn)) ?_
    refine (nl_free w1 HL.out).mono ?_
    rintro e w' ⟨rfl, rfl⟩
    refine ⟨_, rfl, ?_⟩
    simp only [Act.put, aa, ae, af]
    refine ai (v := .bool true) (aj rfl rfl rfl rfl) (aC true rfl (ev rfl) evk rfl) ?_
    simp only [Act.put, aa, ae, af]
    refine ag (v := .bool true) rfl (aG rfl (ev rfl) (ev rfl)) ?_
    simp only [Act.put, aa, ae, af]
    refine ag (v := .bool true) rfl (ah rfl (ev rfl)) ?_
    simp only [Act.put, aa, ae, af]
    refine ai (aj rfl rfl rfl rfl) (ah rfl (ev rfl)) ?_
    simp only [Act.put, aa, ae, af]
    refine ao (aj rfl rfl rfl rfl) (aq Tryz.call36 rfl (evc (ev rfl) evn)) ?_
    refine (nl_id w1 HL.out).mono ?_
    rintro e w' ⟨rfl, rfl⟩
    refine ⟨_, rfl, ?_⟩
    simp only [Act.put, aa, ae, af]
    refine ai (v := .bool true) (aj rfl rfl rfl rfl) (aC true rfl (ev rfl) evk rfl) ?_
    simp only [Act.put, aa, ae, af]
    refine ag (v := .bool true) rfl (aG rfl (ev rfl) (ev rfl)) ?_
    simp only [Act.put, aa, ae, af]
    refine ag (v := .bool true) rfl (ah rfl (ev rfl)) ?_
    simp only [Act.put, aa, ae, af]
    refine ai (aj rfl rfl rfl rfl) (ah rfl (ev rfl)) ?_
    simp only [Act.put, aa, ae, af]
    refine ao (aj rfl rfl rfl rfl) (aq Tryz.call32 rfl (evc (ev rfl) evn)) ?_
    refine (nl_ring w1 HL.out).mono ?_
    rintro e w' ⟨rfl, rfl⟩
    refine ⟨_, rfl, ?_⟩
    simp only [Act.put, aa, ae, af]
    refine ai (v := .bool true) (aj rfl rfl rfl rfl) (aC true rfl (ev rfl) evk rfl) ?_
    simp only [Act.put, aa, ae, af]
    refine ag (v := .bool true) rfl (aG rfl (ev rfl) (ev rfl)) ?_
    simp only [Act.put, aa, ae, af]
    refine ag (v := .bool true) rfl (ah rfl (ev rfl)) ?_
    simp only [Act.put, aa, ae, af]
    refine ao (aj rfl rfl rfl rfl) (aq Tryz.call13 rfl evn) ?_
    refine (llives theLog w1 HT.out).mono ?_
    rintro e w3 ⟨rfl, hb3⟩
    refine ⟨_, rfl, ?_⟩
    simp only [Act.put, aa, ae, af]
    refine ag (v := .bool true) rfl (aG rfl (ev rfl) (ev rfl)) ?_
    simp only [Act.put, aa, ae, af]
    refine ag (v := .bool true) rfl (ar rfl (ev rfl)) ?_
    simp only [Act.put, aa, ae, af]
    refine wpList_nil ?_
    go_wp2_with fail
    go_ret
    exact ⟨rfl, HBW.out.trans (hb3.mono HBW.out.size)⟩
  · have hb1 := (Below.refl w1.heap.size w1).alloc (Nat.le_refl _) (.cells zbC.toArray 85)
    have hb2 := hb1.alloc hb1.size (.cells zlC.toArray 88)
    have k1 : ((w1.alloc (.cells zbC.toArray 85)).alloc (.cells zlC.toArray 88)).heap[w1.heap.size]? = some (.cells zbC.toArray 85 (0, 0)) := bJ (heap_alloc_new w1 _) _
    have k2 := heap_alloc_new (w1.alloc (.cells zbC.toArray 85)) (.cells zlC.toArray 88)
    have HB := Lib.hid (nob_zero _ k1)
    have HL := Lib.hid (nol_zero _ k2)
    have HBW := Lib.hid (HB0.out.trans (hb2.mono HB0.out.size))
    have HT := Lib.hid (HT0.out.below HBW.out)
    have HA := Lib.hid (HA0.out.below HZ0.out hb2)
    clear HT0 HA0 HB0 HZ0 hb1 hb2 k1 k2
    go_upto_region 4 with fail
    refine wp_region_lit ?_
    refine ag rfl (exec_bld0 rfl (run_zb _)) ?_
    simp only [Act.put, aa, ae, af]
    refine ag rfl (er (cs := zbC) rfl (ev rfl)) ?_
    simp only [Act.put, aa, ae, af]
    refine ag rfl (ar rfl (ev rfl)) ?_
    simp only [Act.put, aa, ae, af]
    refine wpList_nil ?_
    go_upto_region 5 with fail
    refine wp_region_lit ?_
    refine ag rfl (exec_bld0 rfl (run_zl _)) ?_
    simp only [Act.put, aa, ae, af]
    refine ag rfl (er (cs := zlC) rfl (ev rfl)) ?_
    simp only [Act.put, aa, ae, af]
    refine ag rfl (ar rfl (ev rfl)) ?_
    simp only [Act.put, aa, ae, af]
    refine wpList_nil ?_
    generalize (w1.alloc (.cells zbC.toArray 85)).alloc (.cells zlC.toArray 88) = w2 at *
    go_upto_region 6 with fail
    refine wp_region_lit ?_
    refine ag rfl (ah rfl (ev rfl)) ?_
    simp only [Act.put, aa, ae, af]
    refine ag rfl (ak rfl (ev rfl) faAct141) ?_
    simp only [Act.put, aa, ae, af]
    refine ag rfl (au rfl (ev rfl) (bK HA.out.f1)) ?_
    simp only [Act.put, aa, ae, af]
    refine ao rfl (aq Tryz.call22 rfl (evc (ev rfl) (evc (ev rfl) evn))) ?_
    refine (nl_open w2 HB.out).mono ?_
    rintro e w' ⟨rfl, rfl⟩
    refine ⟨_, rfl, ?_⟩
    simp only [Act.put, aa, ae, af]
    refine ag rfl (ah rfl (ev rfl)) ?_
    simp only [Act.put, aa, ae, af]
    refine ag rfl (az rfl (ev rfl) rfl) ?_
    simp only [Act.put, aa, ae, af]
    refine ag rfl (az rfl (ev rfl) rfl) ?_
    simp only [Act.put, aa, ae, af]
    refine ag rfl (ar rfl (ev rfl)) ?_
    simp only [Act.put, aa, ae, af]
    refine ag rfl (ar rfl (ev rfl)) ?_
    simp only [Act.put, aa, ae, af]
    refine wpList_nil ?_
    go_upto_region 7 with fail
    refine wp_region_lit ?_
    refine ag rfl (ah rfl (ev rfl)) ?_
    simp only [Act.put, aa, ae, af]
    refine ag rfl (ak rfl (ev rfl) faAct141) ?_
    simp only [Act.put, aa, ae, af]
    refine ag rfl (au rfl (ev rfl) (bK HA.out.f1)) ?_
    simp only [Act.put, aa, ae, af]
    refine ag rfl (ak rfl (ev rfl) faAct143) ?_
    simp only [Act.put, aa, ae, af]
    refine ag rfl (au rfl (ev rfl) (bz HA.out.f3)) ?_
    simp only [Act.put, aa, ae, af]
    refine ag rfl (ak rfl (ev rfl) faAct145) ?_
    simp only [Act.put, aa, ae, af]
    refine ag rfl (au rfl (ev rfl) (bK HA.out.f5)) ?_
    simp only [Act.put, aa, ae, af]
    refine ao rfl (aq Tryz.call35 rfl (evc (ev rfl) (evc (ev rfl) (evc (ev rfl) (evc (ev rfl) evn))))) ?_
    refine (nl_lay w2 HB.out).mono ?_
    rintro e w' ⟨rfl, rfl⟩
    refine ⟨_, rfl, ?_⟩
    simp only [Act.put, aa, ae, af]
    refine ag rfl (ah rfl (ev rfl)) ?_
    simp only [Act.put, aa, ae, af]
    refine ag rfl (az rfl (ev rfl) rfl) ?_
    simp only [Act.put, aa, ae, af]
    refine ag rfl (az rfl (ev rfl) rfl) ?_
    simp only [Act.put, aa, ae, af]
    refine ag rfl (ar rfl (ev rfl)) ?_
    simp only [Act.put, aa, ae, af]
    refine ag rfl (ar rfl (ev rfl)) ?_
    simp only [Act.put, aa, ae, af]
    refine wpList_nil ?_
    go_upto_region 8 with fail
    refine wp_region_lit ?_
    refine ag rfl (ah rfl (ev rfl)) ?_
    simp only [Act.put, aa, ae, af]
    refine ag rfl (ak rfl (ev rfl) faAct142) ?_
    simp only [Act.put, aa, ae, af]
    refine ag rfl (au rfl (ev rfl) (ldCells HA.out.f2)) ?_
    simp only [Act.put, aa, ae, af]
    refine ao rfl (aq Tryz.call19 rfl (evc (ev rfl) (evc (ev rfl) evn))) ?_
    refine (nl_app w2 HL.out).mono ?_
    rintro e w' ⟨rfl, rfl⟩
    refine ⟨_, rfl, ?_⟩
    simp only [Act.put, aa, ae, af]
    refine ag rfl (ah rfl (ev rfl)) ?_
    simp only [Act.put, aa, ae, af]
    refine ag rfl (az rfl (ev rfl) rfl) ?_
    simp only [Act.put, aa, ae, af]
    refine ag rfl (az rfl (ev rfl) rfl) ?_
    simp only [Act.put, aa, ae, af]
    refine ag rfl (ar rfl (ev rfl)) ?_
    simp only [Act.put, aa, ae, af]
    refine ag rfl (ar rfl (ev rfl)) ?_
    simp only [Act.put, aa, ae, af]
    refine wpList_nil ?_
    go_upto_region 9 with fail
    refine wp_region_lit ?_
    refine ag rfl (ah rfl (ev rfl)) ?_
    simp only [Act.put, aa, ae, af]
    refine ag rfl (ak rfl (ev rfl) faAct143) ?_
    simp only [Act.put, aa, ae, af]
    refine ag rfl (au rfl (ev rfl) (bz HA.out.f3)) ?_
    simp only [Act.put, aa, ae, af]
    refine ao rfl (aq Tryz.call24 rfl (evc (ev rfl) (evc (ev rfl) evn))) ?_
    refine (nl_rec w2 HL.out).mono ?_
    rintro e w' ⟨rfl, rfl⟩
    refine ⟨_, rfl, ?_⟩
    simp only [Act.put, aa, ae, af]
    refine ag rfl (ah rfl (ev rfl)) ?_
    simp only [Act.put, aa, ae, af]
    refine ag rfl (az rfl (ev rfl) rfl) ?_
    simp only [Act.put, aa, ae, af]
    refine ag rfl (az rfl (ev rfl) rfl) ?_
    simp only [Act.put, aa, ae, af]
    refine ag rfl (ar rfl (ev rfl)) ?_
    simp only [Act.put, aa, ae, af]
    refine ag rfl (ar rfl (ev rfl)) ?_
    simp only [Act.put, aa, ae, af]
    refine wpList_nil ?_
    go_upto_region 10 with fail
    refine wp_region_lit ?_
    refine ag rfl (ah rfl (ev rfl)) ?_
    simp only [Act.put, aa, ae, af]
    refine ao rfl (aq Tryz.call23 rfl (evc (ev rfl) evn)) ?_
    refine (nl_live w2 HL.out).mono ?_
    rintro e w' ⟨rfl, rfl⟩
    refine ⟨_, rfl, ?_⟩
    simp only [Act.put, aa, ae, af]
    refine ag rfl (ah rfl (ev rfl)) ?_
    simp only [Act.put, aa, ae, af]
    refine ag rfl (az rfl (ev rfl) rfl) ?_
    simp only [Act.put, aa, ae, af]
    refine ag rfl (az rfl (ev rfl) rfl) ?_
    simp only [Act.put, aa, ae, af]
    refine ag rfl (ar rfl (ev rfl)) ?_
    simp only [Act.put, aa, ae, af]
    refine ag rfl (ar rfl (ev rfl)) ?_
    simp only [Act.put, aa, ae, af]
    refine wpList_nil ?_
    go_upto_region 11 with fail
    refine wp_region_lit ?_
    refine ag rfl (ah rfl (ev rfl)) ?_
    simp only [Act.put, aa, ae, af]
    refine ag (v := .bool true) rfl (exec_eqPn Tryz.underlying29 rfl (ev rfl) evk) ?_
    simp only [Act.put, aa, ae, af]
    refine ag (v := .bool true) rfl (ah rfl (ev rfl)) ?_
    simp only [Act.put, aa, ae, af]
    refine ai (aj rfl rfl rfl rfl) (ah rfl (ev rfl)) ?_
    simp only [Act.put, aa, ae, af]
    refine ai (v := .bool true) (aj rfl rfl rfl rfl) (aC true rfl (ev rfl) evk rfl) ?_
    simp only [Act.put, aa, ae, af]
    refine ag (v := .bool true) rfl (aG rfl (ev rfl) (ev rfl)) ?_
    simp only [Act.put, aa, ae, af]
    refine ag (v := .bool true) rfl (ah rfl (ev rfl)) ?_
    simp only [Act.put, aa, ae, af]
    refine ai (aj rfl rfl rfl rfl) (ah rfl (ev rfl)) ?_
    simp only [Act.put, aa, ae, af]
    refine ai (v := .bool true) (aj rfl rfl rfl rfl) (exec_eqPn Tryz.underlying29 rfl (ev rfl) evk) ?_
    simp only [Act.put, aa, ae, af]
    refine ag (v := .bool true) rfl (aG rfl (ev rfl) (ev rfl)) ?_
    simp only [Act.put, aa, ae, af]
    refine ag (v := .bool true) rfl (ah rfl (ev rfl)) ?_
    simp only [Act.put, aa, ae, af]
    refine ai (aj rfl rfl rfl rfl) (ah rfl (ev rfl)) ?_
    simp only [Act.put, aa, ae, af]
    refine ai (v := .bool true) (aj rfl rfl rfl rfl) (aC true rfl (ev rfl) evk rfl) ?_
    simp only [Act.put, aa, ae, af]
    refine ag (v := .bool true) rfl (aG rfl (ev rfl) (ev rfl)) ?_
    simp only [Act.put, aa, ae, af]
    refine ag (v := .bool true) rfl (ah rfl (ev rfl)) ?_
    simp only [Act.put, aa, ae, af]
    refine ai (aj rfl rfl rfl rfl) (ah rfl (ev rfl)) ?_
    simp only [Act.put, aa, ae, af]
    refine ai (v := .bool true) (aj rfl rfl rfl rfl) (aC true rfl (ev rfl) evk rfl) ?_
    simp only [Act.put, aa, ae, af]
    refine ag (v := .bool true) rfl (aG rfl (ev rfl) (ev rfl)) ?_
    simp only [Act.put, aa, ae, af]
    refine ag (v := .bool true) rfl (ah rfl (ev rfl)) ?_
    simp only [Act.put, aa, ae, af]
    refine ai (aj rfl rfl rfl rfl) (ah rfl (ev rfl)) ?_
    simp only [Act.put, aa, ae, af]
    refine ai (v := .bool true) (aj rfl rfl rfl rfl) (aC true rfl (ev rfl) evk rfl) ?_
    simp only [Act.put, aa, ae, af]
    refine ag (v := .bool true) rfl (aG rfl (ev rfl) (ev rfl)) ?_
    simp only [Act.put, aa, ae, af]
    refine ag (v := .bool true) rfl (ah rfl (ev rfl)) ?_
    simp only [Act.put, aa, ae, af]
    refine ai (aj rfl rfl rfl rfl) (ah rfl (ev rfl)) ?_
    simp only [Act.put, aa, ae, af]
    refine ai (aj rfl rfl rfl rfl) (ak rfl (ev rfl) faAct143) ?_
    simp only [Act.put, aa, ae, af]
    refine ai (aj rfl rfl rfl rfl) (au rfl (ev rfl) (bz HA.out.f3)) ?_
    simp only [Act.put, aa, ae, af]
    refine ao (aj rfl rfl rfl rfl) (aq Tryz.call17 rfl (evc (ev rfl) (evc (ev rfl) evn))) ?_
    refine (nl_clr w2 HL.out).mono ?_
    rintro e w' ⟨rfl, rfl⟩
    refine ⟨_, rfl, ?_⟩
    simp only [Act.put, aa, ae, af]
    refine ai (v := .bool true) (aj rfl rfl rfl rfl) (aC true rfl (ev rfl) evk rfl) ?_
    simp only [Act.put, aa, ae, af]
    refine ag (v := .bool true) rfl (aG rfl (ev rfl) (ev rfl)) ?_
    simp only [Act.put, aa, ae, af]
    refine ag (v := .bool true) rfl (ah rfl (ev rfl)) ?_
    simp only [Act.put, aa, ae, af]
    refine ai (aj rfl rfl rfl rfl) (ah rfl (ev rfl)) ?_
    simp only [Act.put, aa, ae, af]
    refine ai (aj rfl rfl rfl rfl) (ah rfl (ev rfl)) ?_
    simp only [Act.put, aa, ae, af]
    refine ai (aj rfl rfl rfl rfl) (exec_adU rfl (ev rfl) (ev rfl) (show IntKind.u64.wrap (0 + 0) = 0 from rfl)) ?_
    simp only [Act.put, aa, ae, af]
    refine ai (v := .bool true) (aj rfl rfl rfl rfl) (aC true rfl (ev rfl) evk rfl) ?_
    simp only [Act.put, aa, ae, af]
    refine ag (v := .bool true) rfl (aG rfl (ev rfl) (ev rfl)) ?_
    simp only [Act.put, aa, ae, af]
    refine ag (v := .bool true) rfl (ah rfl (ev rfl)) ?_
    simp only [Act.put, aa, ae, af]
    refine ai (aj rfl rfl rfl rfl) (ah rfl (ev rfl)) ?_
    simp only [Act.put, aa, ae, af]
    refine ao (aj rfl rfl rfl rfl) (aq Tryz.call31 rfl (evc (ev rfl) evn)) ?_
    refine (nl_free w2 HL.out).mono ?_
    rintro e w' ⟨rfl, rfl⟩
    refine ⟨_, rfl, ?_⟩
    simp only [Act.put, aa, ae, af]
    refine ai (v := .bool true) (aj rfl rfl rfl rfl) (aC true rfl (ev rfl) evk rfl) ?_
    simp only [Act.put, aa, ae, af]
    refine ag (v := .bool true) rfl (aG rfl (ev rfl) (ev rfl)) ?_
    simp only [Act.put, aa, ae, af]
    refine ag (v := .bool true) rfl (ah rfl (ev rfl)) ?_
    simp only [Act.put, aa, ae, af]
    refine ai (aj rfl rfl rfl rfl) (ah rfl (ev rfl)) ?_
    simp only [Act.put, aa, ae, af]
    refine ao (aj rfl rfl rfl rfl) (aq Tryz.call36 rfl (evc (ev rfl) evn)) ?_
    refine (nl_id w2 HL.out).mono ?_
    rintro e w' ⟨rfl, rfl⟩
    refine ⟨_, rfl, ?_⟩
    simp only [Act.put, aa, ae, af]
    refine ai (v := .bool true) (aj rfl rfl rfl rfl) (aC true rfl (ev rfl) evk rfl) ?_
    simp only [Act.put, aa, ae, af]
    refine ag (v := .bool true) rfl (aG rfl (ev rfl) (ev rfl)) ?_
    simp only [Act.put, aa, ae, af]
    refine ag (v := .bool true) rfl (ah rfl (ev rfl)) ?_
    simp only [Act.put, aa, ae, af]
    refine ai (aj rfl rfl rfl rfl) (ah rfl (ev rfl)) ?_
    simp only [Act.put, aa, ae, af]
    refine ao (aj rfl rfl rfl rfl) (aq Tryz.call32 rfl (evc (ev rfl) evn)) ?_
    refine (nl_ring w2 HL.out).mono ?_
    rintro e w' ⟨rfl, rfl⟩
    refine ⟨_, rfl, ?_⟩
    simp only [Act.put, aa, ae, af]
    refine ai (v := .bool true) (aj rfl rfl rfl rfl) (aC true rfl (ev rfl) evk rfl) ?_
    simp only [Act.put, aa, ae, af]
    refine ag (v := .bool true) rfl (aG rfl (ev rfl) (ev rfl)) ?_
    simp only [Act.put, aa, ae, af]
    refine ag (v := .bool true) rfl (ah rfl (ev rfl)) ?_
    simp only [Act.put, aa, ae, af]
    refine ao (aj rfl rfl rfl rfl) (aq Tryz.call13 rfl evn) ?_
    refine (llives theLog w2 HT.out).mono ?_
    rintro e w3 ⟨rfl, hb3⟩
    refine ⟨_, rfl, ?_⟩
    simp only [Act.put, aa, ae, af]
    refine ag (v := .bool true) rfl (aG rfl (ev rfl) (ev rfl)) ?_
    simp only [Act.put, aa, ae, af]
    refine ag (v := .bool true) rfl (ar rfl (ev rfl)) ?_
    simp only [Act.put, aa, ae, af]
    refine wpList_nil ?_
    go_wp2_with fail
    go_ret
    exact ⟨rfl, HBW.out.trans (hb3.mono HBW.out.size)⟩
end Go.Proofs.YtcafafdimcecpaaGreatDoor
