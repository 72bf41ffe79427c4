/-
  The program's note: a body told.
-/
import Derived.Test.YtiandcigoflcmaaDoorNtb
import Derived.Test.YtiandcigoflcmaaDoorSpb
namespace Go.Proofs.YtiandcigoflcmaaDoor
open Go.RowKit
set_option linter.unusedVariables false
set_option linter.unusedSimpArgs false
set_option maxRecDepth 100000

/-- What stands while a body is told: the result, the numbers. -/
structure TlNt (B : Nat) (w0 w : World) (A : Option Addr) (l : List UInt8) (r n a b c : Nat) : Prop where
  rd : Rd w B A 44 l
  res : NteAt w r zeroNt
  num : NumAtn w n a b c
  bel : Below B w0 w
  n0 : B ≤ n
  r0 : B ≤ r
  dif : r ≠ n
theorem TlNt.set {B : Nat} {w0 w : World} {A : Option Addr} {l : List UInt8} {r n a b c a' b' c' j v : Nat} (h : TlNt B w0 w A l r n a b c) (e : (celNn a b c).set j (.int .u64 v) = celNn a' b' c') (hB : B ≤ w0.heap.size) : TlNt B w0 (w.setCell ⟨n, j, none⟩ (.int .u64 v)) A l r n a' b' c' :=
  have hg := grown_set w n j (.int .u64 v)
  have hb : Below B w (w.setCell ⟨n, j, none⟩ (.int .u64 v)) := (Below.refl B w).grown hg (Nat.le_trans hB h.bel.size) (fun k hk => by injection hk with e; have := h.n0; omega)
  ⟨h.rd.below hb, grown_blk h.res hg h.dif, h.num.set e, h.bel.trans hb, h.n0, h.r0, h.dif⟩
/-- The loop that tells: so many numbers are told. -/
def TrNt (B : Nat) (w0 : World) (A : Option Addr) (l : List UInt8) (r n v0 v1 v2 : Nat) (p i : Value) (w : World) : Prop :=
  (i = .int .i64 0 ∧ p = .int .i64 0 ∧ TlNt B w0 w A l r n 0 0 0) ∨
    (i = .int .i64 1 ∧ p = .int .i64 8 ∧ TlNt B w0 w A l r n v0 0 0) ∨
    (i = .int .i64 2 ∧ p = .int .i64 10 ∧ TlNt B w0 w A l r n v0 v1 0) ∨
    (i = .int .i64 3 ∧ p = .int .i64 14 ∧ TlNt B w0 w A l r n v0 v1 v2)
theorem tlNt_start (w : World) (A : Option Addr) (l : List UInt8) (hr : Rd w w.heap.size A 44 l) : TlNt w.heap.size w ((w.alloc (.cells (celNt zeroNt).toArray 25)).alloc (.cells (celNn 0 0 0).toArray 59)) A l w.heap.size (w.heap.size + 1) 0 0 0 := by
  have h1 := (Below.refl w.heap.size w).alloc (Nat.le_refl _) (.cells (celNt zeroNt).toArray 25)
  have h2 := h1.alloc h1.size (.cells (celNn 0 0 0).toArray 59)
  have n1 : NumAtn ((w.alloc (.cells (celNt zeroNt).toArray 25)).alloc (.cells (celNn 0 0 0).toArray 59)) (w.alloc (.cells (celNt zeroNt).toArray 25)).heap.size 0 0 0 := heap_alloc_new _ _
  rw [World.size_alloc] at n1
  exact ⟨hr.below h2, (NteAt.new w zeroNt).past _, n1, h2, by omega, by omega, by omega⟩
theorem exec_cvU32 {ρ : Operand → Value} {o : Oper} {x : Operand} {w : World} {n : Nat} (ho : o.op = .convert 22 23 x) (hx : ρ x = .int .u64 (n : Int)) (hn : n < 4294967296) : (execOp ρ o).run Tryd.prog w = .ok (.value (.int .u32 (n : Int))) w := by
  have h : IntKind.u32.wrap (n : Int) = (n : Int) := IntWalk.u32_in _ ⟨by omega, by omega⟩
  have hc : (convert 22 23 (.int .u64 (n : Int))).run Tryd.prog w = .ok (.int .u32 (n : Int)) w := by simp [convert, go_sem, h]
  unfold execOp
  simp only [ho, hx, Sem.run_bind, hc, Result.andThen_ok, Sem.run_pure]
set_option maxHeartbeats 4000000 in
theorem pnttold (q : Nat) (A : Option Addr) (c : Nat) (l : List UInt8) (w : World) (S : SizNt w) (hr : Rd w w.heap.size A 44 l) : Calls Tryd.prog 27 #[.int .u64 q, .slice A 44 c] w fun e w' => e = .returned (nte (toldNt q l)) ∧ Below w.heap.size w w' := by
  have hl := hr.1
  obtain ⟨v0, h0⟩ : ∃ v, val 8 (piece l 0 8) = v := ⟨_, rfl⟩
  obtain ⟨v1, h1⟩ : ∃ v, val 8 (piece l 8 2) = v := ⟨_, rfl⟩
  obtain ⟨v2, h2⟩ : ∃ v, val 8 (piece l 10 4) = v := ⟨_, rfl⟩
  have b1 : v1 < 65536 := by rw [← h1]; exact val_piece_lt (b := l) (p := 8) (k := 2) (by omega)
  have b2 : v2 < 4294967296 := by rw [← h2]; exact val_piece_lt (b := l) (p := 10) (k := 4) (by omega)
  have HB2 := Lib.hid b2
  have HV0 := Lib.hid h0
  have HV1 := Lib.hid h1
  have HV2 := Lib.hid h2
  have HT : Hid (toldNt q l = ⟨q, v0, (v1 : Nat), v2⟩) := Lib.hid (by unfold toldNt; rw [h0, h1, h2])
  have HST := Lib.hid (tlNt_start w A l hr)
  have HSZ := Lib.hid (S.below (tlNt_start w A l hr).bel)
  have HL := Lib.hid hl
  clear h0 h1 h2 hr S hl b2
  go_enter Tryd.func27, Tryd.ntmps27
  go_upto_region 3 with (first | (refine wpList_valn rfl (exec_allocNt rfl) ?_) | (refine wpList_valn rfl (exec_allocNn rfl) ?_) | fail)
  try simp only [World.size_alloc]
  generalize (w.alloc (.cells (celNt zeroNt).toArray 25)).alloc (.cells (celNn 0 0 0).toArray 59) = w1 at *
  obtain ⟨B, hB⟩ : ∃ B, w.heap.size = B := ⟨_, rfl⟩
  rw [hB] at HST ⊢
  have HBD := Lib.hid hB
  have HB : Hid (B ≤ w.heap.size) := Lib.hid (by omega)
  clear hB
  obtain ⟨n, hn⟩ : ∃ n, B + 1 = n := ⟨_, rfl⟩
  rw [hn] at HST ⊢
  clear hn
  go_upto_region 4 with (first | (refine wpList_valn rfl (exec_loadZn rfl rfl HSZ.out) ?_) | fail)
  go_loopw [6, 10] (fun p i wr => TrNt B w A l B n v0 v1 v2 p i wr) (fun _ i _ => 3 - (intOf i).toNat)
  case atStart => exact .inl ⟨rfl, rfl, HST.out⟩
  case round =>
    clear HST
    rcases hrel with ⟨rfl, rfl, hl⟩ | ⟨rfl, rfl, hl⟩ | ⟨rfl, rfl, hl⟩ | ⟨rfl, rfl, hl⟩
    · have H0 := Lib.hid hl
      clear hl
      have HRD := Lib.hid H0.out.rd
      have cc := H0.out.num.cells.1
      have ff := H0.out.num.free 0
      have H2 : Hid (TlNt B w (wr.setCell ⟨n, 0, none⟩ (.int .u64 (v0 : Nat))) A l B n v0 0 0) := Lib.hid (H0.out.set rfl HB.out)
      go_wp2_with (first | (refine wpList_valn rfl (exec_ixZn0 rfl rfl rfl) ?_) | fail)
      refine (get_ok A 44 c _ l 0 8 wr HRD.out (by unfold maxLen; omega) (by omega) (by omega) (by omega)).mono ?_
      rintro e w2 ⟨rfl, rfl⟩
      rw [HV0.out]
      go_wp2_with (first | (refine wpList_valn rfl (exec_ixNn0 rfl rfl rfl) ?_) | fail)
      go_roundw
      case rel => exact .inr (.inl ⟨rfl, rfl, H2.out⟩)
      case measure => simp [intOf]
    · have H0 := Lib.hid hl
      clear hl
      have HRD := Lib.hid H0.out.rd
      have cc := H0.out.num.cells.2.1
      have ff := H0.out.num.free 1
      have H2 : Hid (TlNt B w (wr.setCell ⟨n, 1, none⟩ (.int .u64 (v1 : Nat))) A l B n v0 v1 0) := Lib.hid (H0.out.set rfl HB.out)
      go_wp2_with (first | (refine wpList_valn rfl (exec_ixZn1 rfl rfl rfl) ?_) | fail)
      refine (get_ok A 44 c _ l 8 2 wr HRD.out (by unfold maxLen; omega) (by omega) (by omega) (by omega)).mono ?_
      rintro e w2 ⟨rfl, rfl⟩
      rw [HV1.out]
      go_wp2_with (first | (refine wpList_valn rfl (exec_ixNn1 rfl rfl rfl) ?_) | fail)
      go_roundw
      case rel => exact .inr (.inr (.inl ⟨rfl, rfl, H2.out⟩))
      case measure => simp [intOf]
    · have H0 := Lib.hid hl
      clear hl
      have HRD := Lib.hid H0.out.rd
      have cc := H0.out.num.cells.2.2
      have ff := H0.out.num.free 2
      have H2 : Hid (TlNt B w (wr.setCell ⟨n, 2, none⟩ (.int .u64 (v2 : Nat))) A l B n v0 v1 v2) := Lib.hid (H0.out.set rfl HB.out)
      go_wp2_with (first | (refine wpList_valn rfl (exec_ixZn2 rfl rfl rfl) ?_) | fail)
      refine (get_ok A 44 c _ l 10 4 wr HRD.out (by unfold maxLen; omega) (by omega) (by omega) (by omega)).mono ?_
      rintro e w2 ⟨rfl, rfl⟩
      rw [HV2.out]
      go_wp2_with (first | (refine wpList_valn rfl (exec_ixNn2 rfl rfl rfl) ?_) | fail)
      go_roundw
      case rel => exact .inr (.inr (.inr ⟨rfl, rfl, H2.out⟩))
      case measure => simp [intOf]
    · have H0 := Lib.hid hl
      clear hl
      obtain ⟨c0, c1, c2⟩ := H0.out.num.cells
      have HTH := Lib.hid H0.out.res.there
      go_wp2_with (first | (refine wpList_valn rfl (exec_ixNn0 rfl rfl rfl) ?_) | (refine wpList_valn rfl (exec_ixNn1 rfl rfl rfl) ?_) | (refine wpList_valn rfl (exec_ixNn2 rfl rfl rfl) ?_) | (refine wpList_valn rfl (exec_cvU32 rfl rfl HB2.out) ?_) | (refine wpList_valn rfl (exec_bldNt4 q v0 v1 v2 rfl rfl rfl rfl rfl) ?_) | (refine wpList_nuln rfl (exec_putNt (c := ⟨q, v0, (v1 : Nat), v2⟩) rfl rfl rfl ?_) ?_; (with_reducible exact HTH.out)) | fail)
      refine bodyPost_ret (res_rng (t := 25) (cs := celNt ⟨q, v0, (v1 : Nat), v2⟩) rfl _ _ B rfl ?h1 Tryd.underlying25 rfl ?h2) rfl ⟨by rw [HT.out]; rfl, ?h3⟩
      case h1 => exact World.rangeAt_setCells_same _ _ _ _ HTH.out
      case h2 => exact sizeNt
      case h3 => rw [HBD.out]; exact below_setCells H0.out.bel H0.out.r0 _
end Go.Proofs.YtiandcigoflcmaaDoor
