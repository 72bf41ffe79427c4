/-
  The program's mark: a body told.
-/
import Derived.Test.YtmdpbnolgbfaeaaDoorMkb
namespace Go.Proofs.YtmdpbnolgbfaeaaDoor
open Go.RowKit
set_option linter.unusedVariables false
set_option linter.unusedSimpArgs false
set_option maxRecDepth 100000

/-! ### Telling -/
/-- What stands while a body is told: the result, the numbers. -/
structure TlM (B : Nat) (w0 w : World) (A : Option Addr) (l : List UInt8) (r n a b c d : Nat) : Prop where
  rd : Rd w B A 44 l
  res : MrkAt w r zeroM
  num : NumAt w n a b c d
  bel : Below B w0 w
  n0 : B ≤ n
  r0 : B ≤ r
  dif : r ≠ n
theorem TlM.set {B : Nat} {w0 w : World} {A : Option Addr} {l : List UInt8} {r n a b c d a' b' c' d' j v : Nat} (h : TlM B w0 w A l r n a b c d) (e : (celN a b c d).set j (.int .u64 v) = celN a' b' c' d') (hB : B ≤ w0.heap.size) : TlM B w0 (w.setCell ⟨n, j, none⟩ (.int .u64 v)) A l r n a' b' c' d' :=
  have hg := grown_set w n j (.int .u64 v)
  have hb : Below B w (w.setCell ⟨n, j, none⟩ (.int .u64 v)) := (Below.refl B w).grown hg (Nat.le_trans hB h.bel.size) (fun k hk => by injection hk with e; have := h.n0; omega)
  ⟨h.rd.below hb, grown_blk h.res hg h.dif, h.num.set e, h.bel.trans hb, h.n0, h.r0, h.dif⟩
/-- The loop that tells: so many numbers are told. -/
def TrM (B : Nat) (w0 : World) (A : Option Addr) (l : List UInt8) (r n v0 v1 v2 v3 : Nat) (p i : Value) (w : World) : Prop :=
  (i = .int .i64 0 ∧ p = .int .i64 0 ∧ TlM B w0 w A l r n 0 0 0 0) ∨ (i = .int .i64 1 ∧ p = .int .i64 8 ∧ TlM B w0 w A l r n v0 0 0 0) ∨
  (i = .int .i64 2 ∧ p = .int .i64 10 ∧ TlM B w0 w A l r n v0 v1 0 0) ∨ (i = .int .i64 3 ∧ p = .int .i64 18 ∧ TlM B w0 w A l r n v0 v1 v2 0) ∨ (i = .int .i64 4 ∧ p = .int .i64 26 ∧ TlM B w0 w A l r n v0 v1 v2 v3)
theorem tlM_start (w : World) (A : Option Addr) (l : List UInt8) (hr : Rd w w.heap.size A 44 l) : TlM w.heap.size w ((w.alloc (.cells (celM zeroM).toArray 24)).alloc (.cells (celN 0 0 0 0).toArray 60)) A l w.heap.size (w.heap.size + 1) 0 0 0 0 := by
  have h1 := (Below.refl w.heap.size w).alloc (Nat.le_refl _) (.cells (celM zeroM).toArray 24)
  have h2 := h1.alloc h1.size (.cells (celN 0 0 0 0).toArray 60)
  have n1 : NumAt ((w.alloc (.cells (celM zeroM).toArray 24)).alloc (.cells (celN 0 0 0 0).toArray 60)) (w.alloc (.cells (celM zeroM).toArray 24)).heap.size 0 0 0 0 := heap_alloc_new _ _
  rw [World.size_alloc] at n1
  exact ⟨hr.below h2, (MrkAt.new w zeroM).past _, n1, h2, by omega, by omega, by omega⟩
set_option maxHeartbeats 4000000 in
theorem pmtold (A : Option Addr) (c : Nat) (l : List UInt8) (w : World) (S : Siz w) (hr : Rd w w.heap.size A 44 l) : Calls Tryd.prog 27 #[.slice A 44 c] w fun e w' => e = .returned (mrk (toldM l)) ∧ Below w.heap.size w w' := by
  have hl := hr.1
  obtain ⟨v0, h0⟩ : ∃ v, val 8 (piece l 0 8) = v := ⟨_, rfl⟩
  obtain ⟨v1, h1⟩ : ∃ v, val 8 (piece l 8 2) = v := ⟨_, rfl⟩
  obtain ⟨v2, h2⟩ : ∃ v, val 8 (piece l 10 8) = v := ⟨_, rfl⟩
  obtain ⟨v3, h3⟩ : ∃ v, val 8 (piece l 18 8) = v := ⟨_, rfl⟩
  have b1 : v1 < 65536 := by rw [← h1]; exact val_piece_lt (b := l) (p := 8) (k := 2) (by omega)
  have HV0 := Lib.hid h0
  have HV1 := Lib.hid h1
  have HV2 := Lib.hid h2
  have HV3 := Lib.hid h3
  have HT : Hid (toldM l = ⟨v0, (v1 : Nat), v2, v3⟩) := Lib.hid (by unfold toldM; rw [h0, h1, h2, h3])
  have HST := Lib.hid (tlM_start w A l hr)
  have HSZ := Lib.hid (S.below (tlM_start w A l hr).bel)
  have HL := Lib.hid hl
  clear h0 h1 h2 h3 hr S hl
  go_enter Tryd.func27, Tryd.ntmps27
  go_upto_region 3 with (first | (refine wpList_valn rfl (exec_allocM rfl) ?_) | (refine wpList_valn rfl (exec_allocN rfl) ?_) | fail)
  try simp only [World.size_alloc]
  generalize (w.alloc (.cells (celM zeroM).toArray 24)).alloc (.cells (celN 0 0 0 0).toArray 60) = w1 at *
  obtain ⟨B, hB⟩ : ∃ B, w.heap.size = B := ⟨_, rfl⟩
  rw [hB] at HST ⊢
  have HBD := Lib.hid hB
  have HB : Hid (B ≤ w.heap.size) := Lib.hid (by omega)
  clear hB
  obtain ⟨n, hn⟩ : ∃ n, B + 1 = n := ⟨_, rfl⟩
  rw [hn] at HST ⊢
  clear hn
  go_upto_region 4 with (first | (refine wpList_valn rfl (exec_loadZ rfl rfl HSZ.out) ?_) | fail)
  go_loopw [4, 8] (fun p i wr => TrM B w A l B n v0 v1 v2 v3 p i wr) (fun _ i _ => 4 - (intOf i).toNat)
  case atStart => exact .inl ⟨rfl, rfl, HST.out⟩
  case round =>
    clear HST
    rcases hrel with ⟨rfl, rfl, hl⟩ | ⟨rfl, rfl, hl⟩ | ⟨rfl, rfl, hl⟩ | ⟨rfl, rfl, hl⟩ | ⟨rfl, rfl, hl⟩
    · have H0 := Lib.hid hl
      clear hl
      have HRD := Lib.hid H0.out.rd
      have cc := H0.out.num.cells.1
      have ff := H0.out.num.free 0
      have H2 : Hid (TlM B w (wr.setCell ⟨n, 0, none⟩ (.int .u64 (v0 : Nat))) A l B n v0 0 0 0) := Lib.hid (H0.out.set rfl HB.out)
      go_wp2_with (first | (refine wpList_valn rfl (exec_ixZ0 rfl rfl rfl) ?_) | fail)
      refine (get_ok A 44 c _ l 0 8 wr HRD.out (by unfold maxLen; omega) (by omega) (by omega) (by omega)).mono ?_
      rintro e w2 ⟨rfl, rfl⟩
      rw [HV0.out]
      go_wp2_with (first | (refine wpList_valn rfl (exec_ixN0 rfl rfl rfl) ?_) | fail)
      go_roundw
      case rel => exact .inr (.inl ⟨rfl, rfl, H2.out⟩)
      case measure => simp [intOf]
    · have H0 := Lib.hid hl
      clear hl
      have HRD := Lib.hid H0.out.rd
      have cc := H0.out.num.cells.2.1
      have ff := H0.out.num.free 1
      have H2 : Hid (TlM B w (wr.setCell ⟨n, 1, none⟩ (.int .u64 (v1 : Nat))) A l B n v0 v1 0 0) := Lib.hid (H0.out.set rfl HB.out)
      go_wp2_with (first | (refine wpList_valn rfl (exec_ixZ1 rfl rfl rfl) ?_) | fail)
      refine (get_ok A 44 c _ l 8 2 wr HRD.out (by unfold maxLen; omega) (by omega) (by omega) (by omega)).mono ?_
      rintro e w2 ⟨rfl, rfl⟩
      rw [HV1.out]
      go_wp2_with (first | (refine wpList_valn rfl (exec_ixN1 rfl rfl rfl) ?_) | fail)
      go_roundw
      case rel => exact .inr (.inr (.inl ⟨rfl, rfl, H2.out⟩))
      case measure => simp [intOf]
    · have H0 := Lib.hid hl
      clear hl
      have HRD := Lib.hid H0.out.rd
      have cc := H0.out.num.cells.2.2.1
      have ff := H0.out.num.free 2
      have H2 : Hid (TlM B w (wr.setCell ⟨n, 2, none⟩ (.int .u64 (v2 : Nat))) A l B n v0 v1 v2 0) := Lib.hid (H0.out.set rfl HB.out)
      go_wp2_with (first | (refine wpList_valn rfl (exec_ixZ2 rfl rfl rfl) ?_) | fail)
      refine (get_ok A 44 c _ l 10 8 wr HRD.out (by unfold maxLen; omega) (by omega) (by omega) (by omega)).mono ?_
      rintro e w2 ⟨rfl, rfl⟩
      rw [HV2.out]
      go_wp2_with (first | (refine wpList_valn rfl (exec_ixN2 rfl rfl rfl) ?_) | fail)
      go_roundw
      case rel => exact .inr (.inr (.inr (.inl ⟨rfl, rfl, H2.out⟩)))
      case measure => simp [intOf]
    · have H0 := Lib.hid hl
      clear hl
      have HRD := Lib.hid H0.out.rd
      have cc := H0.out.num.cells.2.2.2
      have ff := H0.out.num.free 3
      have H2 : Hid (TlM B w (wr.setCell ⟨n, 3, none⟩ (.int .u64 (v3 : Nat))) A l B n v0 v1 v2 v3) := Lib.hid (H0.out.set rfl HB.out)
      go_wp2_with (first | (refine wpList_valn rfl (exec_ixZ3 rfl rfl rfl) ?_) | fail)
      refine (get_ok A 44 c _ l 18 8 wr HRD.out (by unfold maxLen; omega) (by omega) (by omega) (by omega)).mono ?_
      rintro e w2 ⟨rfl, rfl⟩
      rw [HV3.out]
      go_wp2_with (first | (refine wpList_valn rfl (exec_ixN3 rfl rfl rfl) ?_) | fail)
      go_roundw
      case rel => exact .inr (.inr (.inr (.inr ⟨rfl, rfl, H2.out⟩)))
      case measure => simp [intOf]
    · have H0 := Lib.hid hl
      clear hl
      obtain ⟨c0, c1, c2, c3⟩ := H0.out.num.cells
      have HTH := Lib.hid H0.out.res.there
      go_wp2_with (first | (refine wpList_valn rfl (exec_ixN0 rfl rfl rfl) ?_) | (refine wpList_valn rfl (exec_ixN1 rfl rfl rfl) ?_) | (refine wpList_valn rfl (exec_ixN2 rfl rfl rfl) ?_) | (refine wpList_valn rfl (exec_ixN3 rfl rfl rfl) ?_) | (refine wpList_valn rfl (exec_bldM4 v0 v1 v2 v3 rfl rfl rfl rfl rfl) ?_) | (refine wpList_nuln rfl (exec_putM (c := ⟨v0, (v1 : Nat), v2, v3⟩) rfl rfl rfl ?_) ?_; (with_reducible exact HTH.out)) | fail)
      refine bodyPost_ret (res_rng (t := 24) (cs := celM ⟨v0, (v1 : Nat), v2, v3⟩) rfl _ _ B rfl ?h1 Tryd.underlying24 rfl ?h2) rfl ⟨by rw [HT.out]; rfl, ?h3⟩
      case h1 => exact World.rangeAt_setCells_same _ _ _ _ HTH.out
      case h2 => exact sizeM
      case h3 => rw [HBD.out]; exact below_setCells H0.out.bel H0.out.r0 _
end Go.Proofs.YtmdpbnolgbfaeaaDoor
