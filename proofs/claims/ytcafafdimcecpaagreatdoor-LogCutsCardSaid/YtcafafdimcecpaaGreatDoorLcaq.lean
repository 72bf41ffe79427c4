import Derived.Test.YtcafafdimcecpaaGreatDoorLcai
import Derived.Test.YtcafafdimcecpaaGreatDoorLcah
import Derived.Test.YtcafafdimcecpaaGreatDoorLcZ
namespace Go.Proofs.YtcafafdimcecpaaGreatDoor
open Go.RowKit
set_option linter.unusedVariables false
set_option linter.unusedSimpArgs false
set_option maxRecDepth 100000
structure TlM (B : Nat) (w0 w : World) (A : Option Addr) (l : List UInt8) (r n a b c d : Nat) : Prop where
  rd : Rd w B A 44 l
  res : bG w r bI
  num : NumAt w n a b c d
  bel : Below B w0 w
  n0 : B ≤ n
  r0 : B ≤ r
  dif : r ≠ n
theorem TlM.set {B : Nat} {w0 w : World} {A : Option Addr} {l : List UInt8} {r n a b c d a' b' c' d' j v : Nat} (h : TlM B w0 w A l r n a b c d) (e : (celN a b c d).set j (.int .u64 v) = celN a' b' c' d') (hB : B ≤ w0.heap.size) : TlM B w0 (w.setCell ⟨n, j, none⟩ (.int .u64 v)) A l r n a' b' c' d' :=
  have hg := grown_set w n j (.int .u64 v)
  have hb : Below B w (w.setCell ⟨n, j, none⟩ (.int .u64 v)) := (Below.refl B w).grown hg (Nat.le_trans hB h.bel.size) (fun k hk => by injection hk with e; have := h.n0; omega)
  ⟨h.rd.below hb, eJ h.res hg h.dif, h.num.set e, h.bel.trans hb, h.n0, h.r0, h.dif⟩
def TrM (B : Nat) (w0 : World) (A : Option Addr) (l : List UInt8) (r n v0 v1 v2 v3 : Nat) (p i : Value) (w : World) : Prop :=
  (i = .int .i64 0 ∧ p = .int .i64 0 ∧ TlM B w0 w A l r n 0 0 0 0) ∨ (i = .int .i64 1 ∧ p = .int .i64 8 ∧ TlM B w0 w A l r n v0 0 0 0) ∨
  (i = .int .i64 2 ∧ p = .int .i64 10 ∧ TlM B w0 w A l r n v0 v1 0 0) ∨ (i = .int .i64 3 ∧ p = .int .i64 18 ∧ TlM B w0 w A l r n v0 v1 v2 0) ∨ (i = .int .i64 4 ∧ p = .int .i64 26 ∧ TlM B w0 w A l r n v0 v1 v2 v3)
theorem tlM_start (w : World) (A : Option Addr) (l : List UInt8) (hr : Rd w w.heap.size A 44 l) : TlM w.heap.size w ((w.alloc (.cells (bk bI).toArray 67)).alloc (.cells (celN 0 0 0 0).toArray 203)) A l w.heap.size (w.heap.size + 1) 0 0 0 0 := by
  have h1 := (Below.refl w.heap.size w).alloc (Nat.le_refl _) (.cells (bk bI).toArray 67)
  have h2 := h1.alloc h1.size (.cells (celN 0 0 0 0).toArray 203)
  have n1 : NumAt ((w.alloc (.cells (bk bI).toArray 67)).alloc (.cells (celN 0 0 0 0).toArray 203)) (w.alloc (.cells (bk bI).toArray 67)).heap.size 0 0 0 0 := heap_alloc_new _ _
  rw [World.size_alloc] at n1
  exact ⟨hr.below h2, (bG.new w bI).past _, n1, h2, by omega, by omega, by omega⟩
set_option maxHeartbeats 4000000 in
theorem pmtold (A : Option Addr) (c : Nat) (l : List UInt8) (w : World) (S : Siz w) (hr : Rd w w.heap.size A 44 l) : Calls Tryz.prog 196 #[.slice A 44 c] w fun e w' => e = .returned (mrk (co l)) ∧ Below w.heap.size w w' := by
  have hl := hr.1
  obtain ⟨v0, h0⟩ : ∃ v, val 8 (piece l 0 8) = v := ⟨_, rfl⟩
  obtain ⟨v1, h1⟩ : ∃ v, val 8 (piece l 8 2) = v := ⟨_, rfl⟩
  obtain ⟨v2, h2⟩ : ∃ v, val 8 (piece l 10 8) = v := ⟨_, rfl⟩
  obtain ⟨v3, h3⟩ : ∃ v, val 8 (piece l 18 8) = v := ⟨_, rfl⟩
  have b1 : v1 < 65536 := by rw [← h1]; exact cu (b := l) (p := 8) (k := 2) (by omega)
  have HV0 := Lib.hid h0
  have HV1 := Lib.hid h1
  have HV2 := Lib.hid h2
  have HV3 := Lib.hid h3
  have HT : Hid (co l = ⟨v0, (v1 : Nat), v2, v3⟩) := Lib.hid (by unfold co; rw [h0, h1, h2, h3])
  have HST := Lib.hid (tlM_start w A l hr)
  have HSZ := Lib.hid (S.below (tlM_start w A l hr).bel)
  have HL := Lib.hid hl
  clear h0 h1 h2 h3 hr S hl
  go_enter Tryz.func196, Tryz.ntmps196
  go_upto_region 3 with (first | (refine ag rfl (bJ rfl) ?_) | (refine ag rfl (exec_allocN rfl) ?_) | fail)
  try simp only [World.size_alloc]
  generalize (w.alloc (.cells (bk bI).toArray 67)).alloc (.cells (celN 0 0 0 0).toArray 203) = w1 at *
  obtain ⟨B, hB⟩ : ∃ B, w.heap.size = B := ⟨_, rfl⟩
  rw [hB] at HST ⊢
  have HBD := Lib.hid hB
  have HB : Hid (B ≤ w.heap.size) := Lib.hid (by omega)
  clear hB
  obtain ⟨n, hn⟩ : ∃ n, B + 1 = n := ⟨_, rfl⟩
  rw [hn] at HST ⊢
  clear hn
  go_upto_region 4 with (first | (refine ag rfl (exec_loadZ rfl rfl HSZ.out) ?_) | fail)
  go_loopw [4, 8] (fun p i wr => TrM B w A l B n v0 v1 v2 v3 p i wr) (fun _ i _ => 4 - (intOf i).toNat)
  case atStart => exact .inl ⟨rfl, rfl, HST.out⟩
  case round =>
    clear HST
    rcases hrel with ⟨rfl, rfl, hl⟩ | ⟨rfl, rfl, hl⟩ | ⟨rfl, rfl, hl⟩ | ⟨rfl, rfl, hl⟩ | ⟨rfl, rfl, hl⟩
    · have H0 := Lib.hid hl
      clear hl
      have HRD := Lib.hid H0.out.rd
      have cc := H0.out.num.cells.1
      have ff := H0.out.num.free 0
      have H2 : Hid (TlM B w (wr.setCell ⟨n, 0, none⟩ (.int .u64 (v0 : Nat))) A l B n v0 0 0 0) := Lib.hid (H0.out.set rfl HB.out)
      go_wp2_with (first | (refine ag rfl (exec_ixZ0 rfl rfl rfl) ?_) | fail)
      refine (get_ok A 44 c _ l 0 8 wr HRD.out (by unfold maxLen; omega) (by omega) (by omega) (by omega)).mono ?_
      rintro e w2 ⟨rfl, rfl⟩
      rw [HV0.out]
      go_wp2_with (first | (refine ag rfl (exec_ixN0 rfl rfl rfl) ?_) | fail)
      go_roundw
      case rel => exact .inr (.inl ⟨rfl, rfl, H2.out⟩)
      case measure => simp [intOf]
    · have H0 := Lib.hid hl
      clear hl
      have HRD := Lib.hid H0.out.rd
      have cc := H0.out.num.cells.2.1
      have ff := H0.out.num.free 1
      have H2 : Hid (TlM B w (wr.setCell ⟨n, 1, none⟩ (.int .u64 (v1 : Nat))) A l B n v0 v1 0 0) := Lib.hid (H0.out.set rfl HB.out)
      go_wp2_with (first | (refine ag rfl (exec_ixZ1 rfl rfl rfl) ?_) | fail)
      refine (get_ok A 44 c _ l 8 2 wr HRD.out (by unfold maxLen; omega) (by omega) (by omega) (by omega)).mono ?_
      rintro e w2 ⟨rfl, rfl⟩
      rw [HV1.out]
      go_wp2_with (first | (refine ag rfl (exec_ixN1 rfl rfl rfl) ?_) | fail)
      go_roundw
      case rel => exact .inr (.inr (.inl ⟨rfl, rfl, H2.out⟩))
      case measure => simp [intOf]
    · have H0 := Lib.hid hl
      clear hl
      have HRD := Lib.hid H0.out.rd
      have cc := H0.out.num.cells.2.2.1
      have ff := H0.out.num.free 2
      have H2 : Hid (TlM B w (wr.setCell ⟨n, 2, none⟩ (.int .u64 (v2 : Nat))) A l B n v0 v1 v2 0) := Lib.hid (H0.out.set rfl HB.out)
      go_wp2_with (first | (refine ag rfl (exec_ixZ2 rfl rfl rfl) ?_) | fail)
      refine (get_ok A 44 c _ l 10 8 wr HRD.out (by unfold maxLen; omega) (by omega) (by omega) (by omega)).mono ?_
      rintro e w2 ⟨rfl, rfl⟩
      rw [HV2.out]
      go_wp2_with (first | (refine ag rfl (exec_ixN2 rfl rfl rfl) ?_) | fail)
      go_roundw
      case rel => exact .inr (.inr (.inr (.inl ⟨rfl, rfl, H2.out⟩)))
      case measure => simp [intOf]
    · have H0 := Lib.hid hl
      clear hl
      have HRD := Lib.hid H0.out.rd
      have cc := H0.out.num.cells.2.2.2
      have ff := H0.out.num.free 3
      have H2 : Hid (TlM B w (wr.setCell ⟨n, 3, none⟩ (.int .u64 (v3 : Nat))) A l B n v0 v1 v2 v3) := Lib.hid (H0.out.set rfl HB.out)
      go_wp2_with (first | (refine ag rfl (exec_ixZ3 rfl rfl rfl) ?_) | fail)
      refine (get_ok A 44 c _ l 18 8 wr HRD.out (by unfold maxLen; omega) (by omega) (by omega) (by omega)).mono ?_
      rintro e w2 ⟨rfl, rfl⟩
      rw [HV3.out]
      go_wp2_with (first | (refine ag rfl (exec_ixN3 rfl rfl rfl) ?_) | fail)
      go_roundw
      case rel => exact .inr (.inr (.inr (.inr ⟨rfl, rfl, H2.out⟩)))
      case measure => simp [intOf]
    · have H0 := Lib.hid hl
      clear hl
      obtain ⟨c0, c1, c2, c3⟩ := H0.out.num.cells
      have HTH := Lib.hid H0.out.res.there
      go_wp2_with (first | (refine ag rfl (exec_ixN0 rfl rfl rfl) ?_) | (refine ag rfl (exec_ixN1 rfl rfl rfl) ?_) | (refine ag rfl (exec_ixN2 rfl rfl rfl) ?_) | (refine ag rfl (exec_ixN3 rfl rfl rfl) ?_) | (refine ag rfl (exec_bldM4 v0 v1 v2 v3 rfl rfl rfl rfl rfl) ?_) | (refine aB rfl (cQ (c := ⟨v0, (v1 : Nat), v2, v3⟩) rfl rfl rfl ?_) ?_; (with_reducible exact HTH.out)) | fail)
      refine bodyPost_ret (res_rng (t := 67) (cs := bk ⟨v0, (v1 : Nat), v2, v3⟩) rfl _ _ B rfl ?h1 Tryz.underlying67 rfl ?h2) rfl ⟨by rw [HT.out]; rfl, ?h3⟩
      case h1 => exact World.rangeAt_setCells_same _ _ _ _ HTH.out
      case h2 => exact sizeM
      case h3 => rw [HBD.out]; exact below_setCells H0.out.bel H0.out.r0 _
theorem fD {ρ : Operand → Value} {o : Oper} {x y : Operand} {w : World} (g : Nat) (ho : o.op = .store 206 x y) (hx : ρ x = .pointer (some ⟨w.heap.size, 0, none⟩)) (hy : ρ y = .agg (eK g)) :
    (execOp ρ o).run Tryz.prog (w.alloc (.cells #[.slice none 0 0, .slice none 0 0, .slice none 0 0, .slice none 0 0, .slice none 0 0] 206)) = .ok .skip (w.alloc (.cells (eK g) 206)) :=
  exec_fillT (by kernel_rfl) rfl rfl ho hx hy
theorem putW_start (w w1 : World) (hb : Below ((w.alloc (.cells (cel al).toArray 65)).alloc (.cells (cel al).toArray 65)).heap.size ((w.alloc (.cells (cel al).toArray 65)).alloc (.cells (cel al).toArray 65)) w1) :
    PutW w.heap.size w (w1.alloc (.cells (eK (w.heap.size + 1)) 206)) w.heap.size (w.heap.size + 1) w1.heap.size al.toList := by
  have h1 := (Below.refl w.heap.size w).alloc (Nat.le_refl _) (.cells (cel al).toArray 65)
  have h2 := h1.alloc h1.size (.cells (cel al).toArray 65)
  have hs := hb.size
  simp only [World.size_alloc] at hs
  have hr : bF w1 w.heap.size 65 al.toList := bF.below ((bF.blk w al 65).past _) (by simp only [World.size_alloc]; omega) hb
  have hg : bF w1 (w.heap.size + 1) 65 al.toList := bF.below (by have := bF.blk (w.alloc (.cells (cel al).toArray 65)) al 65; rwa [World.size_alloc] at this) (by simp only [World.size_alloc]; omega) hb
  have hbel : Below w.heap.size w w1 := h2.trans (hb.mono (by simp only [World.size_alloc]; omega))
  exact ⟨hr.past _, hg.past _, heap_alloc_new w1 _, hbel.alloc (by omega) _, Nat.le_refl _, by omega, by omega, by omega⟩
set_option maxHeartbeats 4000000 in
theorem put_yes (n m c N : Nat) (A : Option Addr) (b : List UInt8) (w : World) (T : Tab w) (hn : n < 18446744073709551616) (h0 : 0 < n) (hb : Rd w N A m b) (hN : N ≤ w.heap.size) (hm : m ≤ 44) :
    Calls Tryz.prog 164 #[.int .u64 n, .slice A m c] w fun e w' => e = .returned (.tuple #[blk (putB n b), .int .i64 (putE n b : Nat)]) ∧ Below w.heap.size w w' := by
  have hl := hb.1
  have hbl : b.length ≤ 44 := by omega
  have hE : putE n b = 0 := putE_ok (by omega) hbl
  have hB : putB n b = ofL (cZ n b) := putB_ok hE
  rw [hE, hB]
  have HS := Lib.hid (noSum_seal (n := n) hbl)
  have HH := Lib.hid (noSum_head (n := n) hbl)
  have HL := Lib.hid (fv (n := n) hbl)
  have HL64 := Lib.hid (sealL_length n hbl)
  have HC := Lib.hid (more_lt (s := 0) (by omega) (dE n b))
  have HT := Lib.hid T
  have HR := Lib.hid hb
  have HB := Lib.hid hl
  have HN := Lib.hid hn
  have HNN := Lib.hid hN
  clear hE hB T hb hl hbl hn hN
  have hz : ((n : Int) == 0) = false := by simp; omega
  go_enter Tryz.func164, Tryz.ntmps164
  go_wp2_with (first | (refine ai rfl (aK rfl) ?_) | fail)
  refine (cut_any (w.heap.size + 1) _).mono ?_
  rintro e w1 ⟨rfl, hb1⟩
  have hW := putW_start w w1 hb1
  have HBW := Lib.hid hb1.size
  clear hb1
  have HFP := HBW.out
  obtain ⟨c0, c1, c2, c3, c4⟩ := hW.par.cells
  obtain ⟨g, hg⟩ : ∃ g, w.heap.size + 1 = g := ⟨_, rfl⟩
  rw [hg] at hW c0 c1 c2 c3 c4
  rw [hg]
  have HGG := Lib.hid hg
  clear HFP hg
  have HW := Lib.hid hW
  clear hW
  go_wp2_with (first | (refine aF rfl (fD g rfl rfl rfl) ?_) | fail)
  clear c0 c1 c2 c3 c4 HBW HGG
  have HN8 := HN.out
  refine (lay_any g 0 8 n 65 al.toList _ HW.out.row (by omega) (by omega) (by simp) (by simpa using HN8)).mono ?_
  rintro e w2 ⟨rfl, hr2, hg2⟩
  have HW2 := Lib.hid (HW.out.turn hr2 hg2 (Nat.le_refl _))
  clear hr2 hg2 HW
  obtain ⟨c0, c1, c2, c3, c4⟩ := HW2.out.par.cells
  generalize w1.heap.size = p at *
  obtain ⟨r, hr⟩ : ∃ r, r = w.heap.size := ⟨_, rfl⟩
  have HRR := Lib.hid hr
  rw [← hr] at HNN HW2 ⊢
  clear hr
  clear HN8
  go_wp2_with fail
  clear c0 c1 c2 c3 c4
  have HN8 := HN.out
  refine (lay_any g 56 8 n 65 _ _ HW2.out.row (by omega) (by omega) (by rw [noSum_1]; omega) (by simpa using HN8)).mono ?_
  rintro e w3 ⟨rfl, hr3, hg3⟩
  have HW3 := Lib.hid (HW2.out.turn hr3 hg3 (Nat.le_of_eq HRR.out))
  clear hr3 hg3 HW2 HN8
  obtain ⟨c0, c1, c2, c3, c4⟩ := HW3.out.par.cells
  have HR3 := Lib.hid (HR.out.below (HW3.out.bel.mono HNN.out))
  have HL2 := Lib.hid (noSum_2 n)
  obtain ⟨l2, hl2⟩ : ∃ l2, splice (splice al.toList 0 (aY 8 8 n)) 56 (aY 8 8 n) = l2 := ⟨_, rfl⟩
  have HNS : Hid (splice l2 8 b = noSum n b) := Lib.hid (by rw [← hl2]; rfl)
  rw [hl2] at HW3 HL2
  clear hl2
  go_wp2_with (with_reducible refine cw rfl _ _ rfl g 8 44 44 m c N A 65 l2 b rfl rfl HW3.out.row HR3.out hm ?c1 ?_)
  case c1 => rw [HL2.out]; omega
  intro w4 hr4 hg4
  rw [HNS.out] at hr4
  have HW4 := Lib.hid (HW3.out.turn hr4 hg4 (Nat.le_of_eq HRR.out))
  clear hr4 hg4 HW3 HR3 HL2 c0 c1 c2 c3 c4
  go_wp2_with fail
  refine wp_region_held (S := fun w' => Hid (PutW r w w' r g p (noSum n b) ∨ PutW r w w' r g p (cZ n b))) (by kernel_rfl) ?_
  change wpAnyH _ _ _ _ _ 7 _ _ w4.drew
  have hS : Hid (PutW r w w4.drew r g p (noSum n b) ∨ PutW r w w4.drew r g p (cZ n b)) := Lib.hid (.inl HW4.out.draw)
  refine aD 0 rfl (by kernel_rfl) (by kernel_rfl) (by kernel_rfl) rfl (fun w' hw => ak rfl (ev rfl) faP2) (fun _ _ _ h => h) hS ?_
  simp only [Act.put, aa, ae, af]
  refine aD 1 rfl (by kernel_rfl) (by kernel_rfl) (by kernel_rfl) rfl (fun w' hw => av rfl (ev rfl) (ldS (hw.out.elim (fun h => h.par.cells.2.2.1) (fun h => h.par.cells.2.2.1)))) (fun _ _ _ h => h) hS ?_
  simp only [Act.put, aa, ae, af]
  refine aD 2 rfl (by kernel_rfl) (by kernel_rfl) (by kernel_rfl) rfl (fun w' hw => ak rfl (ev rfl) faP4) (fun _ _ _ h => h) hS ?_
  simp only [Act.put, aa, ae, af]
  refine aD 3 rfl (by kernel_rfl) (by kernel_rfl) (by kernel_rfl) rfl (fun w' hw => av rfl (ev rfl) (ldS (hw.out.elim (fun h => h.par.cells.2.2.2.2) (fun h => h.par.cells.2.2.2.2)))) (fun _ _ _ h => h) hS ?_
  simp only [Act.put, aa, ae, af]
  refine held_call 4 rfl (by kernel_rfl) rfl (au Tryz.call123 rfl (evc (ev rfl) evn)) ?_
  have T4 : Tab w4.drew := (HT.out.below (by rw [← HRR.out]; exact HW4.out.draw.bel))
  have R4 := HW4.out.draw.row.rd (p := 0) (k := 52) (by rw [HL.out]; omega)
  rw [HH.out] at R4
  refine (of_any _ 52 52 _ (dE n b) _ T4 R4 (by unfold maxLen; omega)).mono ?_
  rintro e w' ⟨rfl, rfl⟩
  refine ⟨_, rfl, hS, ?_⟩
  simp only [Act.put, aa, ae, af]
  clear T4 R4
  refine aD 5 rfl (by kernel_rfl) (by kernel_rfl) (by kernel_rfl) rfl (fun w' hw => exec_cv32 rfl (ev rfl) HC.out) (fun _ _ _ h => h) hS ?_
  simp only [Act.put, aa, ae, af]
  refine held_call 6 rfl (by kernel_rfl) rfl (au Tryz.call190 rfl (evc (ev rfl) (evc (ev rfl) evn))) ?_
  refine (lay_any g 52 4 (more 0 (dE n b)) 65 _ _ HW4.out.draw.row (by omega) (by omega) (by rw [HL.out]; omega) (by have := HC.out; simpa using this)).mono ?_
  rintro e w5 ⟨rfl, hr5, hg5⟩
  rw [HS.out] at hr5
  have HW5 := Lib.hid (HW4.out.draw.turn hr5 hg5 (Nat.le_of_eq HRR.out))
  refine ⟨_, rfl, Lib.hid (.inr HW5.out), ?_⟩
  simp only [Act.put, aa, ae, af]
  clear hr5 hg5 hS HW4
  refine wpAnyH_done (by kernel_rfl) ?_ _
  have HG := Lib.hid (HW5.out.row.range HL64.out)
  have HTH : Hid (w5.there r 0 64) := Lib.hid (there_row HW5.out.res.row (by simp))
  have HBB : Hid (Below w.heap.size w w5) := Lib.hid (by rw [← HRR.out]; exact HW5.out.bel)
  go_wp2_with (first | (refine ai rfl (aJ rfl rfl HG.out) ?_) | (refine aF rfl (aH rfl rfl rfl HTH.out) ?_) | fail)
  refine bodyPost_ret (bN rfl _ _ _ rfl (World.rangeAt_setCells_same _ _ _ _ (by rw [ax]; exact HTH.out))) rfl ⟨rfl, below_setCells HBB.out (Nat.le_of_eq HRR.out.symm) _⟩
theorem put_all (n m c N : Nat) (A : Option Addr) (b : List UInt8) (w : World) (T : Tab w) (hn : n < 18446744073709551616) (hb : Rd w N A m b) (hN : N ≤ w.heap.size) (hm : m ≤ maxLen) :
    Calls Tryz.prog 164 #[.int .u64 n, .slice A m c] w fun e w' => e = .returned (.tuple #[blk (putB n b), .int .i64 (putE n b : Nat)]) ∧ Below w.heap.size w w' := by
  by_cases h0 : n = 0
  · subst h0
    exact put_arg m c A b w hb.1
  · by_cases h44 : m ≤ 44
    · exact put_yes n m c N A b w T hn (by omega) hb hN h44
    · exact put_long n m c A b w hb.1 (by omega) (by omega) hm
def Bod (w : World) (B : Nat) (v : Value) (l : List UInt8) : Prop := (v = .slice none 0 0 ∧ l = []) ∨ ∃ g, v = .slice (some ⟨g, 0, none⟩) l.length l.length ∧ B ≤ g ∧ bF w g 5 l ∧ l.length ≤ maxLen
structure GetW (B : Nat) (w w' : World) (g p : Nat) (l : List UInt8) : Prop where
  row : bF w' g 65 l
  par : PartsAt w' p g
  bel : Below B w w'
  tab : Tab w'
theorem GetW.below {B : Nat} {w w1 w2 : World} {g p : Nat} {l : List UInt8} (h : GetW B w w1 g p l) (hb : Below w1.heap.size w1 w2) (hB : B ≤ w.heap.size) : GetW B w w2 g p l :=
  ⟨h.row.below h.row.lt hb, h.par.below (aV h.par) hb, h.bel.trans (hb.mono (Nat.le_trans hB h.bel.size)), h.tab.below hb⟩
theorem getW_start (w w1 : World) (b : Blk) (hbA : Below w.heap.size w (w.alloc (.cells (cel b).toArray 65))) (hT : Tab (w.alloc (.cells (cel b).toArray 65))) (hb : Below (w.alloc (.cells (cel b).toArray 65)).heap.size (w.alloc (.cells (cel b).toArray 65)) w1) :
    GetW w.heap.size w (w1.alloc (.cells (eK w.heap.size) 206)) w.heap.size w1.heap.size b.toList := by
  have hs := hb.size
  simp only [World.size_alloc] at hs
  have hr : bF w1 w.heap.size 65 b.toList := (bF.blk w b 65).below (by simp only [World.size_alloc]; omega) hb
  have hbel : Below w.heap.size w w1 := hbA.trans (hb.mono (by simp only [World.size_alloc]; omega))
  exact ⟨hr.past _, heap_alloc_new w1 _, hbel.alloc (by omega) _, (hT.below hb).below ((Below.refl _ _).alloc (Nat.le_refl _) _)⟩
theorem told_above {W w' : World} {g : Nat} {t : TypeId} {l : List UInt8} (h : bF W g t l) (hb : Below W.heap.size W w') (off k : Nat) (hk : off + k ≤ l.length) (h1 : 1 ≤ k) (h8 : k ≤ 8) :
    Calls Tryz.prog 197 #[.slice (some ⟨g, off, none⟩) k k] w' fun e w'' => e = .returned (.int .u64 (val 8 (piece l off k) : Nat)) ∧ Below w'.heap.size w' w'' :=
  (eW _ k k _ _ w' ((h.below h.lt hb).rd hk) h1 h8).mono fun e w'' ⟨he, hw⟩ => ⟨he, by subst hw; exact Below.refl _ _⟩
theorem of_above {W w' : World} {g : Nat} {t : TypeId} {l : List UInt8} (h : bF W g t l) (T : Tab W) (hb : Below W.heap.size W w') (off k : Nat) (hk : off + k ≤ l.length) (hm : k ≤ maxLen) :
    Calls Tryz.prog 123 #[.slice (some ⟨g, off, none⟩) k k] w' fun e w'' => e = .returned (.int .u32 (more 0 (piece l off k) : Nat)) ∧ Below w'.heap.size w' w'' :=
  (of_any _ k k _ _ w' (T.below hb) ((h.below h.lt hb).rd hk) hm).mono fun e w'' ⟨he, hw⟩ => ⟨he, by subst hw; exact Below.refl _ _⟩
theorem exec_neU {ρ : Operand → Value} {o : Oper} {x y : Operand} {w : World} {t r : TypeId} {a b : Nat} (c : Bool) (ho : o.op = .binOp .neq t x y r) (hx : ρ x = .int .u64 (a : Int)) (hy : ρ y = .int .u64 (b : Int)) (h : ((a : Int) != (b : Int)) = c) : (execOp ρ o).run Tryz.prog w = .ok (.value (.bool c)) w := aP c ho hx hy h
theorem splice_all (l : List UInt8) (n : Nat) (h : l.length = n) : splice (List.replicate n 0) 0 l = l := by
  subst h
  simp [splice]
def nil44 : List UInt8 := List.replicate 44 0
theorem splice_44 {l : List UInt8} (h : l.length = 44) : splice nil44 0 l = l := splice_all l 44 h
def row44 : Array Value := (vals (List.replicate 44 0)).toArray
theorem make44 (w : World) : (Instr.makeSlice 160 (.int .i64 44) (.int .i64 44)).run Tryz.prog w = .ok (.slice (some ⟨w.heap.size, 0, none⟩) 44 44) (w.alloc (.cells row44 5)) := by kernel_rfl
set_option maxHeartbeats 4000000 in
theorem pget_zero (b : Blk) (B : Nat) (w : World) (HB : Hid (B = w.heap.size)) (T : Tab w) (h0 : cF b.toList = 0) :
    Calls Tryz.prog 177 #[blk b] w fun e w' => ∃ v, e = .returned (.tuple #[.int .u64 (dt b.toList : Nat), v, .int .i64 (da b.toList : Nat)]) ∧ Bod w' B v (cR b.toList) ∧ Below B w w' := by
  have hA := bF.blk w b 65
  have hbA := (Below.refl w.heap.size w).alloc (Nat.le_refl _) (.cells (cel b).toArray 65)
  have HTA := Lib.hid (T.below hbA)
  have HA := Lib.hid hA
  have HBA := Lib.hid hbA
  have HL := Lib.hid (cx b)
  have hE := getE_form (.inl h0)
  have HE := Lib.hid hE
  have HN := Lib.hid (getN_no (l := b.toList) (by omega))
  have HBB := Lib.hid (getB_no (l := b.toList) (by omega))
  have HX : Hid (val 8 (piece b.toList 0 8) = 0) := Lib.hid h0
  clear hE h0
  clear hA hbA T
  go_enter Tryz.func177, Tryz.ntmps177
  go_wp2_with (first | (refine ai rfl (bD rfl rfl) ?_) | fail)
  refine (cut_any w.heap.size _).mono ?_
  rintro e w1 ⟨rfl, hb1⟩
  have HG := Lib.hid (getW_start w w1 b HBA.out HTA.out hb1)
  clear HTA HA HBA hb1
  obtain ⟨g, hg⟩ : ∃ g, w.heap.size = g := ⟨_, rfl⟩
  have HGE := Lib.hid (Nat.le_of_eq hg.symm)
  rw [hg] at HG HB
  rw [hg]
  clear hg
  obtain ⟨c0, c1, c2, c3, c4⟩ := HG.out.par.cells
  go_wp2_with (first | (refine aF rfl (fD g rfl rfl rfl) ?_) | fail)
  clear c0 c1 c2 c3 c4
  generalize w1.heap.size = p at *
  generalize w1.alloc (.cells (eK g) 206) = w2 at *
  obtain ⟨c0, c1, c2, c3, c4⟩ := HG.out.par.cells
  have hr0 := HG.out.row.rd (p := 0) (k := 8) (by rw [HL.out]; omega)
  refine (eW _ 8 8 _ _ _ hr0 (by omega) (by omega)).mono ?_
  rintro e w3 ⟨rfl, rfl⟩
  clear hr0
  rw [HX.out]
  go_wp2_with fail
  refine bodyPost_ret (v := .tuple #[.int .u64 0, .slice none 0 0, .int .i64 5]) (by simp [results, Tryz.results177, go_sem]) rfl ⟨_, by rw [HE.out, HN.out]; rfl, .inl ⟨rfl, HBB.out⟩, by rw [HB.out]; exact HG.out.bel⟩
set_option maxHeartbeats 4000000 in
theorem pget_unlike (b : Blk) (B : Nat) (w : World) (HB : Hid (B = w.heap.size)) (T : Tab w) (h0 : cF b.toList ≠ 0) (h1 : cF b.toList ≠ agO b.toList) :
    Calls Tryz.prog 177 #[blk b] w fun e w' => ∃ v, e = .returned (.tuple #[.int .u64 (dt b.toList : Nat), v, .int .i64 (da b.toList : Nat)]) ∧ Bod w' B v (cR b.toList) ∧ Below B w w' := by
  have hA := bF.blk w b 65
  have hbA := (Below.refl w.heap.size w).alloc (Nat.le_refl _) (.cells (cel b).toArray 65)
  have HTA := Lib.hid (T.below hbA)
  have HA := Lib.hid hA
  have HBA := Lib.hid hbA
  have HL := Lib.hid (cx b)
  have hE := getE_form (.inr h1)
  have HE := Lib.hid hE
  have HN := Lib.hid (getN_no (l := b.toList) (by omega))
  have HBB := Lib.hid (getB_no (l := b.toList) (by omega))
  obtain ⟨x, hx⟩ : ∃ x, cF b.toList = x := ⟨_, rfl⟩
  obtain ⟨y, hy⟩ : ∃ y, agO b.toList = y := ⟨_, rfl⟩
  rw [hx] at h0 h1
  rw [hy] at h1
  have hz : ((x : Int) == 0) = false := by simp; omega
  have hn : ((x : Int) != (y : Int)) = true := by simp; omega
  have HX : Hid (val 8 (piece b.toList 0 8) = x) := Lib.hid hx
  have HY : Hid (val 8 (piece b.toList 56 8) = y) := Lib.hid hy
  clear hE h0 h1 hx hy
  clear hA hbA T
  go_enter Tryz.func177, Tryz.ntmps177
  go_wp2_with (first | (refine ai rfl (bD rfl rfl) ?_) | fail)
  refine (cut_any w.heap.size _).mono ?_
  rintro e w1 ⟨rfl, hb1⟩
  have HG := Lib.hid (getW_start w w1 b HBA.out HTA.out hb1)
  clear HTA HA HBA hb1
  obtain ⟨g, hg⟩ : ∃ g, w.heap.size = g := ⟨_, rfl⟩
  have HGE := Lib.hid (Nat.le_of_eq hg.symm)
  rw [hg] at HG HB
  rw [hg]
  clear hg
  obtain ⟨c0, c1, c2, c3, c4⟩ := HG.out.par.cells
  go_wp2_with (first | (refine aF rfl (fD g rfl rfl rfl) ?_) | fail)
  clear c0 c1 c2 c3 c4
  generalize w1.heap.size = p at *
  generalize w1.alloc (.cells (eK g) 206) = w2 at *
  obtain ⟨c0, c1, c2, c3, c4⟩ := HG.out.par.cells
  have hr0 := HG.out.row.rd (p := 0) (k := 8) (by rw [HL.out]; omega)
  refine (eW _ 8 8 _ _ _ hr0 (by omega) (by omega)).mono ?_
  rintro e w3 ⟨rfl, rfl⟩
  clear hr0
  rw [HX.out]
  go_wp2_with fail
  have hr3 := HG.out.row.rd (p := 56) (k := 8) (by rw [HL.out]; omega)
  refine (eW _ 8 8 _ _ _ hr3 (by omega) (by omega)).mono ?_
  rintro e w3 ⟨rfl, rfl⟩
  clear hr3
  rw [HY.out]
  go_wp2_with fail
  refine bodyPost_ret (v := .tuple #[.int .u64 0, .slice none 0 0, .int .i64 5]) (by simp [results, Tryz.results177, go_sem]) rfl ⟨_, by rw [HE.out, HN.out]; rfl, .inl ⟨rfl, HBB.out⟩, by rw [HB.out]; exact HG.out.bel⟩
set_option maxHeartbeats 4000000 in
theorem pget_sum (b : Blk) (B : Nat) (w : World) (HB : Hid (B = w.heap.size)) (T : Tab w) (h0 : cF b.toList ≠ 0) (h1 : cF b.toList = agO b.toList) (h2 : sumO b.toList ≠ crcO b.toList) :
    Calls Tryz.prog 177 #[blk b] w fun e w' => ∃ v, e = .returned (.tuple #[.int .u64 (dt b.toList : Nat), v, .int .i64 (da b.toList : Nat)]) ∧ Bod w' B v (cR b.toList) ∧ Below B w w' := by
  have hA := bF.blk w b 65
  have hbA := (Below.refl w.heap.size w).alloc (Nat.le_refl _) (.cells (cel b).toArray 65)
  have HTA := Lib.hid (T.below hbA)
  have HA := Lib.hid hA
  have HBA := Lib.hid hbA
  have HL := Lib.hid (cx b)
  have hE := getE_sum h0 h1 h2
  have HE := Lib.hid hE
  have HN := Lib.hid (getN_no (l := b.toList) (by omega))
  have HBB := Lib.hid (getB_no (l := b.toList) (by omega))
  obtain ⟨x, hx⟩ : ∃ x, cF b.toList = x := ⟨_, rfl⟩
  rw [hx] at h0
  have HX : Hid (val 8 (piece b.toList 0 8) = x) := Lib.hid hx
  have HY : Hid (val 8 (piece b.toList 56 8) = x) := Lib.hid (by rw [← hx]; exact h1.symm)
  have HS4 := Lib.hid (sumO_lt (cx b))
  have HCL := Lib.hid (crcO_lt b.toList)
  have hz : ((x : Int) == 0) = false := by simp; omega
  have hn : ((x : Int) != (x : Int)) = false := by simp
  have hc : ((sumO b.toList : Nat) : Int) != ((crcO b.toList : Nat) : Int) := by simp; omega
  clear hE h0 h1 hx h2
  clear hA hbA T
  go_enter Tryz.func177, Tryz.ntmps177
  go_wp2_with (first | (refine ai rfl (bD rfl rfl) ?_) | fail)
  refine (cut_any w.heap.size _).mono ?_
  rintro e w1 ⟨rfl, hb1⟩
  have HG := Lib.hid (getW_start w w1 b HBA.out HTA.out hb1)
  clear HTA HA HBA hb1
  obtain ⟨g, hg⟩ : ∃ g, w.heap.size = g := ⟨_, rfl⟩
  have HGE := Lib.hid (Nat.le_of_eq hg.symm)
  rw [hg] at HG HB
  rw [hg]
  clear hg
  obtain ⟨c0, c1, c2, c3, c4⟩ := HG.out.par.cells
  go_wp2_with (first | (refine aF rfl (fD g rfl rfl rfl) ?_) | fail)
  clear c0 c1 c2 c3 c4
  generalize w1.heap.size = p at *
  generalize w1.alloc (.cells (eK g) 206) = w2 at *
  obtain ⟨c0, c1, c2, c3, c4⟩ := HG.out.par.cells
  have hr0 := HG.out.row.rd (p := 0) (k := 8) (by rw [HL.out]; omega)
  refine (eW _ 8 8 _ _ _ hr0 (by omega) (by omega)).mono ?_
  rintro e w3 ⟨rfl, rfl⟩
  clear hr0
  rw [HX.out]
  go_wp2_with fail
  have hr3 := HG.out.row.rd (p := 56) (k := 8) (by rw [HL.out]; omega)
  refine (eW _ 8 8 _ _ _ hr3 (by omega) (by omega)).mono ?_
  rintro e w3 ⟨rfl, rfl⟩
  clear hr3
  rw [HY.out]
  go_wp2_with fail
  clear c0 c1 c2 c3 c4
  have hle : w2.heap.size ≤ w2.heap.size := Nat.le_refl _
  refine aE (B := w2.heap.size) (by kernel_rfl) ?_
  refine am rfl (fun w' hw => ak rfl (ev rfl) faP2) ?_
  simp only [Act.put, aa, ae, af]
  refine am rfl (fun w' hw => av rfl (ev rfl) (ldS (HG.out.par.below (aV HG.out.par) hw).cells.2.2.1)) ?_
  simp only [Act.put, aa, ae, af]
  refine a9 rfl (fun _ => au Tryz.call197 rfl (evc (ev rfl) evn)) (aU hle fun w' hw => told_above HG.out.row hw 52 4 (by rw [HL.out]; omega) (by omega) (by omega)) ?_
  simp only [Act.put, aa, ae, af]
  refine am rfl (fun w' hw => ak rfl (ev rfl) faP4) ?_
  simp only [Act.put, aa, ae, af]
  refine am rfl (fun w' hw => av rfl (ev rfl) (ldS (HG.out.par.below (aV HG.out.par) hw).cells.2.2.2.2)) ?_
  simp only [Act.put, aa, ae, af]
  refine a9 rfl (fun _ => au Tryz.call123 rfl (evc (ev rfl) evn)) (aU hle fun w' hw => of_above HG.out.row HG.out.tab hw 0 52 (by rw [HL.out]; omega) (by unfold maxLen; omega)) ?_
  simp only [Act.put, aa, ae, af]
  refine am rfl (fun w' hw => exec_cv32 rfl (ev rfl) HCL.out) ?_
  simp only [Act.put, aa, ae, af]
  refine am rfl (fun w' hw => exec_neU true rfl (ev rfl) (ev rfl) hc) ?_
  simp only [Act.put, aa, ae, af]
  refine wpQuiet_nil ?_
  intro w3 hb3
  have HG3 := Lib.hid (HG.out.below hb3 HGE.out)
  clear hb3 HG
  go_wp2_with fail
  refine bodyPost_ret (v := .tuple #[.int .u64 0, .slice none 0 0, .int .i64 6]) (by simp [results, Tryz.results177, go_sem]) rfl ⟨_, by rw [HE.out, HN.out]; rfl, .inl ⟨rfl, HBB.out⟩, by rw [HB.out]; exact HG3.out.bel⟩
set_option maxHeartbeats 4000000 in
theorem pget_ok (b : Blk) (B : Nat) (w : World) (HB : Hid (B = w.heap.size)) (T : Tab w) (h0 : cF b.toList ≠ 0) (h1 : cF b.toList = agO b.toList) (h2 : sumO b.toList = crcO b.toList) :
    Calls Tryz.prog 177 #[blk b] w fun e w' => ∃ v, e = .returned (.tuple #[.int .u64 (dt b.toList : Nat), v, .int .i64 (da b.toList : Nat)]) ∧ Bod w' B v (cR b.toList) ∧ Below B w w' := by
  have hA := bF.blk w b 65
  have hbA := (Below.refl w.heap.size w).alloc (Nat.le_refl _) (.cells (cel b).toArray 65)
  have HTA := Lib.hid (T.below hbA)
  have HA := Lib.hid hA
  have HBA := Lib.hid hbA
  have HL := Lib.hid (cx b)
  have hE := getE_ok h0 h1 h2
  have HE := Lib.hid hE
  have HN := Lib.hid (getN_of hE)
  have HBB := Lib.hid (getB_of hE)
  obtain ⟨x, hx⟩ : ∃ x, cF b.toList = x := ⟨_, rfl⟩
  rw [hx] at h0
  have HX : Hid (val 8 (piece b.toList 0 8) = x) := Lib.hid hx
  have HY : Hid (val 8 (piece b.toList 56 8) = x) := Lib.hid (by rw [← hx]; exact h1.symm)
  have HS4 := Lib.hid (sumO_lt (cx b))
  have HCL := Lib.hid (crcO_lt b.toList)
  have hz : ((x : Int) == 0) = false := by simp; omega
  have hn : ((x : Int) != (x : Int)) = false := by simp
  have hc : (((sumO b.toList : Nat) : Int) != ((crcO b.toList : Nat) : Int)) = false := by rw [h2]; simp
  have HXX := Lib.hid hx
  clear hE h0 h1 hx h2
  clear hA hbA T
  go_enter Tryz.func177, Tryz.ntmps177
  go_wp2_with (first | (refine ai rfl (bD rfl rfl) ?_) | fail)
  refine (cut_any w.heap.size _).mono ?_
  rintro e w1 ⟨rfl, hb1⟩
  have HG := Lib.hid (getW_start w w1 b HBA.out HTA.out hb1)
  clear HTA HA HBA hb1
  obtain ⟨g, hg⟩ : ∃ g, w.heap.size = g := ⟨_, rfl⟩
  have HGE := Lib.hid (Nat.le_of_eq hg.symm)
  rw [hg] at HG HB
  rw [hg]
  clear hg
  obtain ⟨c0, c1, c2, c3, c4⟩ := HG.out.par.cells
  go_wp2_with (first | (refine aF rfl (fD g rfl rfl rfl) ?_) | fail)
  clear c0 c1 c2 c3 c4
  generalize w1.heap.size = p at *
  generalize w1.alloc (.cells (eK g) 206) = w2 at *
  obtain ⟨c0, c1, c2, c3, c4⟩ := HG.out.par.cells
  have hr0 := HG.out.row.rd (p := 0) (k := 8) (by rw [HL.out]; omega)
  refine (eW _ 8 8 _ _ _ hr0 (by omega) (by omega)).mono ?_
  rintro e w3 ⟨rfl, rfl⟩
  clear hr0
  rw [HX.out]
  go_wp2_with fail
  have hr3 := HG.out.row.rd (p := 56) (k := 8) (by rw [HL.out]; omega)
  refine (eW _ 8 8 _ _ _ hr3 (by omega) (by omega)).mono ?_
  rintro e w3 ⟨rfl, rfl⟩
  clear hr3
  rw [HY.out]
  go_wp2_with fail
  clear c0 c1 c2 c3 c4
  have hle : w2.heap.size ≤ w2.heap.size := Nat.le_refl _
  refine aE (B := w2.heap.size) (by kernel_rfl) ?_
  refine am rfl (fun w' hw => ak rfl (ev rfl) faP2) ?_
  simp only [Act.put, aa, ae, af]
  refine am rfl (fun w' hw => av rfl (ev rfl) (ldS (HG.out.par.below (aV HG.out.par) hw).cells.2.2.1)) ?_
  simp only [Act.put, aa, ae, af]
  refine a9 rfl (fun _ => au Tryz.call197 rfl (evc (ev rfl) evn)) (aU hle fun w' hw => told_above HG.out.row hw 52 4 (by rw [HL.out]; omega) (by omega) (by omega)) ?_
  simp only [Act.put, aa, ae, af]
  refine am rfl (fun w' hw => ak rfl (ev rfl) faP4) ?_
  simp only [Act.put, aa, ae, af]
  refine am rfl (fun w' hw => av rfl (ev rfl) (ldS (HG.out.par.below (aV HG.out.par) hw).cells.2.2.2.2)) ?_
  simp only [Act.put, aa, ae, af]
  refine a9 rfl (fun _ => au Tryz.call123 rfl (evc (ev rfl) evn)) (aU hle fun w' hw => of_above HG.out.row HG.out.tab hw 0 52 (by rw [HL.out]; omega) (by unfold maxLen; omega)) ?_
  simp only [Act.put, aa, ae, af]
  refine am rfl (fun w' hw => exec_cv32 rfl (ev rfl) HCL.out) ?_
  simp only [Act.put, aa, ae, af]
  refine am rfl (fun w' hw => exec_neU false rfl (ev rfl) (ev rfl) hc) ?_
  simp only [Act.put, aa, ae, af]
  refine wpQuiet_nil ?_
  intro w3 hb3
  have HG3 := Lib.hid (HG.out.below hb3 HGE.out)
  clear hb3 HG
  have HG4 := Lib.hid (HG3.out.below ((Below.refl w3.heap.size w3).alloc (Nat.le_refl _) (.cells row44 5)) HGE.out)
  obtain ⟨c0, c1, c2, c3, c4⟩ := HG4.out.par.cells
  have HNEW : Hid (bF (w3.alloc (.cells row44 5)) w3.heap.size 5 nil44) := Lib.hid (bF.new w3 nil44 _)
  have HSRC := Lib.hid (HG4.out.row.rd (p := 8) (k := 44) (by rw [HL.out]; omega))
  have HPL : Hid ((piece b.toList 8 44).length = 44) := Lib.hid (bz (by rw [HL.out]; omega))
  have HW3 := Lib.hid (Nat.le_trans HGE.out HG3.out.bel.size)
  clear HG3
  obtain ⟨q, hq⟩ : ∃ q, w3.heap.size = q := ⟨_, rfl⟩
  rw [hq] at HNEW HW3
  have HQ := Lib.hid hq
  generalize hw4 : w3.alloc (.cells row44 5) = w4 at *
  have HM : Hid (∀ w : World, w = w3 → (Instr.makeSlice 160 (.int .i64 44) (.int .i64 44)).run Tryz.prog w = .ok (.slice (some ⟨q, 0, none⟩) 44 44) w4) := Lib.hid (fun w e => by subst e; rw [make44, hq, hw4])
  have hmk := HM.out w3 rfl
  clear hq hw4
  go_wp2_with (with_reducible refine cw rfl _ _ rfl q 0 44 44 44 44 _ _ 5 _ (piece b.toList 8 44) rfl rfl HNEW.out HSRC.out (Nat.le_refl _) ?c1 ?_)
  case c1 => simp [nil44]
  intro w5 hr5 hg5
  rw [splice_44 HPL.out] at hr5
  have HB5 := Lib.hid (HG4.out.bel.grown hg5 (Nat.le_trans HGE.out HG4.out.bel.size) (fun k hk => by injection hk with e; subst e; exact HW3.out))
  have HR5 := Lib.hid hr5
  clear hr5 hg5 c0 c1 c2 c3 c4
  go_wp2_with fail
  refine bodyPost_ret (v := .tuple #[.int .u64 (x : Int), .slice (some ⟨q, 0, none⟩) 44 44, .int .i64 0]) (by simp [results, Tryz.results177, go_sem]) rfl ⟨_, by rw [HE.out, HN.out, HXX.out]; rfl, .inr ⟨q, ?_, ?_, ?_, ?_⟩, ?_⟩
  · rw [HBB.out, HPL.out]
  · rw [HB.out]; exact HW3.out
  · rw [HBB.out]; exact HR5.out
  · rw [HBB.out, HPL.out]; unfold maxLen; omega
  · rw [HB.out]; exact HB5.out
theorem eF (b : Blk) (B : Nat) (w : World) (HB : Hid (B = w.heap.size)) (T : Tab w) : Calls Tryz.prog 177 #[blk b] w fun e w' => ∃ v, e = .returned (.tuple #[.int .u64 (dt b.toList : Nat), v, .int .i64 (da b.toList : Nat)]) ∧ Bod w' B v (cR b.toList) ∧ Below B w w' := by
  by_cases h0 : cF b.toList = 0
  · exact pget_zero b B w HB T h0
  · by_cases h1 : cF b.toList = agO b.toList
    · by_cases h2 : sumO b.toList = crcO b.toList
      · exact pget_ok b B w HB T h0 h1 h2
      · exact pget_sum b B w HB T h0 h1 h2
    · exact pget_unlike b B w HB T h0 h1
end Go.Proofs.YtcafafdimcecpaaGreatDoor
