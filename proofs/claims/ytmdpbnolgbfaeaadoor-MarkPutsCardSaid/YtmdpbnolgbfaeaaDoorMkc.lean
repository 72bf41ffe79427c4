/-
  The program's mark: a body laid.
-/
import Derived.Test.YtmdpbnolgbfaeaaDoorMkb
namespace Go.Proofs.YtmdpbnolgbfaeaaDoor
open Go.RowKit
set_option linter.unusedVariables false
set_option linter.unusedSimpArgs false
set_option maxRecDepth 100000

/-! ### Laying -/
/-- The first so many of a mark's numbers, as bytes. -/
def preM (x : Mrk) : Nat → List UInt8
  | 0 => []
  | 1 => digL 8 8 x.id
  | 2 => digL 8 8 x.id ++ digL 8 2 x.ring.toNat
  | 3 => digL 8 8 x.id ++ digL 8 2 x.ring.toNat ++ digL 8 8 x.first
  | _ => digL 8 8 x.id ++ digL 8 2 x.ring.toNat ++ digL 8 8 x.first ++ digL 8 8 x.pos
theorem preM_all (x : Mrk) : padL (preM x 4) = fullM x := by
  unfold fullM bodyM preM
  simp only [List.append_assoc]
theorem preM_1 (x : Mrk) : splice (padL (preM x 0)) 0 (digL 8 8 x.id) = padL (preM x 1) := splice_pad (a := []) (by simp [length_digL])
theorem preM_2 (x : Mrk) : splice (padL (preM x 1)) 8 (digL 8 2 x.ring.toNat) = padL (preM x 2) := by
  have := splice_pad (a := preM x 1) (x := digL 8 2 x.ring.toNat) (by simp [preM, length_digL])
  rwa [show (preM x 1).length = 8 from length_digL _ _ _] at this
theorem preM_3 (x : Mrk) : splice (padL (preM x 2)) 10 (digL 8 8 x.first) = padL (preM x 3) := by
  have := splice_pad (a := preM x 2) (x := digL 8 8 x.first) (by simp [preM, length_digL])
  rwa [show (preM x 2).length = 10 from by simp [preM, length_digL]] at this
theorem preM_4 (x : Mrk) : splice (padL (preM x 3)) 18 (digL 8 8 x.pos) = padL (preM x 4) := by
  have := splice_pad (a := preM x 3) (x := digL 8 8 x.pos) (by simp [preM, length_digL])
  rwa [show (preM x 3).length = 18 from by simp [preM, length_digL]] at this
theorem preM_len (x : Mrk) (k : Nat) (hk : k < 5) : (padL (preM x k)).length = 44 := by
  apply padL_length
  have : k = 0 ∨ k = 1 ∨ k = 2 ∨ k = 3 ∨ k = 4 := by omega
  rcases this with rfl | rfl | rfl | rfl | rfl <;> simp [preM, length_digL]
/-- What stands while a body is laid: the result, the numbers, the body. -/
structure LdM (B : Nat) (w0 w : World) (r n g a b c d : Nat) (l : List UInt8) : Prop where
  res : RowL w r 44 z44
  num : NumAt w n a b c d
  row : RowL w g 44 l
  bel : Below B w0 w
  g0 : B ≤ g
  r0 : B ≤ r
  dif : r ≠ g ∧ n ≠ g
section
variable {B : Nat} {w0 w w' : World} {r n g a b c d : Nat} {l l' : List UInt8}
theorem LdM.keep (h : LdM B w0 w r n g a b c d l) (hb : Below w.heap.size w w') (hB : B ≤ w0.heap.size) : LdM B w0 w' r n g a b c d l :=
  ⟨blk_keep h.res hb, blk_keep h.num hb, blk_keep h.row hb, h.bel.trans (hb.mono (Nat.le_trans hB h.bel.size)), h.g0, h.r0, h.dif⟩
theorem LdM.step (h : LdM B w0 w r n g a b c d l) (hr : RowL w' g 44 l') (hg : w.grownBy w' (some g)) (hB : B ≤ w0.heap.size) : LdM B w0 w' r n g a b c d l' :=
  ⟨grown_blk h.res hg h.dif.1, grown_blk h.num hg h.dif.2, hr, h.bel.grown hg (Nat.le_trans hB h.bel.size) (fun k hk => by injection hk with e; have := h.g0; omega), h.g0, h.r0, h.dif⟩
end
def pM : Nat → Nat
  | 0 => 0 | 1 => 8 | 2 => 10 | 3 => 18 | _ => 26
/-- The loop that lays: so many numbers are laid. -/
def LrM (B : Nat) (w0 : World) (r n g : Nat) (R : Nat) (x : Mrk) (p i : Value) (w : World) : Prop :=
  ∃ k, k < 5 ∧ i = .int .i64 ((k : Nat) : Int) ∧ p = .int .i64 ((pM k : Nat) : Int) ∧ LdM B w0 w r n g x.id R x.first x.pos (padL (preM x k))
theorem LrM.five {B : Nat} {w0 w : World} {r n g R : Nat} {x : Mrk} {p i : Value} (h : LrM B w0 r n g R x p i w) :
    (i = .int .i64 0 ∧ p = .int .i64 0 ∧ LdM B w0 w r n g x.id R x.first x.pos (padL (preM x 0))) ∨ (i = .int .i64 1 ∧ p = .int .i64 8 ∧ LdM B w0 w r n g x.id R x.first x.pos (padL (preM x 1))) ∨
    (i = .int .i64 2 ∧ p = .int .i64 10 ∧ LdM B w0 w r n g x.id R x.first x.pos (padL (preM x 2))) ∨ (i = .int .i64 3 ∧ p = .int .i64 18 ∧ LdM B w0 w r n g x.id R x.first x.pos (padL (preM x 3))) ∨
    (i = .int .i64 4 ∧ p = .int .i64 26 ∧ LdM B w0 w r n g x.id R x.first x.pos (padL (preM x 4))) := by
  obtain ⟨k, hk, rfl, rfl, h⟩ := h
  have : k = 0 ∨ k = 1 ∨ k = 2 ∨ k = 3 ∨ k = 4 := by omega
  rcases this with rfl | rfl | rfl | rfl | rfl
  · exact .inl ⟨rfl, rfl, h⟩
  · exact .inr (.inl ⟨rfl, rfl, h⟩)
  · exact .inr (.inr (.inl ⟨rfl, rfl, h⟩))
  · exact .inr (.inr (.inr (.inl ⟨rfl, rfl, h⟩)))
  · exact .inr (.inr (.inr (.inr ⟨rfl, rfl, h⟩)))
theorem ldM_start (w : World) (x : Mrk) (R : Nat) : LdM w.heap.size w ((((w.alloc (.cells (celM x).toArray 24)).alloc (.cells (vals z44).toArray 44)).alloc (.cells (celN x.id R x.first x.pos).toArray 60)).alloc (.cells (vals z44).toArray 44))
    (w.heap.size + 1) (w.heap.size + 1 + 1) (w.heap.size + 1 + 1 + 1) x.id R x.first x.pos (padL (preM x 0)) := by
  have h1 := (Below.refl w.heap.size w).alloc (Nat.le_refl _) (.cells (celM x).toArray 24)
  have h2 := h1.alloc h1.size (.cells (vals z44).toArray 44)
  have h3 := h2.alloc h2.size (.cells (celN x.id R x.first x.pos).toArray 60)
  have h4 := h3.alloc h3.size (.cells (vals z44).toArray 44)
  have e1 := World.size_alloc (w := w) (o := Obj.cells (celM x).toArray 24)
  have r1 := RowL.new (w.alloc (.cells (celM x).toArray 24)) z44 44
  rw [e1] at r1
  have e2 := World.size_alloc (w := w.alloc (.cells (celM x).toArray 24)) (o := Obj.cells (vals z44).toArray 44)
  have n1 : NumAt (((w.alloc (.cells (celM x).toArray 24)).alloc (.cells (vals z44).toArray 44)).alloc (.cells (celN x.id R x.first x.pos).toArray 60)) ((w.alloc (.cells (celM x).toArray 24)).alloc (.cells (vals z44).toArray 44)).heap.size x.id R x.first x.pos := heap_alloc_new _ _
  rw [e2, e1] at n1
  have e3 := World.size_alloc (w := (w.alloc (.cells (celM x).toArray 24)).alloc (.cells (vals z44).toArray 44)) (o := Obj.cells (celN x.id R x.first x.pos).toArray 60)
  have g1 := RowL.new (((w.alloc (.cells (celM x).toArray 24)).alloc (.cells (vals z44).toArray 44)).alloc (.cells (celN x.id R x.first x.pos).toArray 60)) z44 44
  rw [e3, e2, e1] at g1
  exact ⟨(r1.past _).past _, blk_past n1 _, g1, h4, by omega, by omega, by omega, by omega⟩
set_option maxHeartbeats 4000000 in
theorem pmlaid (x : Mrk) (w : World) (S : Siz w) (hf : x.fit) (hx : mrkB x = true) : Calls Tryd.prog 20 #[mrk x] w fun e w' => e = .returned (arr (fullM x)) ∧ Below w.heap.size w w' := by
  obtain ⟨-, q1, q2, -, -, -⟩ := of_mrkB hx
  obtain ⟨f1, f2, f3⟩ := hf
  obtain ⟨R, hR⟩ : ∃ R : Nat, x.ring.toNat = R := ⟨_, rfl⟩
  have hRr : x.ring = (R : Int) := by omega
  have hR256 : R ≤ 256 := by omega
  obtain ⟨h1, h2, h3⟩ := boxM_new w x
  have HMK := Lib.hid (h1.past (.cells (vals z44).toArray 44))
  have hc1 : ((w.alloc (.cells (celM x).toArray 24)).alloc (.cells (vals z44).toArray 44)).cell? ⟨w.heap.size, 1, none⟩ = some (.int .i64 (R : Int)) := by rw [← hRr]; exact (h1.past _).cells.2.1
  have HC1 := Lib.hid hc1
  have HP1 := Lib.hid (preM_1 x)
  have HP2 := Lib.hid (preM_2 x)
  have HP3 := Lib.hid (preM_3 x)
  have HP4 := Lib.hid (preM_4 x)
  have HPA := Lib.hid (preM_all x)
  rw [hR] at HP2
  have HLEN := fun k hk => Lib.hid (preM_len x k hk)
  have HST := Lib.hid (ldM_start w x R)
  have HSZ := Lib.hid (S.below (ldM_start w x R).bel)
  have HF1 := Lib.hid f1
  have HF2 := Lib.hid f2
  have HF3 := Lib.hid f3
  have HFL := Lib.hid (fullM_length x)
  clear q1 q2 f1 f2 f3 hR hRr h1 h2 h3 hc1 S hx
  go_enter Tryd.func20, Tryd.ntmps20
  go_upto_region 1 with (first | (refine wpList_valn rfl (exec_boxM rfl rfl) ?_) | (refine wpList_valn rfl (exec_alloc44m rfl) ?_) | fail)
  try simp only [World.size_alloc]
  obtain ⟨c0, -, c2, c3⟩ := HMK.out.cells
  have c1 := HC1.out
  go_upto_region 4 with (first | (refine wpList_valn rfl (exec_faM0 rfl rfl) ?_) | (refine wpList_valn rfl (exec_faM1 rfl rfl) ?_) | (refine wpList_valn rfl (exec_faM2 rfl rfl) ?_) | (refine wpList_valn rfl (exec_faM3 rfl rfl) ?_) | (refine wpList_valn rfl (exec_bldN4 x.id R x.first x.pos rfl rfl rfl rfl rfl) ?_) | (refine wpList_valn rfl (exec_allocN rfl) ?_) | (refine wpList_nuln rfl (exec_fillNm (a := x.id) (b := R) (c := x.first) (d := x.pos) rfl rfl rfl) ?_) | (refine wpList_valn rfl (exec_alloc44m rfl) ?_) | fail)
  clear c0 c1 c2 c3
  try simp only [World.size_alloc]
  generalize (((w.alloc (.cells (celM x).toArray 24)).alloc (.cells (vals z44).toArray 44)).alloc (.cells (celN x.id R x.first x.pos).toArray 60)).alloc (.cells (vals z44).toArray 44) = w1 at *
  obtain ⟨B, hB⟩ : ∃ B, w.heap.size = B := ⟨_, rfl⟩
  rw [hB] at HST ⊢
  have HBB := Lib.hid hB
  have HB : Hid (B ≤ w.heap.size) := Lib.hid (by omega)
  clear hB HMK HC1
  obtain ⟨r, hr⟩ : ∃ r, B + 1 = r := ⟨_, rfl⟩
  rw [hr] at HST ⊢
  clear hr
  obtain ⟨n, hn⟩ : ∃ n, r + 1 = n := ⟨_, rfl⟩
  rw [hn] at HST ⊢
  clear hn
  obtain ⟨g, hg⟩ : ∃ g, n + 1 = g := ⟨_, rfl⟩
  rw [hg] at HST ⊢
  clear hg
  go_upto_region 5 with (first | (refine wpList_valn rfl (exec_loadZ rfl rfl HSZ.out) ?_) | fail)
  go_loopw [5, 21] (fun p i wr => LrM B w r n g R x p i wr) (fun _ i _ => 4 - (intOf i).toNat)
  case atStart => exact ⟨0, by omega, rfl, rfl, HST.out⟩
  case round =>
    clear HST
    rcases hrel.five with ⟨rfl, rfl, hl⟩ | ⟨rfl, rfl, hl⟩ | ⟨rfl, rfl, hl⟩ | ⟨rfl, rfl, hl⟩ | ⟨rfl, rfl, hl⟩
    · have H0 := Lib.hid hl
      clear hl hrel
      have cc := H0.out.num.cells.1
      go_wp2_with (first | (refine wpList_valn rfl (exec_ixZ0 rfl rfl rfl) ?_) | (refine wpList_valn rfl (exec_ixN0 rfl rfl rfl) ?_) | fail)
      clear cc
      refine (put_ok x.id 8 wr (by omega) (by omega) (by have := HF1.out; simpa using this)).mono ?_
      rintro e w2 ⟨v, rfl, hv, hb⟩
      obtain ⟨A, c, rfl, hrd, _, _⟩ := hv.made.open_ (length_digL 8 8 x.id)
      have H1 := Lib.hid (H0.out.keep hb HB.out)
      have HRD := Lib.hid hrd
      have HW := Lib.hid H1.out.row
      have HLN := HLEN 0 (by omega)
      clear hv hrd hb H0
      go_wp2_with (first | (refine wpList_valn rfl (exec_from44m 0 44 rfl (by omega) rfl rfl rfl) ?_) | (with_reducible refine wpList_copyL rfl _ _ rfl g 0 44 44 8 c _ A 44 (padL (preM x 0)) (digL 8 8 x.id) rfl rfl HW.out HRD.out (by omega) (by rw [HLN.out]; omega) ?_) | fail)
      intro w3 hr3 hg3
      rw [HP1.out] at hr3
      have H2 := Lib.hid (H1.out.step hr3 hg3 HB.out)
      clear hr3 hg3 H1 HRD HW
      go_wp2_with fail
      go_roundw
      case rel => exact ⟨1, by omega, rfl, rfl, H2.out⟩
      case measure => simp [intOf]
    · have H0 := Lib.hid hl
      clear hl hrel
      have cc := H0.out.num.cells.2.1
      go_wp2_with (first | (refine wpList_valn rfl (exec_ixZ1 rfl rfl rfl) ?_) | (refine wpList_valn rfl (exec_ixN1 rfl rfl rfl) ?_) | fail)
      clear cc
      refine (put_ok R 2 wr (by omega) (by omega) (by omega)).mono ?_
      rintro e w2 ⟨v, rfl, hv, hb⟩
      obtain ⟨A, c, rfl, hrd, _, _⟩ := hv.made.open_ (length_digL 8 2 R)
      have H1 := Lib.hid (H0.out.keep hb HB.out)
      have HRD := Lib.hid hrd
      have HW := Lib.hid H1.out.row
      have HLN := HLEN 1 (by omega)
      clear hv hrd hb H0
      go_wp2_with (first | (refine wpList_valn rfl (exec_from44m 8 36 rfl (by omega) rfl rfl rfl) ?_) | (with_reducible refine wpList_copyL rfl _ _ rfl g 8 36 36 2 c _ A 44 (padL (preM x 1)) (digL 8 2 R) rfl rfl HW.out HRD.out (by omega) (by rw [HLN.out]; omega) ?_) | fail)
      intro w3 hr3 hg3
      rw [HP2.out] at hr3
      have H2 := Lib.hid (H1.out.step hr3 hg3 HB.out)
      clear hr3 hg3 H1 HRD HW
      go_wp2_with fail
      go_roundw
      case rel => exact ⟨2, by omega, rfl, rfl, H2.out⟩
      case measure => simp [intOf]
    · have H0 := Lib.hid hl
      clear hl hrel
      have cc := H0.out.num.cells.2.2.1
      go_wp2_with (first | (refine wpList_valn rfl (exec_ixZ2 rfl rfl rfl) ?_) | (refine wpList_valn rfl (exec_ixN2 rfl rfl rfl) ?_) | fail)
      clear cc
      refine (put_ok x.first 8 wr (by omega) (by omega) (by have := HF2.out; simpa using this)).mono ?_
      rintro e w2 ⟨v, rfl, hv, hb⟩
      obtain ⟨A, c, rfl, hrd, _, _⟩ := hv.made.open_ (length_digL 8 8 x.first)
      have H1 := Lib.hid (H0.out.keep hb HB.out)
      have HRD := Lib.hid hrd
      have HW := Lib.hid H1.out.row
      have HLN := HLEN 2 (by omega)
      clear hv hrd hb H0
      go_wp2_with (first | (refine wpList_valn rfl (exec_from44m 10 34 rfl (by omega) rfl rfl rfl) ?_) | (with_reducible refine wpList_copyL rfl _ _ rfl g 10 34 34 8 c _ A 44 (padL (preM x 2)) (digL 8 8 x.first) rfl rfl HW.out HRD.out (by omega) (by rw [HLN.out]; omega) ?_) | fail)
      intro w3 hr3 hg3
      rw [HP3.out] at hr3
      have H2 := Lib.hid (H1.out.step hr3 hg3 HB.out)
      clear hr3 hg3 H1 HRD HW
      go_wp2_with fail
      go_roundw
      case rel => exact ⟨3, by omega, rfl, rfl, H2.out⟩
      case measure => simp [intOf]
    · have H0 := Lib.hid hl
      clear hl hrel
      have cc := H0.out.num.cells.2.2.2
      go_wp2_with (first | (refine wpList_valn rfl (exec_ixZ3 rfl rfl rfl) ?_) | (refine wpList_valn rfl (exec_ixN3 rfl rfl rfl) ?_) | fail)
      clear cc
      refine (put_ok x.pos 8 wr (by omega) (by omega) (by have := HF3.out; simpa using this)).mono ?_
      rintro e w2 ⟨v, rfl, hv, hb⟩
      obtain ⟨A, c, rfl, hrd, _, _⟩ := hv.made.open_ (length_digL 8 8 x.pos)
      have H1 := Lib.hid (H0.out.keep hb HB.out)
      have HRD := Lib.hid hrd
      have HW := Lib.hid H1.out.row
      have HLN := HLEN 3 (by omega)
      clear hv hrd hb H0
      go_wp2_with (first | (refine wpList_valn rfl (exec_from44m 18 26 rfl (by omega) rfl rfl rfl) ?_) | (with_reducible refine wpList_copyL rfl _ _ rfl g 18 26 26 8 c _ A 44 (padL (preM x 3)) (digL 8 8 x.pos) rfl rfl HW.out HRD.out (by omega) (by rw [HLN.out]; omega) ?_) | fail)
      intro w3 hr3 hg3
      rw [HP4.out] at hr3
      have H2 := Lib.hid (H1.out.step hr3 hg3 HB.out)
      clear hr3 hg3 H1 HRD HW
      go_wp2_with fail
      go_roundw
      case rel => exact ⟨4, by omega, rfl, rfl, H2.out⟩
      case measure => simp [intOf]
    · have H0 := Lib.hid hl
      clear hl hrel
      have HLD : Hid (wr.rangeAt g 0 (vals (fullM x))) := Lib.hid (by rw [← HPA.out]; exact rng_at H0.out.row)
      have HTH := Lib.hid (there_at (o := 0) (n := 44) H0.out.res (by rw [vals_length, z44_length]; omega))
      go_wp2_with (first | (refine wpList_valn rfl (exec_load44m (l := fullM x) HFL.out rfl rfl ?_) ?_; (with_reducible exact HLD.out)) | (refine wpList_nuln rfl (exec_put44m (l := fullM x) HFL.out rfl rfl rfl ?_) ?_; (with_reducible exact HTH.out)) | fail)
      refine bodyPost_ret (res_rng (t := 44) (cs := vals (fullM x)) rfl _ _ r rfl ?h1 Tryd.underlying44 rfl ?h2) rfl ⟨rfl, ?h3⟩
      case h1 => exact World.rangeAt_setCells_same _ _ _ _ (by rw [vals_length, HFL.out]; exact HTH.out)
      case h2 => rw [vals_length, HFL.out]; exact size44m
      case h3 => rw [HBB.out]; exact below_setCells H0.out.bel H0.out.r0 _
end Go.Proofs.YtmdpbnolgbfaeaaDoor
