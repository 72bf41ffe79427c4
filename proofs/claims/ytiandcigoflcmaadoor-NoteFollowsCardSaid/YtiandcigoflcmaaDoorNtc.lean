/-
  The program's note: a body laid.
-/
import Derived.Test.YtiandcigoflcmaaDoorNtb
import Derived.Test.YtiandcigoflcmaaDoorSpb
namespace Go.Proofs.YtiandcigoflcmaaDoor
open Go.RowKit
set_option linter.unusedVariables false
set_option linter.unusedSimpArgs false
set_option maxRecDepth 100000

/-- The first so many of a note's numbers, as bytes. -/
def preNt (x : Nte) : Nat → List UInt8
  | 0 => []
  | 1 => digL 8 8 x.pos
  | 2 => digL 8 8 x.pos ++ digL 8 2 x.cells.toNat
  | _ => digL 8 8 x.pos ++ digL 8 2 x.cells.toNat ++ digL 8 4 x.sum
theorem preNt_all (x : Nte) : padL (preNt x 3) = fullNt x := by
  unfold fullNt bodyNt preNt
  simp only [List.append_assoc]
theorem preNt_1 (x : Nte) : splice (padL (preNt x 0)) 0 (digL 8 8 x.pos) = padL (preNt x 1) := splice_pad (a := []) (by simp [length_digL])
theorem preNt_2 (x : Nte) : splice (padL (preNt x 1)) 8 (digL 8 2 x.cells.toNat) = padL (preNt x 2) := by
  have := splice_pad (a := preNt x 1) (x := digL 8 2 x.cells.toNat) (by simp [preNt, length_digL])
  rwa [show (preNt x 1).length = 8 from length_digL _ _ _] at this
theorem preNt_3 (x : Nte) : splice (padL (preNt x 2)) 10 (digL 8 4 x.sum) = padL (preNt x 3) := by
  have := splice_pad (a := preNt x 2) (x := digL 8 4 x.sum) (by simp [preNt, length_digL])
  rwa [show (preNt x 2).length = 10 from by simp [preNt, length_digL]] at this
theorem preNt_len (x : Nte) (k : Nat) (hk : k < 4) : (padL (preNt x k)).length = 44 := by
  apply padL_length
  have : k = 0 ∨ k = 1 ∨ k = 2 ∨ k = 3 := by omega
  rcases this with rfl | rfl | rfl | rfl <;> simp [preNt, length_digL]
/-- What stands while a body is laid: the result, the numbers, the body. -/
structure LdNt (B : Nat) (w0 w : World) (r n g a b c : Nat) (l : List UInt8) : Prop where
  res : RowL w r 43 z44
  num : NumAtn w n a b c
  row : RowL w g 43 l
  bel : Below B w0 w
  g0 : B ≤ g
  r0 : B ≤ r
  dif : r ≠ g ∧ n ≠ g
section
variable {B : Nat} {w0 w w' : World} {r n g a b c : Nat} {l l' : List UInt8}
theorem LdNt.keep (h : LdNt B w0 w r n g a b c l) (hb : Below w.heap.size w w') (hB : B ≤ w0.heap.size) : LdNt B w0 w' r n g a b c l :=
  ⟨blk_keep h.res hb, blk_keep h.num hb, blk_keep h.row hb, h.bel.trans (hb.mono (Nat.le_trans hB h.bel.size)), h.g0, h.r0, h.dif⟩
theorem LdNt.step (h : LdNt B w0 w r n g a b c l) (hr : RowL w' g 43 l') (hg : w.grownBy w' (some g)) (hB : B ≤ w0.heap.size) : LdNt B w0 w' r n g a b c l' :=
  ⟨grown_blk h.res hg h.dif.1, grown_blk h.num hg h.dif.2, hr, h.bel.grown hg (Nat.le_trans hB h.bel.size) (fun k hk => by injection hk with e; have := h.g0; omega), h.g0, h.r0, h.dif⟩
end
def pNt : Nat → Nat
  | 0 => 0 | 1 => 8 | 2 => 10 | _ => 14
/-- The loop that lays: so many numbers are laid. -/
def LrNt (B : Nat) (w0 : World) (r n g : Nat) (R : Nat) (x : Nte) (p i : Value) (w : World) : Prop :=
  ∃ k, k < 4 ∧ i = .int .i64 ((k : Nat) : Int) ∧ p = .int .i64 ((pNt k : Nat) : Int) ∧ LdNt B w0 w r n g x.pos R x.sum (padL (preNt x k))
theorem LrNt.four {B : Nat} {w0 w : World} {r n g R : Nat} {x : Nte} {p i : Value} (h : LrNt B w0 r n g R x p i w) :
    (i = .int .i64 0 ∧ p = .int .i64 0 ∧ LdNt B w0 w r n g x.pos R x.sum (padL (preNt x 0))) ∨
    (i = .int .i64 1 ∧ p = .int .i64 8 ∧ LdNt B w0 w r n g x.pos R x.sum (padL (preNt x 1))) ∨
    (i = .int .i64 2 ∧ p = .int .i64 10 ∧ LdNt B w0 w r n g x.pos R x.sum (padL (preNt x 2))) ∨
    (i = .int .i64 3 ∧ p = .int .i64 14 ∧ LdNt B w0 w r n g x.pos R x.sum (padL (preNt x 3))) := by
  obtain ⟨k, hk, rfl, rfl, h⟩ := h
  have : k = 0 ∨ k = 1 ∨ k = 2 ∨ k = 3 := by omega
  rcases this with rfl | rfl | rfl | rfl
  · exact .inl ⟨rfl, rfl, h⟩
  · exact .inr (.inl ⟨rfl, rfl, h⟩)
  · exact .inr (.inr (.inl ⟨rfl, rfl, h⟩))
  · exact .inr (.inr (.inr ⟨rfl, rfl, h⟩))
theorem ldNt_start (w : World) (x : Nte) (R : Nat) : LdNt w.heap.size w ((((w.alloc (.cells (celNt x).toArray 25)).alloc (.cells (vals z44).toArray 43)).alloc (.cells (celNn x.pos R x.sum).toArray 59)).alloc (.cells (vals z44).toArray 43))
    (w.heap.size + 1) (w.heap.size + 1 + 1) (w.heap.size + 1 + 1 + 1) x.pos R x.sum (padL (preNt x 0)) := by
  have h1 := (Below.refl w.heap.size w).alloc (Nat.le_refl _) (.cells (celNt x).toArray 25)
  have h2 := h1.alloc h1.size (.cells (vals z44).toArray 43)
  have h3 := h2.alloc h2.size (.cells (celNn x.pos R x.sum).toArray 59)
  have h4 := h3.alloc h3.size (.cells (vals z44).toArray 43)
  have e1 := World.size_alloc (w := w) (o := Obj.cells (celNt x).toArray 25)
  have r1 := RowL.new (w.alloc (.cells (celNt x).toArray 25)) z44 43
  rw [e1] at r1
  have e2 := World.size_alloc (w := (w.alloc (.cells (celNt x).toArray 25))) (o := Obj.cells (vals z44).toArray 43)
  have n1 : NumAtn (((w.alloc (.cells (celNt x).toArray 25)).alloc (.cells (vals z44).toArray 43)).alloc (.cells (celNn x.pos R x.sum).toArray 59)) ((w.alloc (.cells (celNt x).toArray 25)).alloc (.cells (vals z44).toArray 43)).heap.size x.pos R x.sum := heap_alloc_new _ _
  rw [e2, e1] at n1
  have e3 := World.size_alloc (w := ((w.alloc (.cells (celNt x).toArray 25)).alloc (.cells (vals z44).toArray 43))) (o := Obj.cells (celNn x.pos R x.sum).toArray 59)
  have g1 := RowL.new (((w.alloc (.cells (celNt x).toArray 25)).alloc (.cells (vals z44).toArray 43)).alloc (.cells (celNn x.pos R x.sum).toArray 59)) z44 43
  rw [e3, e2, e1] at g1
  exact ⟨(r1.past _).past _, blk_past n1 _, g1, h4, by omega, by omega, by omega, by omega⟩
set_option maxHeartbeats 4000000 in
theorem pntlaid (x : Nte) (w : World) (S : SizNt w) (hf : x.fit) (hx : nteB x = true) : Calls Tryd.prog 19 #[nte x] w fun e w' => e = .returned (arr (fullNt x)) ∧ Below w.heap.size w w' := by
  obtain ⟨-, -, -, q1, q2⟩ := of_nteB hx
  obtain ⟨f1, f2, f3⟩ := hf
  obtain ⟨R, hR⟩ : ∃ R : Nat, x.cells.toNat = R := ⟨_, rfl⟩
  have hRr : x.cells = (R : Int) := by omega
  have hR32 : R ≤ 32 := by omega
  obtain ⟨h1, h2, h3⟩ := boxNt_new w x
  have HMK := Lib.hid (h1.past (.cells (vals z44).toArray 43))
  have hc1 : ((w.alloc (.cells (celNt x).toArray 25)).alloc (.cells (vals z44).toArray 43)).cell? ⟨w.heap.size, 2, none⟩ = some (.int .i64 (R : Int)) := by rw [← hRr]; exact (h1.past _).cells.2.2.1
  have HC1 := Lib.hid hc1
  have HP1 := Lib.hid (preNt_1 x)
  have HP2 := Lib.hid (preNt_2 x)
  have HP3 := Lib.hid (preNt_3 x)
  have HPA := Lib.hid (preNt_all x)
  rw [hR] at HP2
  have HLEN := fun k hk => Lib.hid (preNt_len x k hk)
  have HST := Lib.hid (ldNt_start w x R)
  have HSZ := Lib.hid (S.below (ldNt_start w x R).bel)
  have HF2 := Lib.hid f2
  have HF3 := Lib.hid f3
  have HFL := Lib.hid (fullNt_length x)
  clear q1 q2 f1 f2 f3 hR hRr h1 h2 h3 hc1 S hx
  go_enter Tryd.func19, Tryd.ntmps19
  go_upto_region 1 with (first | (refine wpList_valn rfl (exec_boxNt rfl rfl) ?_) | (refine wpList_valn rfl (exec_alloc44n rfl) ?_) | fail)
  try simp only [World.size_alloc]
  obtain ⟨-, c1, -, c3⟩ := HMK.out.cells
  have c2 := HC1.out
  go_upto_region 4 with (first | (refine wpList_valn rfl (exec_faNt1 rfl rfl) ?_) | (refine wpList_valn rfl (exec_faNt2 rfl rfl) ?_) | (refine wpList_valn rfl (exec_faNt3 rfl rfl) ?_) | (refine wpList_valn rfl (exec_cv32 rfl rfl HF3.out) ?_) | (refine wpList_valn rfl (exec_bldNn3 x.pos R x.sum rfl rfl rfl rfl) ?_) | (refine wpList_valn rfl (exec_allocNn rfl) ?_) | (refine wpList_nuln rfl (exec_fillNn (a := x.pos) (b := R) (c := x.sum) rfl rfl rfl) ?_) | (refine wpList_valn rfl (exec_alloc44n rfl) ?_) | fail)
  clear c1 c2 c3
  try simp only [World.size_alloc]
  generalize (((w.alloc (.cells (celNt x).toArray 25)).alloc (.cells (vals z44).toArray 43)).alloc (.cells (celNn x.pos R x.sum).toArray 59)).alloc (.cells (vals z44).toArray 43) = w1 at *
  obtain ⟨B, hB⟩ : ∃ B, w.heap.size = B := ⟨_, rfl⟩
  rw [hB] at HST ⊢
  have HBB := Lib.hid hB
  have HB : Hid (B ≤ w.heap.size) := Lib.hid (by omega)
  clear hB HMK HC1
  obtain ⟨r, hr⟩ : ∃ r, B + 1 = r := ⟨_, rfl⟩
  rw [hr] at HST ⊢
  clear hr
  obtain ⟨n, hn⟩ : ∃ n, r + 1 = n := ⟨_, rfl⟩
  rw [hn] at HST ⊢
  clear hn
  obtain ⟨g, hg⟩ : ∃ g, n + 1 = g := ⟨_, rfl⟩
  rw [hg] at HST ⊢
  clear hg
  go_upto_region 5 with (first | (refine wpList_valn rfl (exec_loadZn rfl rfl HSZ.out) ?_) | fail)
  go_loopw [5, 20] (fun p i wr => LrNt B w r n g R x p i wr) (fun _ i _ => 3 - (intOf i).toNat)
  case atStart => exact ⟨0, by omega, rfl, rfl, HST.out⟩
  case round =>
    clear HST
    rcases hrel.four with ⟨rfl, rfl, hl⟩ | ⟨rfl, rfl, hl⟩ | ⟨rfl, rfl, hl⟩ | ⟨rfl, rfl, hl⟩
    · have H0 := Lib.hid hl
      clear hl hrel
      have cc := H0.out.num.cells.1
      go_wp2_with (first | (refine wpList_valn rfl (exec_ixZn0 rfl rfl rfl) ?_) | (refine wpList_valn rfl (exec_ixNn0 rfl rfl rfl) ?_) | fail)
      clear cc
      refine (put_ok x.pos 8 wr (by omega) (by omega) (by have := HF2.out; simpa using this)).mono ?_
      rintro e w2 ⟨v, rfl, hv, hb⟩
      obtain ⟨A, c, rfl, hrd, _, _⟩ := hv.made.open_ (length_digL 8 8 x.pos)
      have H1 := Lib.hid (H0.out.keep hb HB.out)
      have HRD := Lib.hid hrd
      have HW := Lib.hid H1.out.row
      have HLN := HLEN 0 (by omega)
      clear hv hrd hb H0
      go_wp2_with (first | (refine wpList_valn rfl (exec_from44n 0 44 rfl (by omega) rfl rfl rfl) ?_) | (with_reducible refine wpList_copyL rfl _ _ rfl g 0 44 44 8 c _ A 43 (padL (preNt x 0)) (digL 8 8 x.pos) rfl rfl HW.out HRD.out (by omega) (by rw [HLN.out]; omega) ?_) | fail)
      intro w3 hr3 hg3
      rw [HP1.out] at hr3
      have H2 := Lib.hid (H1.out.step hr3 hg3 HB.out)
      clear hr3 hg3 H1 HRD HW
      go_wp2_with fail
      go_roundw
      case rel => exact ⟨1, by omega, rfl, rfl, H2.out⟩
      case measure => simp [intOf]
    · have H0 := Lib.hid hl
      clear hl hrel
      have cc := H0.out.num.cells.2.1
      go_wp2_with (first | (refine wpList_valn rfl (exec_ixZn1 rfl rfl rfl) ?_) | (refine wpList_valn rfl (exec_ixNn1 rfl rfl rfl) ?_) | fail)
      clear cc
      refine (put_ok R 2 wr (by omega) (by omega) (by omega)).mono ?_
      rintro e w2 ⟨v, rfl, hv, hb⟩
      obtain ⟨A, c, rfl, hrd, _, _⟩ := hv.made.open_ (length_digL 8 2 R)
      have H1 := Lib.hid (H0.out.keep hb HB.out)
      have HRD := Lib.hid hrd
      have HW := Lib.hid H1.out.row
      have HLN := HLEN 1 (by omega)
      clear hv hrd hb H0
      go_wp2_with (first | (refine wpList_valn rfl (exec_from44n 8 36 rfl (by omega) rfl rfl rfl) ?_) | (with_reducible refine wpList_copyL rfl _ _ rfl g 8 36 36 2 c _ A 43 (padL (preNt x 1)) (digL 8 2 R) rfl rfl HW.out HRD.out (by omega) (by rw [HLN.out]; omega) ?_) | fail)
      intro w3 hr3 hg3
      rw [HP2.out] at hr3
      have H2 := Lib.hid (H1.out.step hr3 hg3 HB.out)
      clear hr3 hg3 H1 HRD HW
      go_wp2_with fail
      go_roundw
      case rel => exact ⟨2, by omega, rfl, rfl, H2.out⟩
      case measure => simp [intOf]
    · have H0 := Lib.hid hl
      clear hl hrel
      have cc := H0.out.num.cells.2.2
      go_wp2_with (first | (refine wpList_valn rfl (exec_ixZn2 rfl rfl rfl) ?_) | (refine wpList_valn rfl (exec_ixNn2 rfl rfl rfl) ?_) | fail)
      clear cc
      refine (put_ok x.sum 4 wr (by omega) (by omega) (by have := HF3.out; simpa using this)).mono ?_
      rintro e w2 ⟨v, rfl, hv, hb⟩
      obtain ⟨A, c, rfl, hrd, _, _⟩ := hv.made.open_ (length_digL 8 4 x.sum)
      have H1 := Lib.hid (H0.out.keep hb HB.out)
      have HRD := Lib.hid hrd
      have HW := Lib.hid H1.out.row
      have HLN := HLEN 2 (by omega)
      clear hv hrd hb H0
      go_wp2_with (first | (refine wpList_valn rfl (exec_from44n 10 34 rfl (by omega) rfl rfl rfl) ?_) | (with_reducible refine wpList_copyL rfl _ _ rfl g 10 34 34 4 c _ A 43 (padL (preNt x 2)) (digL 8 4 x.sum) rfl rfl HW.out HRD.out (by omega) (by rw [HLN.out]; omega) ?_) | fail)
      intro w3 hr3 hg3
      rw [HP3.out] at hr3
      have H2 := Lib.hid (H1.out.step hr3 hg3 HB.out)
      clear hr3 hg3 H1 HRD HW
      go_wp2_with fail
      go_roundw
      case rel => exact ⟨3, by omega, rfl, rfl, H2.out⟩
      case measure => simp [intOf]
    · have H0 := Lib.hid hl
      clear hl hrel
      have HLD : Hid (wr.rangeAt g 0 (vals (fullNt x))) := Lib.hid (by rw [← HPA.out]; exact rng_at H0.out.row)
      have HTH := Lib.hid (there_at (o := 0) (n := 44) H0.out.res (by rw [vals_length, z44_length]; omega))
      go_wp2_with (first | (refine wpList_valn rfl (exec_load44n (l := fullNt x) HFL.out rfl rfl ?_) ?_; (with_reducible exact HLD.out)) | (refine wpList_nuln rfl (exec_put44n (l := fullNt x) HFL.out rfl rfl rfl ?_) ?_; (with_reducible exact HTH.out)) | fail)
      refine bodyPost_ret (res_rng (t := 43) (cs := vals (fullNt x)) rfl _ _ r rfl ?h1 Tryd.underlying43 rfl ?h2) rfl ⟨rfl, ?h3⟩
      case h1 => exact World.rangeAt_setCells_same _ _ _ _ (by rw [vals_length, HFL.out]; exact HTH.out)
      case h2 => rw [vals_length, HFL.out]; exact size44n
      case h3 => rw [HBB.out]; exact below_setCells H0.out.bel H0.out.r0 _
end Go.Proofs.YtiandcigoflcmaaDoor
