import Derived.Test.YtbbcdhkinbmdnaaGreatDoorLoao
import Derived.Test.YtbbcdhkinbmdnaaGreatDoorLoae
import Derived.Test.YtbbcdhkinbmdnaaGreatDoorLoZ
namespace Go.Proofs.YtbbcdhkinbmdnaaGreatDoor
open Go.RowKit
set_option linter.unusedVariables false
set_option linter.unusedSimpArgs false
set_option maxRecDepth 100000
def preM (x : Mrk) : Nat → List UInt8
 | 0 => []
 | 1 => aX 8 8 x.id
 | 2 => aX 8 8 x.id ++ aX 8 2 x.ring.toNat
 | 3 => aX 8 8 x.id ++ aX 8 2 x.ring.toNat ++ aX 8 8 x.first
 | _ => aX 8 8 x.id ++ aX 8 2 x.ring.toNat ++ aX 8 8 x.first ++ aX 8 8 x.pos
theorem preM_all (x : Mrk) : cy (preM x 4) = cW x := by
 unfold cW eh preM
 simp only [List.append_assoc]
theorem preM_1 (x : Mrk) : splice (cy (preM x 0)) 0 (aX 8 8 x.id) = cy (preM x 1) := eH (a := []) (by simp [ay])
theorem preM_2 (x : Mrk) : splice (cy (preM x 1)) 8 (aX 8 2 x.ring.toNat) = cy (preM x 2) := by
 have := eH (a := preM x 1) (x := aX 8 2 x.ring.toNat) (by simp [preM, ay])
 rwa [show (preM x 1).length = 8 from ay _ _ _] at this
theorem preM_3 (x : Mrk) : splice (cy (preM x 2)) 10 (aX 8 8 x.first) = cy (preM x 3) := by
 have := eH (a := preM x 2) (x := aX 8 8 x.first) (by simp [preM, ay])
 rwa [show (preM x 2).length = 10 from by simp [preM, ay]] at this
theorem preM_4 (x : Mrk) : splice (cy (preM x 3)) 18 (aX 8 8 x.pos) = cy (preM x 4) := by
 have := eH (a := preM x 3) (x := aX 8 8 x.pos) (by simp [preM, ay])
 rwa [show (preM x 3).length = 18 from by simp [preM, ay]] at this
theorem preM_len (x : Mrk) (k : Nat) (hk : k < 5) : (cy (preM x k)).length = 44 := by
 apply cT
 have : k = 0 ∨ k = 1 ∨ k = 2 ∨ k = 3 ∨ k = 4 := by omega
 rcases this with rfl | rfl | rfl | rfl | rfl <;> simp [preM, ay]
structure LdM (B : Nat) (w0 w : World) (r n g a b c d : Nat) (l : List UInt8) : Prop where
 res : bR w r 179 z44
 num : NumAt w n a b c d
 row : bR w g 179 l
 bel : Below B w0 w
 g0 : B ≤ g
 r0 : B ≤ r
 dif : r ≠ g ∧ n ≠ g
section
variable {B : Nat} {w0 w w' : World} {r n g a b c d : Nat} {l l' : List UInt8}
theorem LdM.keep (h : LdM B w0 w r n g a b c d l) (hb : Below w.heap.size w w') (hB : B ≤ w0.heap.size) : LdM B w0 w' r n g a b c d l :=
 ⟨cj h.res hb, cj h.num hb, cj h.row hb, h.bel.trans (hb.mono (Nat.le_trans hB h.bel.size)), h.g0, h.r0, h.dif⟩
theorem LdM.step (h : LdM B w0 w r n g a b c d l) (hr : bR w' g 179 l') (hg : w.grownBy w' (some g)) (hB : B ≤ w0.heap.size) : LdM B w0 w' r n g a b c d l' :=
 ⟨fm h.res hg h.dif.1, fm h.num hg h.dif.2, hr, h.bel.grown hg (Nat.le_trans hB h.bel.size) (fun k hk => by injection hk with e; have := h.g0; omega), h.g0, h.r0, h.dif⟩
end
def pM : Nat → Nat
 | 0 => 0 | 1 => 8 | 2 => 10 | 3 => 18 | _ => 26
def LrM (B : Nat) (w0 : World) (r n g : Nat) (R : Nat) (x : Mrk) (p i : Value) (w : World) : Prop :=
 ∃ k, k < 5 ∧ i = .int .i64 ((k : Nat) : Int) ∧ p = .int .i64 ((pM k : Nat) : Int) ∧ LdM B w0 w r n g x.id R x.first x.pos (cy (preM x k))
theorem LrM.five {B : Nat} {w0 w : World} {r n g R : Nat} {x : Mrk} {p i : Value} (h : LrM B w0 r n g R x p i w) :
  (i = .int .i64 0 ∧ p = .int .i64 0 ∧ LdM B w0 w r n g x.id R x.first x.pos (cy (preM x 0))) ∨ (i = .int .i64 1 ∧ p = .int .i64 8 ∧ LdM B w0 w r n g x.id R x.first x.pos (cy (preM x 1))) ∨
  (i = .int .i64 2 ∧ p = .int .i64 10 ∧ LdM B w0 w r n g x.id R x.first x.pos (cy (preM x 2))) ∨ (i = .int .i64 3 ∧ p = .int .i64 18 ∧ LdM B w0 w r n g x.id R x.first x.pos (cy (preM x 3))) ∨
  (i = .int .i64 4 ∧ p = .int .i64 26 ∧ LdM B w0 w r n g x.id R x.first x.pos (cy (preM x 4))) := by
 obtain ⟨k, hk, rfl, rfl, h⟩ := h
 have : k = 0 ∨ k = 1 ∨ k = 2 ∨ k = 3 ∨ k = 4 := by omega
 rcases this with rfl | rfl | rfl | rfl | rfl
 ·exact .inl ⟨rfl, rfl, h⟩
 ·exact .inr (.inl ⟨rfl, rfl, h⟩)
 ·exact .inr (.inr (.inl ⟨rfl, rfl, h⟩))
 ·exact .inr (.inr (.inr (.inl ⟨rfl, rfl, h⟩)))
 ·exact .inr (.inr (.inr (.inr ⟨rfl, rfl, h⟩)))
theorem ldM_start (w : World) (x : Mrk) (R : Nat) : LdM w.heap.size w ((((w.alloc (.cells (a8 x).toArray 32)).alloc (.cells (vals z44).toArray 179)).alloc (.cells (celN x.id R x.first x.pos).toArray 197)).alloc (.cells (vals z44).toArray 179))
  (w.heap.size + 1) (w.heap.size + 1 + 1) (w.heap.size + 1 + 1 + 1) x.id R x.first x.pos (cy (preM x 0)) := by
 have h1 := (Below.refl w.heap.size w).alloc (Nat.le_refl _) (.cells (a8 x).toArray 32)
 have h2 := h1.alloc h1.size (.cells (vals z44).toArray 179)
 have h3 := h2.alloc h2.size (.cells (celN x.id R x.first x.pos).toArray 197)
 have h4 := h3.alloc h3.size (.cells (vals z44).toArray 179)
 have e1 := World.size_alloc (w := w) (o := Obj.cells (a8 x).toArray 32)
 have r1 := bR.new (w.alloc (.cells (a8 x).toArray 32)) z44 179
 rw [e1] at r1
 have e2 := World.size_alloc (w := w.alloc (.cells (a8 x).toArray 32)) (o := Obj.cells (vals z44).toArray 179)
 have n1 : NumAt (((w.alloc (.cells (a8 x).toArray 32)).alloc (.cells (vals z44).toArray 179)).alloc (.cells (celN x.id R x.first x.pos).toArray 197)) ((w.alloc (.cells (a8 x).toArray 32)).alloc (.cells (vals z44).toArray 179)).heap.size x.id R x.first x.pos := heap_alloc_new _ _
 rw [e2, e1] at n1
 have e3 := World.size_alloc (w := (w.alloc (.cells (a8 x).toArray 32)).alloc (.cells (vals z44).toArray 179)) (o := Obj.cells (celN x.id R x.first x.pos).toArray 197)
 have g1 := bR.new (((w.alloc (.cells (a8 x).toArray 32)).alloc (.cells (vals z44).toArray 179)).alloc (.cells (celN x.id R x.first x.pos).toArray 197)) z44 179
 rw [e3, e2, e1] at g1
 exact ⟨(r1.past _).past _, bU n1 _, g1, h4, by omega, by omega, by omega, by omega⟩
set_option maxHeartbeats 4000000 in
theorem pmlaid (x : Mrk) (w : World) (S : Siz w) (hf : x.fit) (hx : dq x = true) : Calls Tryz.prog 144 #[mrk x] w fun e w' => e = .returned (arr (cW x)) ∧ Below w.heap.size w w' := by
 obtain ⟨-, q1, q2, -, -, -⟩ := of_mrkB hx
 obtain ⟨f1, f2, f3⟩ := hf
 obtain ⟨R, hR⟩ : ∃ R : Nat, x.ring.toNat = R := ⟨_, rfl⟩
 have hRr : x.ring = (R : Int) := by omega
 have hR256 : R ≤ 256 := by omega
 obtain ⟨h1, h2, h3⟩ := eZ w x
 have HMK := af (h1.past (.cells (vals z44).toArray 179))
 have hc1 : ((w.alloc (.cells (a8 x).toArray 32)).alloc (.cells (vals z44).toArray 179)).cell? ⟨w.heap.size, 1, none⟩ = some (.int .i64 (R : Int)) := by rw [← hRr]; exact (h1.past _).cells.2.1
 have HC1 := af hc1
 have HP1 := af (preM_1 x)
 have HP2 := af (preM_2 x)
 have HP3 := af (preM_3 x)
 have HP4 := af (preM_4 x)
 have HPA := af (preM_all x)
 rw [hR] at HP2
 have HLEN := fun k hk => af (preM_len x k hk)
 have HST := af (ldM_start w x R)
 have HSZ := af (S.below (ldM_start w x R).bel)
 have HF1 := af f1
 have HF2 := af f2
 have HF3 := af f3
 have HFL := af (dw x)
 clear q1 q2 f1 f2 f3 hR hRr h1 h2 h3 hc1 S hx
 go_enter Tryz.func144, Tryz.ntmps144
 go_upto_region 1 with (first | (refine ai rfl (fk rfl rfl) ?_) | (refine ai rfl (gp rfl) ?_) | fail)
 try simp only [World.size_alloc]
 obtain ⟨c0, -, c2, c3⟩ := HMK.out.cells
 have c1 := HC1.out
 go_upto_region 4 with (first | (refine ai rfl (exec_faM0 rfl rfl) ?_) | (refine ai rfl (exec_faM1 rfl rfl) ?_) | (refine ai rfl (exec_faM2 rfl rfl) ?_) | (refine ai rfl (exec_faM3 rfl rfl) ?_) | (refine ai rfl (exec_bldN4 x.id R x.first x.pos rfl rfl rfl rfl rfl) ?_) | (refine ai rfl (exec_allocN rfl) ?_) | (refine az rfl (exec_fillNm (a := x.id) (b := R) (c := x.first) (d := x.pos) rfl rfl rfl) ?_) | (refine ai rfl (gp rfl) ?_) | fail)
 clear c0 c1 c2 c3
 try simp only [World.size_alloc]
 generalize (((w.alloc (.cells (a8 x).toArray 32)).alloc (.cells (vals z44).toArray 179)).alloc (.cells (celN x.id R x.first x.pos).toArray 197)).alloc (.cells (vals z44).toArray 179) = w1 at *
 obtain ⟨B, hB⟩ : ∃ B, w.heap.size = B := ⟨_, rfl⟩
 rw [hB] at HST ⊢
 have HBB := af hB
 have HB : Hid (B ≤ w.heap.size) := af (by omega)
 clear hB HMK HC1
 obtain ⟨r, hr⟩ : ∃ r, B + 1 = r := ⟨_, rfl⟩
 rw [hr] at HST ⊢
 clear hr
 obtain ⟨n, hn⟩ : ∃ n, r + 1 = n := ⟨_, rfl⟩
 rw [hn] at HST ⊢
 clear hn
 obtain ⟨g, hg⟩ : ∃ g, n + 1 = g := ⟨_, rfl⟩
 rw [hg] at HST ⊢
 clear hg
 go_upto_region 5 with (first | (refine ai rfl (exec_loadZ rfl rfl HSZ.out) ?_) | fail)
 go_loopw [5, 21] (fun p i wr => LrM B w r n g R x p i wr) (fun _ i _ => 4 - (intOf i).toNat)
 case atStart => exact ⟨0, by omega, rfl, rfl, HST.out⟩
 case round =>
  clear HST
  rcases hrel.five with ⟨rfl, rfl, hl⟩ | ⟨rfl, rfl, hl⟩ | ⟨rfl, rfl, hl⟩ | ⟨rfl, rfl, hl⟩ | ⟨rfl, rfl, hl⟩
  ·have H0 := af hl
   clear hl hrel
   have cc := H0.out.num.cells.1
   go_wp2_with (first | (refine ai rfl (exec_ixZ0 rfl rfl rfl) ?_) | (refine ai rfl (exec_ixN0 rfl rfl rfl) ?_) | fail)
   clear cc
   refine (put_ok x.id 8 wr (by omega) (by omega) (by have := HF1.out; simpa using this)).mono ?_
   rintro e w2 ⟨v, rfl, hv, hb⟩
   obtain ⟨A, c, rfl, hrd, _, _⟩ := hv.made.open_ (ay 8 8 x.id)
   have H1 := af (H0.out.keep hb HB.out)
   have HRD := af hrd
   have HW := af H1.out.row
   have HLN := HLEN 0 (by omega)
   clear hv hrd hb H0
   go_wp2_with (first | (refine ai rfl (fK 0 44 rfl (by omega) rfl rfl rfl) ?_) | (with_reducible refine cN rfl _ _ rfl g 0 44 44 8 c _ A 179 (cy (preM x 0)) (aX 8 8 x.id) rfl rfl HW.out HRD.out (by omega) (by rw [HLN.out]; omega) ?_) | fail)
   intro w3 hr3 hg3
   rw [HP1.out] at hr3
   have H2 := af (H1.out.step hr3 hg3 HB.out)
   clear hr3 hg3 H1 HRD HW
   go_wp2_with fail
   go_roundw
   case rel => exact ⟨1, by omega, rfl, rfl, H2.out⟩
   case measure => simp [intOf]
  ·have H0 := af hl
   clear hl hrel
   have cc := H0.out.num.cells.2.1
   go_wp2_with (first | (refine ai rfl (exec_ixZ1 rfl rfl rfl) ?_) | (refine ai rfl (exec_ixN1 rfl rfl rfl) ?_) | fail)
   clear cc
   refine (put_ok R 2 wr (by omega) (by omega) (by omega)).mono ?_
   rintro e w2 ⟨v, rfl, hv, hb⟩
   obtain ⟨A, c, rfl, hrd, _, _⟩ := hv.made.open_ (ay 8 2 R)
   have H1 := af (H0.out.keep hb HB.out)
   have HRD := af hrd
   have HW := af H1.out.row
   have HLN := HLEN 1 (by omega)
   clear hv hrd hb H0
   go_wp2_with (first | (refine ai rfl (fK 8 36 rfl (by omega) rfl rfl rfl) ?_) | (with_reducible refine cN rfl _ _ rfl g 8 36 36 2 c _ A 179 (cy (preM x 1)) (aX 8 2 R) rfl rfl HW.out HRD.out (by omega) (by rw [HLN.out]; omega) ?_) | fail)
   intro w3 hr3 hg3
   rw [HP2.out] at hr3
   have H2 := af (H1.out.step hr3 hg3 HB.out)
   clear hr3 hg3 H1 HRD HW
   go_wp2_with fail
   go_roundw
   case rel => exact ⟨2, by omega, rfl, rfl, H2.out⟩
   case measure => simp [intOf]
  ·have H0 := af hl
   clear hl hrel
   have cc := H0.out.num.cells.2.2.1
   go_wp2_with (first | (refine ai rfl (exec_ixZ2 rfl rfl rfl) ?_) | (refine ai rfl (exec_ixN2 rfl rfl rfl) ?_) | fail)
   clear cc
   refine (put_ok x.first 8 wr (by omega) (by omega) (by have := HF2.out; simpa using this)).mono ?_
   rintro e w2 ⟨v, rfl, hv, hb⟩
   obtain ⟨A, c, rfl, hrd, _, _⟩ := hv.made.open_ (ay 8 8 x.first)
   have H1 := af (H0.out.keep hb HB.out)
   have HRD := af hrd
   have HW := af H1.out.row
   have HLN := HLEN 2 (by omega)
   clear hv hrd hb H0
   go_wp2_with (first | (refine ai rfl (fK 10 34 rfl (by omega) rfl rfl rfl) ?_) | (with_reducible refine cN rfl _ _ rfl g 10 34 34 8 c _ A 179 (cy (preM x 2)) (aX 8 8 x.first) rfl rfl HW.out HRD.out (by omega) (by rw [HLN.out]; omega) ?_) | fail)
   intro w3 hr3 hg3
   rw [HP3.out] at hr3
   have H2 := af (H1.out.step hr3 hg3 HB.out)
   clear hr3 hg3 H1 HRD HW
   go_wp2_with fail
   go_roundw
   case rel => exact ⟨3, by omega, rfl, rfl, H2.out⟩
   case measure => simp [intOf]
  ·have H0 := af hl
   clear hl hrel
   have cc := H0.out.num.cells.2.2.2
   go_wp2_with (first | (refine ai rfl (exec_ixZ3 rfl rfl rfl) ?_) | (refine ai rfl (exec_ixN3 rfl rfl rfl) ?_) | fail)
   clear cc
   refine (put_ok x.pos 8 wr (by omega) (by omega) (by have := HF3.out; simpa using this)).mono ?_
   rintro e w2 ⟨v, rfl, hv, hb⟩
   obtain ⟨A, c, rfl, hrd, _, _⟩ := hv.made.open_ (ay 8 8 x.pos)
   have H1 := af (H0.out.keep hb HB.out)
   have HRD := af hrd
   have HW := af H1.out.row
   have HLN := HLEN 3 (by omega)
   clear hv hrd hb H0
   go_wp2_with (first | (refine ai rfl (fK 18 26 rfl (by omega) rfl rfl rfl) ?_) | (with_reducible refine cN rfl _ _ rfl g 18 26 26 8 c _ A 179 (cy (preM x 3)) (aX 8 8 x.pos) rfl rfl HW.out HRD.out (by omega) (by rw [HLN.out]; omega) ?_) | fail)
   intro w3 hr3 hg3
   rw [HP4.out] at hr3
   have H2 := af (H1.out.step hr3 hg3 HB.out)
   clear hr3 hg3 H1 HRD HW
   go_wp2_with fail
   go_roundw
   case rel => exact ⟨4, by omega, rfl, rfl, H2.out⟩
   case measure => simp [intOf]
  ·have H0 := af hl
   clear hl hrel
   have HLD : Hid (wr.rangeAt g 0 (vals (cW x))) := af (by rw [← HPA.out]; exact dt H0.out.row)
   have HTH := af (d7 (o := 0) (n := 44) H0.out.res (by rw [bu, z44_length]; omega))
   go_wp2_with (first | (refine ai rfl (exec_load44m (l := cW x) HFL.out rfl rfl ?_) ?_; (with_reducible exact HLD.out)) | (refine az rfl (exec_put44m (l := cW x) HFL.out rfl rfl rfl ?_) ?_; (with_reducible exact HTH.out)) | fail)
   refine bodyPost_ret (res_rng (t := 179) (cs := vals (cW x)) rfl _ _ r rfl ?h1 Tryz.underlying179 rfl ?h2) rfl ⟨rfl, ?h3⟩
   case h1 => exact World.rangeAt_setCells_same _ _ _ _ (by rw [bu, HFL.out]; exact HTH.out)
   case h2 => rw [bu, HFL.out]; exact size44m
   case h3 => rw [HBB.out]; exact below_setCells H0.out.bel H0.out.r0 _
structure TlM (B : Nat) (w0 w : World) (A : Option Addr) (l : List UInt8) (r n a b c d : Nat) : Prop where
 rd : Rd w B A 44 l
 res : bP w r br
 num : NumAt w n a b c d
 bel : Below B w0 w
 n0 : B ≤ n
 r0 : B ≤ r
 dif : r ≠ n
theorem TlM.set {B : Nat} {w0 w : World} {A : Option Addr} {l : List UInt8} {r n a b c d a' b' c' d' j v : Nat} (h : TlM B w0 w A l r n a b c d) (e : (celN a b c d).set j (.int .u64 v) = celN a' b' c' d') (hB : B ≤ w0.heap.size) : TlM B w0 (w.setCell ⟨n, j, none⟩ (.int .u64 v)) A l r n a' b' c' d' :=
 have hg := grown_set w n j (.int .u64 v)
 have hb : Below B w (w.setCell ⟨n, j, none⟩ (.int .u64 v)) := (Below.refl B w).grown hg (Nat.le_trans hB h.bel.size) (fun k hk => by injection hk with e; have := h.n0; omega)
 ⟨h.rd.below hb, fm h.res hg h.dif, h.num.set e, h.bel.trans hb, h.n0, h.r0, h.dif⟩
def TrM (B : Nat) (w0 : World) (A : Option Addr) (l : List UInt8) (r n v0 v1 v2 v3 : Nat) (p i : Value) (w : World) : Prop :=
 (i = .int .i64 0 ∧ p = .int .i64 0 ∧ TlM B w0 w A l r n 0 0 0 0) ∨ (i = .int .i64 1 ∧ p = .int .i64 8 ∧ TlM B w0 w A l r n v0 0 0 0) ∨
 (i = .int .i64 2 ∧ p = .int .i64 10 ∧ TlM B w0 w A l r n v0 v1 0 0) ∨ (i = .int .i64 3 ∧ p = .int .i64 18 ∧ TlM B w0 w A l r n v0 v1 v2 0) ∨ (i = .int .i64 4 ∧ p = .int .i64 26 ∧ TlM B w0 w A l r n v0 v1 v2 v3)
theorem tlM_start (w : World) (A : Option Addr) (l : List UInt8) (hr : Rd w w.heap.size A 44 l) : TlM w.heap.size w ((w.alloc (.cells (a8 br).toArray 32)).alloc (.cells (celN 0 0 0 0).toArray 197)) A l w.heap.size (w.heap.size + 1) 0 0 0 0 := by
 have h1 := (Below.refl w.heap.size w).alloc (Nat.le_refl _) (.cells (a8 br).toArray 32)
 have h2 := h1.alloc h1.size (.cells (celN 0 0 0 0).toArray 197)
 have n1 : NumAt ((w.alloc (.cells (a8 br).toArray 32)).alloc (.cells (celN 0 0 0 0).toArray 197)) (w.alloc (.cells (a8 br).toArray 32)).heap.size 0 0 0 0 := heap_alloc_new _ _
 rw [World.size_alloc] at n1
 exact ⟨hr.below h2, (bP.new w br).past _, n1, h2, by omega, by omega, by omega⟩
set_option maxHeartbeats 4000000 in
theorem pmtold (A : Option Addr) (c : Nat) (l : List UInt8) (w : World) (S : Siz w) (hr : Rd w w.heap.size A 44 l) : Calls Tryz.prog 142 #[.slice A 44 c] w fun e w' => e = .returned (mrk (ci l)) ∧ Below w.heap.size w w' := by
 have hl := hr.1
 obtain ⟨v0, h0⟩ : ∃ v, val 8 (piece l 0 8) = v := ⟨_, rfl⟩
 obtain ⟨v1, h1⟩ : ∃ v, val 8 (piece l 8 2) = v := ⟨_, rfl⟩
 obtain ⟨v2, h2⟩ : ∃ v, val 8 (piece l 10 8) = v := ⟨_, rfl⟩
 obtain ⟨v3, h3⟩ : ∃ v, val 8 (piece l 18 8) = v := ⟨_, rfl⟩
 have b1 : v1 < 65536 := by rw [← h1]; exact cg (b := l) (p := 8) (k := 2) (by omega)
 have HV0 := af h0
 have HV1 := af h1
 have HV2 := af h2
 have HV3 := af h3
 have HT : Hid (ci l = ⟨v0, (v1 : Nat), v2, v3⟩) := af (by unfold ci; rw [h0, h1, h2, h3])
 have HST := af (tlM_start w A l hr)
 have HSZ := af (S.below (tlM_start w A l hr).bel)
 have HL := af hl
 clear h0 h1 h2 h3 hr S hl
 go_enter Tryz.func142, Tryz.ntmps142
 go_upto_region 3 with (first | (refine ai rfl (bG rfl) ?_) | (refine ai rfl (exec_allocN rfl) ?_) | fail)
 try simp only [World.size_alloc]
 generalize (w.alloc (.cells (a8 br).toArray 32)).alloc (.cells (celN 0 0 0 0).toArray 197) = w1 at *
 obtain ⟨B, hB⟩ : ∃ B, w.heap.size = B := ⟨_, rfl⟩
 rw [hB] at HST ⊢
 have HBD := af hB
 have HB : Hid (B ≤ w.heap.size) := af (by omega)
 clear hB
 obtain ⟨n, hn⟩ : ∃ n, B + 1 = n := ⟨_, rfl⟩
 rw [hn] at HST ⊢
 clear hn
 go_upto_region 4 with (first | (refine ai rfl (exec_loadZ rfl rfl HSZ.out) ?_) | fail)
 go_loopw [4, 8] (fun p i wr => TrM B w A l B n v0 v1 v2 v3 p i wr) (fun _ i _ => 4 - (intOf i).toNat)
 case atStart => exact .inl ⟨rfl, rfl, HST.out⟩
 case round =>
  clear HST
  rcases hrel with ⟨rfl, rfl, hl⟩ | ⟨rfl, rfl, hl⟩ | ⟨rfl, rfl, hl⟩ | ⟨rfl, rfl, hl⟩ | ⟨rfl, rfl, hl⟩
  ·have H0 := af hl
   clear hl
   have HRD := af H0.out.rd
   have cc := H0.out.num.cells.1
   have ff := H0.out.num.free 0
   have H2 : Hid (TlM B w (wr.setCell ⟨n, 0, none⟩ (.int .u64 (v0 : Nat))) A l B n v0 0 0 0) := af (H0.out.set rfl HB.out)
   go_wp2_with (first | (refine ai rfl (exec_ixZ0 rfl rfl rfl) ?_) | fail)
   refine (get_ok A 44 c _ l 0 8 wr HRD.out (by unfold maxLen; omega) (by omega) (by omega) (by omega)).mono ?_
   rintro e w2 ⟨rfl, rfl⟩
   rw [HV0.out]
   go_wp2_with (first | (refine ai rfl (exec_ixN0 rfl rfl rfl) ?_) | fail)
   go_roundw
   case rel => exact .inr (.inl ⟨rfl, rfl, H2.out⟩)
   case measure => simp [intOf]
  ·have H0 := af hl
   clear hl
   have HRD := af H0.out.rd
   have cc := H0.out.num.cells.2.1
   have ff := H0.out.num.free 1
   have H2 : Hid (TlM B w (wr.setCell ⟨n, 1, none⟩ (.int .u64 (v1 : Nat))) A l B n v0 v1 0 0) := af (H0.out.set rfl HB.out)
   go_wp2_with (first | (refine ai rfl (exec_ixZ1 rfl rfl rfl) ?_) | fail)
   refine (get_ok A 44 c _ l 8 2 wr HRD.out (by unfold maxLen; omega) (by omega) (by omega) (by omega)).mono ?_
   rintro e w2 ⟨rfl, rfl⟩
   rw [HV1.out]
   go_wp2_with (first | (refine ai rfl (exec_ixN1 rfl rfl rfl) ?_) | fail)
   go_roundw
   case rel => exact .inr (.inr (.inl ⟨rfl, rfl, H2.out⟩))
   case measure => simp [intOf]
  ·have H0 := af hl
   clear hl
   have HRD := af H0.out.rd
   have cc := H0.out.num.cells.2.2.1
   have ff := H0.out.num.free 2
   have H2 : Hid (TlM B w (wr.setCell ⟨n, 2, none⟩ (.int .u64 (v2 : Nat))) A l B n v0 v1 v2 0) := af (H0.out.set rfl HB.out)
   go_wp2_with (first | (refine ai rfl (exec_ixZ2 rfl rfl rfl) ?_) | fail)
   refine (get_ok A 44 c _ l 10 8 wr HRD.out (by unfold maxLen; omega) (by omega) (by omega) (by omega)).mono ?_
   rintro e w2 ⟨rfl, rfl⟩
   rw [HV2.out]
   go_wp2_with (first | (refine ai rfl (exec_ixN2 rfl rfl rfl) ?_) | fail)
   go_roundw
   case rel => exact .inr (.inr (.inr (.inl ⟨rfl, rfl, H2.out⟩)))
   case measure => simp [intOf]
  ·have H0 := af hl
   clear hl
   have HRD := af H0.out.rd
   have cc := H0.out.num.cells.2.2.2
   have ff := H0.out.num.free 3
   have H2 : Hid (TlM B w (wr.setCell ⟨n, 3, none⟩ (.int .u64 (v3 : Nat))) A l B n v0 v1 v2 v3) := af (H0.out.set rfl HB.out)
   go_wp2_with (first | (refine ai rfl (exec_ixZ3 rfl rfl rfl) ?_) | fail)
   refine (get_ok A 44 c _ l 18 8 wr HRD.out (by unfold maxLen; omega) (by omega) (by omega) (by omega)).mono ?_
   rintro e w2 ⟨rfl, rfl⟩
   rw [HV3.out]
   go_wp2_with (first | (refine ai rfl (exec_ixN3 rfl rfl rfl) ?_) | fail)
   go_roundw
   case rel => exact .inr (.inr (.inr (.inr ⟨rfl, rfl, H2.out⟩)))
   case measure => simp [intOf]
  ·have H0 := af hl
   clear hl
   obtain ⟨c0, c1, c2, c3⟩ := H0.out.num.cells
   have HTH := af H0.out.res.there
   go_wp2_with (first | (refine ai rfl (exec_ixN0 rfl rfl rfl) ?_) | (refine ai rfl (exec_ixN1 rfl rfl rfl) ?_) | (refine ai rfl (exec_ixN2 rfl rfl rfl) ?_) | (refine ai rfl (exec_ixN3 rfl rfl rfl) ?_) | (refine ai rfl (exec_bldM4 v0 v1 v2 v3 rfl rfl rfl rfl rfl) ?_) | (refine az rfl (b7 (c := ⟨v0, (v1 : Nat), v2, v3⟩) rfl rfl rfl ?_) ?_; (with_reducible exact HTH.out)) | fail)
   refine bodyPost_ret (res_rng (t := 32) (cs := a8 ⟨v0, (v1 : Nat), v2, v3⟩) rfl _ _ B rfl ?h1 Tryz.underlying32 rfl ?h2) rfl ⟨by rw [HT.out]; rfl, ?h3⟩
   case h1 => exact World.rangeAt_setCells_same _ _ _ _ HTH.out
   case h2 => exact ec
   case h3 => rw [HBD.out]; exact below_setCells H0.out.bel H0.out.r0 _
theorem fT {ρ : Operand → Value} {o : Oper} {x y : Operand} {w : World} (g : Nat) (ho : o.op = .store 182 x y) (hx : ρ x = .pointer (some ⟨w.heap.size, 0, none⟩)) (hy : ρ y = .agg (fe g)) :
  (execOp ρ o).run Tryz.prog (w.alloc (.cells #[.slice none 0 0, .slice none 0 0, .slice none 0 0, .slice none 0 0, .slice none 0 0] 182)) = .ok .skip (w.alloc (.cells (fe g) 182)) :=
 exec_fillT (by kernel_rfl) rfl rfl ho hx hy
theorem putW_start (w w1 : World) (hb : Below ((w.alloc (.cells (cel ap).toArray 29)).alloc (.cells (cel ap).toArray 29)).heap.size ((w.alloc (.cells (cel ap).toArray 29)).alloc (.cells (cel ap).toArray 29)) w1) :
  PutW w.heap.size w (w1.alloc (.cells (fe (w.heap.size + 1)) 182)) w.heap.size (w.heap.size + 1) w1.heap.size ap.toList := by
 have h1 := (Below.refl w.heap.size w).alloc (Nat.le_refl _) (.cells (cel ap).toArray 29)
 have h2 := h1.alloc h1.size (.cells (cel ap).toArray 29)
 have hs := hb.size
 simp only [World.size_alloc] at hs
 have hr : bR w1 w.heap.size 29 ap.toList := bR.below ((bR.blk w ap 29).past _) (by simp only [World.size_alloc]; omega) hb
 have hg : bR w1 (w.heap.size + 1) 29 ap.toList := bR.below (by have := bR.blk (w.alloc (.cells (cel ap).toArray 29)) ap 29; rwa [World.size_alloc] at this) (by simp only [World.size_alloc]; omega) hb
 have hbel : Below w.heap.size w w1 := h2.trans (hb.mono (by simp only [World.size_alloc]; omega))
 exact ⟨hr.past _, hg.past _, heap_alloc_new w1 _, hbel.alloc (by omega) _, Nat.le_refl _, by omega, by omega, by omega⟩
set_option maxHeartbeats 4000000 in
theorem put_yes (n m c N : Nat) (A : Option Addr) (b : List UInt8) (w : World) (T : Tab w) (hn : n < 18446744073709551616) (h0 : 0 < n) (hb : Rd w N A m b) (hN : N ≤ w.heap.size) (hm : m ≤ 44) :
  Calls Tryz.prog 162 #[.int .u64 n, .slice A m c] w fun e w' => e = .returned (.tuple #[blk (dL n b), .int .i64 (dW n b : Nat)]) ∧ Below w.heap.size w w' := by
 have hl := hb.1
 have hbl : b.length ≤ 44 := by omega
 have hE : dW n b = 0 := putE_ok (by omega) hbl
 have hB : dL n b = ofL (db n b) := putB_ok hE
 rw [hE, hB]
 have HS := af (noSum_seal (n := n) hbl)
 have HH := af (noSum_head (n := n) hbl)
 have HL := af (fG (n := n) hbl)
 have HL64 := af (fF n hbl)
 have HC := af (more_lt (s := 0) (by omega) (dj n b))
 have HT := af T
 have HR := af hb
 have HB := af hl
 have HN := af hn
 have HNN := af hN
 clear hE hB T hb hl hbl hn hN
 have hz : ((n : Int) == 0) = false := by simp; omega
 go_enter Tryz.func162, Tryz.ntmps162
 go_wp2_with (first | (refine al rfl (aT rfl) ?_) | fail)
 refine (cut_any (w.heap.size + 1) _).mono ?_
 rintro e w1 ⟨rfl, hb1⟩
 have hW := putW_start w w1 hb1
 have HBW := af hb1.size
 clear hb1
 have HFP := HBW.out
 obtain ⟨c0, c1, c2, c3, c4⟩ := hW.par.cells
 obtain ⟨g, hg⟩ : ∃ g, w.heap.size + 1 = g := ⟨_, rfl⟩
 rw [hg] at hW c0 c1 c2 c3 c4
 rw [hg]
 have HGG := af hg
 clear HFP hg
 have HW := af hW
 clear hW
 go_wp2_with (first | (refine aV rfl (fT g rfl rfl rfl) ?_) | fail)
 clear c0 c1 c2 c3 c4 HBW HGG
 have HN8 := HN.out
 refine (lay_any g 0 8 n 29 ap.toList _ HW.out.row (by omega) (by omega) (by simp) (by simpa using HN8)).mono ?_
 rintro e w2 ⟨rfl, hr2, hg2⟩
 have HW2 := af (HW.out.turn hr2 hg2 (Nat.le_refl _))
 clear hr2 hg2 HW
 obtain ⟨c0, c1, c2, c3, c4⟩ := HW2.out.par.cells
 generalize w1.heap.size = p at *
 obtain ⟨r, hr⟩ : ∃ r, r = w.heap.size := ⟨_, rfl⟩
 have HRR := af hr
 rw [← hr] at HNN HW2 ⊢
 clear hr
 clear HN8
 go_wp2_with fail
 clear c0 c1 c2 c3 c4
 have HN8 := HN.out
 refine (lay_any g 56 8 n 29 _ _ HW2.out.row (by omega) (by omega) (by rw [noSum_1]; omega) (by simpa using HN8)).mono ?_
 rintro e w3 ⟨rfl, hr3, hg3⟩
 have HW3 := af (HW2.out.turn hr3 hg3 (Nat.le_of_eq HRR.out))
 clear hr3 hg3 HW2 HN8
 obtain ⟨c0, c1, c2, c3, c4⟩ := HW3.out.par.cells
 have HR3 := af (HR.out.below (HW3.out.bel.mono HNN.out))
 have HL2 := af (noSum_2 n)
 obtain ⟨l2, hl2⟩ : ∃ l2, splice (splice ap.toList 0 (aX 8 8 n)) 56 (aX 8 8 n) = l2 := ⟨_, rfl⟩
 have HNS : Hid (splice l2 8 b = noSum n b) := af (by rw [← hl2]; rfl)
 rw [hl2] at HW3 HL2
 clear hl2
 go_wp2_with (with_reducible refine cN rfl _ _ rfl g 8 44 44 m c N A 29 l2 b rfl rfl HW3.out.row HR3.out hm ?c1 ?_)
 case c1 => rw [HL2.out]; omega
 intro w4 hr4 hg4
 rw [HNS.out] at hr4
 have HW4 := af (HW3.out.turn hr4 hg4 (Nat.le_of_eq HRR.out))
 clear hr4 hg4 HW3 HR3 HL2 c0 c1 c2 c3 c4
 go_wp2_with fail
 refine wp_region_held (S := fun w' => Hid (PutW r w w' r g p (noSum n b) ∨ PutW r w w' r g p (db n b))) (by kernel_rfl) ?_
 change wpAnyH _ _ _ _ _ 7 _ _ w4.drew
 have hS : Hid (PutW r w w4.drew r g p (noSum n b) ∨ PutW r w w4.drew r g p (db n b)) := af (.inl HW4.out.draw)
 refine gt 0 rfl (fun w' hw => am rfl (ev rfl) faP2) hS ?_;simp only [aa]
 refine gt 1 rfl (fun w' hw => au rfl (ev rfl) (ldS (hw.out.elim (fun h => h.par.cells.2.2.1) (fun h => h.par.cells.2.2.1)))) hS ?_;simp only [aa]
 refine gt 2 rfl (fun w' hw => am rfl (ev rfl) faP4) hS ?_;simp only [aa]
 refine gt 3 rfl (fun w' hw => au rfl (ev rfl) (ldS (hw.out.elim (fun h => h.par.cells.2.2.2.2) (fun h => h.par.cells.2.2.2.2)))) hS ?_;simp only [aa]
 refine held_call 4 rfl (by kernel_rfl) rfl (av Tryz.call118 rfl (evc (ev rfl) evn)) ?_
 have T4 : Tab w4.drew := (HT.out.below (by rw [← HRR.out]; exact HW4.out.draw.bel))
 have R4 := HW4.out.draw.row.rd (p := 0) (k := 52) (by rw [HL.out]; omega)
 rw [HH.out] at R4
 refine (of_any _ 52 52 _ (dj n b) _ T4 R4 (by unfold maxLen; omega)).mono ?_
 rintro e w' ⟨rfl, rfl⟩
 refine ⟨_, rfl, hS, ?_⟩
 simp only [aa]
 clear T4 R4
 refine gt 5 rfl (fun w' hw => fb rfl (ev rfl) HC.out) hS ?_;simp only [aa]
 refine held_call 6 rfl (by kernel_rfl) rfl (av Tryz.call170 rfl (evc (ev rfl) (evc (ev rfl) evn))) ?_
 refine (lay_any g 52 4 (more 0 (dj n b)) 29 _ _ HW4.out.draw.row (by omega) (by omega) (by rw [HL.out]; omega) (by have := HC.out; simpa using this)).mono ?_
 rintro e w5 ⟨rfl, hr5, hg5⟩
 rw [HS.out] at hr5
 have HW5 := af (HW4.out.draw.turn hr5 hg5 (Nat.le_of_eq HRR.out))
 refine ⟨_, rfl, af (.inr HW5.out), ?_⟩
 simp only [aa]
 clear hr5 hg5 hS HW4
 refine wpAnyH_done (by kernel_rfl) ?_ _
 have HG := af (HW5.out.row.range HL64.out)
 have HTH : Hid (w5.there r 0 64) := af (there_row HW5.out.res.row (by simp))
 have HBB : Hid (Below w.heap.size w w5) := af (by rw [← HRR.out]; exact HW5.out.bel)
 go_wp2_with (first | (refine al rfl (aS rfl rfl HG.out) ?_) | (refine aV rfl (aR rfl rfl rfl HTH.out) ?_) | fail)
 refine bodyPost_ret (bZ rfl _ _ _ rfl (World.rangeAt_setCells_same _ _ _ _ (by rw [aA]; exact HTH.out))) rfl ⟨rfl, below_setCells HBB.out (Nat.le_of_eq HRR.out.symm) _⟩
theorem put_all (n m c N : Nat) (A : Option Addr) (b : List UInt8) (w : World) (T : Tab w) (hn : n < 18446744073709551616) (hb : Rd w N A m b) (hN : N ≤ w.heap.size) (hm : m ≤ maxLen) :
  Calls Tryz.prog 162 #[.int .u64 n, .slice A m c] w fun e w' => e = .returned (.tuple #[blk (dL n b), .int .i64 (dW n b : Nat)]) ∧ Below w.heap.size w w' := by
 by_cases h0 : n = 0
 ·subst h0
  exact put_arg m c A b w hb.1
 ·by_cases h44 : m ≤ 44
  ·exact put_yes n m c N A b w T hn (by omega) hb hN h44
  ·exact put_long n m c A b w hb.1 (by omega) (by omega) hm
end Go.Proofs.YtbbcdhkinbmdnaaGreatDoor
