import Derived.Test.YtcafafdimcecpaaGreatDoorLsah
import Derived.Test.YtcafafdimcecpaaGreatDoorLsaj
import Derived.Deep.DeepCutAuto
import Derived.Test.YtcafafdimcecpaaGreatDoorLsac
import Derived.Test.YtcafafdimcecpaaGreatDoorLsab
import Derived.Test.YtcafafdimcecpaaGreatDoorLsZ
namespace Go.Proofs.YtcafafdimcecpaaGreatDoor
open Go.RowKit
set_option maxRecDepth 100000
set_option linter.unusedVariables false
section
variable {P : Program} {ops : Array Oper} {C : World → Prop} {Q : Act → Prop} {a : Act} {o : Oper} {rest l : List Oper} {v : Value}
theorem wpQuiet_unw : ∀ (rs : List Oper) (a : Act), unw ops rs a = true → wpQuiet P ops C Q rest (br rs a) → wpQuiet P ops C Q (rs ++ rest) a
  | [], _, _, h => h
  | r :: rs, a, hu, h => by
    simp only [unw, Bool.and_eq_true, Bool.not_eq_true'] at hu
    exact qv_skip hu.1 (wpQuiet_unw rs _ hu.2 h)
theorem fo (n : Nat) (hw : Region.wanted o (yielded ops a.tmps) = true) (h : ∀ w, C w → (execOp a.eval o).run P w = .ok (.value v) w) (hu : unw ops (l.take n) (a.put o.dst v) = true) (hr : wpQuiet P ops C Q (l.drop n) (br (l.take n) (a.put o.dst v))) : wpQuiet P ops C Q (o :: l) a :=
  am hw h (by have := wpQuiet_unw (P := P) (C := C) (Q := Q) (l.take n) _ hu hr; rwa [List.take_append_drop] at this)
end
set_option linter.unusedSimpArgs false
theorem newS_solo (k : Nat) : newS6 [(k : Int)] = solo (List.replicate k al) [] 0 false 0 := by
  unfold newS6 solo
  simp
theorem solo_room {S : List Blk} {st k : Nat} (h : st + k ≤ 1000000) : Room (solo S [] 0 false st) k := by
  refine ⟨h, by show 0 < _; omega, fun d hd => ?_⟩
  rw [show (solo S [] 0 false st).ds = [⟨S, [], false⟩] from rfl, List.mem_singleton] at hd
  subst hd
  show 0 + k ≤ _
  omega
def Laid (C : LogI) (w : World) (r : Nat) (e : Ending) (w' : World) : Prop :=
  ∃ q p S, e = .returned (.tuple #[.pointer (some ⟨q, 0, none⟩), .pointer (some ⟨p, 0, none⟩), .bool true]) ∧ LAt C w w.heap.size (fun _ => False) w' q p (solo S [] 0 false 13) (layX 0 7 (r : Int)) ∧ (∀ A, OnD S (layX 0 7 (r : Int)) A 1) ∧ Twn S (layX 0 7 (r : Int)) ∧ LgOk (solo S [] 0 false 13) (layX 0 7 (r : Int)) 0
theorem laid_all {r : Nat} (hr : 40 ≤ r ∧ r ≤ 256) : layE (solo (List.replicate (10 + r) al) [] 0 false 0) 0 7 (r : Int) = 0 ∧ ∃ S, layB (solo (List.replicate (10 + r) al) [] 0 false 0) 0 7 (r : Int) = solo S [] 0 false 13 ∧ (∀ A, OnD S (layX 0 7 (r : Int)) A 1) ∧ Twn S (layX 0 7 (r : Int)) ∧ LgOk (solo S [] 0 false 13) (layX 0 7 (r : Int)) 0 := by
  obtain ⟨h1, S, h2, h3, h4⟩ := lay_go 7 r 0 (by omega) hr (fun _ => [])
  have hq : layQ (solo (List.replicate (10 + r) al) [] 0 false 0) 0 7 (r : Int) = true := decide_eq_true ⟨solo_has _, by omega, by omega, by omega, by rw [solo_se, List.length_replicate]; omega⟩
  have hs : Shp (solo (List.replicate (10 + r) al) [] 0 false 0) (solo S [] 0 false 13) := by
    have := shp_go 0 (layT 7 (r : Int)) (solo (List.replicate (10 + r) al) [] 0 false 0)
    have e : layB (solo (List.replicate (10 + r) al) [] 0 false 0) 0 7 (r : Int) = goB 0 (solo (List.replicate (10 + r) al) [] 0 false 0) (layT 7 (r : Int)) := if_pos hq
    rw [← e, h2] at this
    exact this
  refine ⟨h1, S, h2, fun A => ?_, h4, (lay_ok (by omega) hq).shp hs⟩
  obtain ⟨_, S', k2, k3, _⟩ := lay_go 7 r 0 (by omega) hr A
  rw [h2] at k2
  have e : S = S' := by
    unfold solo at k2
    injection k2 with k2
    injection k2 with k2
    injection k2
  rw [e]
  exact k3
set_option maxHeartbeats 1000000 in
theorem plaid (C : LogI) (m : Nat) (w : World) (T : Tbs w) (hm : m < 256) : Calls Tryz.prog 14 #[.int .u8 (m : Nat)] w (Laid C w (40 + m % 216)) := by
  have HTB := Lib.hid T
  clear T
  obtain ⟨r, hr⟩ : ∃ r, 40 + m % 216 = r := ⟨_, rfl⟩
  have hr2 : 40 ≤ r ∧ r ≤ 256 := by have := Nat.mod_lt m (show 0 < 216 by omega); omega
  obtain ⟨g1, S, g2, g3, g4, g5⟩ := laid_all hr2
  have HR := Lib.hid hr
  have HR2 := Lib.hid hr2
  have HG1 := Lib.hid g1
  have HG2 := Lib.hid g2
  have HG3 := Lib.hid g3
  have HG4 := Lib.hid g4
  have HG5 := Lib.hid g5
  have HM := Lib.hid hm
  have HE : Hid (wrap64 (40 + (wrap64 (m : Int)).tmod 216) = (r : Int)) := Lib.hid (by
    have e1 : wrap64 (m : Int) = (m : Int) := IntWalk.wrap64_in _ ⟨by omega, by omega⟩
    rw [e1, Int.tmod_eq_emod_of_nonneg (by omega)]
    refine (IntWalk.wrap64_in _ ⟨by omega, by omega⟩).trans ?_
    omega)
  have HE2 : Hid (IntKind.i64.wrap (10 + (r : Int)) = ((10 + r : Nat) : Int)) := Lib.hid (by rw [IntWalk.i64_in _ ⟨by omega, by omega⟩]; omega)
  have HOK : Hid (newOk [((10 + r : Nat) : Int)]) := Lib.hid ⟨by simp, by simp, fun n hn => by
    rw [List.mem_singleton] at hn
    subst hn
    omega⟩
  rw [hr]
  clear hr hr2 g1 g2 g3 g4 g5 hm
  go_enter Tryz.func14, Tryz.ntmps14
  go_upto_region 2 with fail
  rw [HE.out]
  refine wp_region_lit ?_
  refine ag rfl (ah rfl (ev rfl)) ?_
  simp only [Act.put, aa, ae, af]
  refine ag rfl (dL rfl evk (ev rfl) HE2.out) ?_
  simp only [Act.put, aa, ae, af]
  refine ag rfl (df (E := IntE) (a := ((10 + r : Nat) : Int)) rfl (ev rfl) rfl (by show 1 ≤ _; omega)) ?_
  simp only [Act.put, aa, ae, af]
  have HRD := Lib.hid (dY (E := IntE) (l := [((10 + r : Nat) : Int)]) w #[.int .i64 ((10 + r : Nat) : Int)] 3 rfl)
  have HBA := Lib.hid ((Below.refl w.heap.size w).alloc (Nat.le_refl _) (.cells #[.int .i64 ((10 + r : Nat) : Int)] 3))
  have HSZ : Hid ((w.alloc (.cells #[.int .i64 ((10 + r : Nat) : Int)] 3)).heap.size = w.heap.size + 1) := Lib.hid (World.size_alloc ..)
  change wpList _ _ _ _ _ (w.alloc (.cells #[.int .i64 ((10 + r : Nat) : Int)] 3))
  generalize w.alloc (.cells #[.int .i64 ((10 + r : Nat) : Int)] 3) = w1 at *
  refine ao rfl (aq Tryz.call37 rfl (evc (ev rfl) evn)) ?_
  refine (C.R.new (A := some ⟨w.heap.size, 0, none⟩) (n := 1) (c := 1) (ks := [((10 + r : Nat) : Int)]) (by rw [HSZ.out]; exact HRD.out) (by omega) (by unfold maxLen; omega)).mono ?_
  rintro e w2 ⟨hb1, ⟨_, q, F, rfl, hB, hF⟩ | ⟨hno, rfl⟩⟩
  rotate_left 1
  · exact absurd HOK.out hno
  rw [newS_solo] at hB
  have HA := Lib.hid (show BAt C w w.heap.size (fun _ => False) w2 q _ from ⟨F, hB, fun b e => by have := hF b e; rw [HSZ.out] at this; omega, HBA.out.trans (hb1.mono (by rw [HSZ.out]; omega)), Bas.start HTB.out, fun _ e => e.elim⟩)
  clear hb1 hB hF HRD HBA HSZ
  refine ⟨_, rfl, ?_⟩
  simp only [Act.put, aa, ae, af]
  refine ag rfl (ah rfl (ev rfl)) ?_
  simp only [Act.put, aa, ae, af]
  refine ag rfl (aC rfl (ev rfl) rfl) ?_
  simp only [Act.put, aa, ae, af]
  refine ag rfl (aC rfl (ev rfl) rfl) ?_
  simp only [Act.put, aa, ae, af]
  refine ag rfl (ar rfl (ev rfl)) ?_
  simp only [Act.put, aa, ae, af]
  refine ag rfl (ar rfl (ev rfl)) ?_
  simp only [Act.put, aa, ae, af]
  refine wpList_nil ?_
  go_upto_region 5 with fail
  refine wp_region_lit ?_
  refine ag rfl (ah rfl (ev rfl)) ?_
  simp only [Act.put, aa, ae, af]
  refine ag rfl (ah rfl (ev rfl)) ?_
  simp only [Act.put, aa, ae, af]
  refine ao rfl (aq Tryz.call35 rfl (evc (ev rfl) (evc evk (evc evk (evc (ev rfl) evn))))) ?_
  refine (BAt.lay 0 7 (r : Int) HA.out (solo_room (by omega)) (by omega)).mono ?_
  rintro e w3 hq
  obtain ⟨p, rfl, hq, _⟩ := hq.yes HG1.out
  rw [HG2.out] at hq
  have HL := Lib.hid hq
  clear hq HA
  refine ⟨_, rfl, ?_⟩
  simp only [Act.put, aa, ae, af]
  refine ag rfl (ah rfl (ev rfl)) ?_
  simp only [Act.put, aa, ae, af]
  refine ag rfl (aC rfl (ev rfl) rfl) ?_
  simp only [Act.put, aa, ae, af]
  refine ag rfl (aC rfl (ev rfl) rfl) ?_
  simp only [Act.put, aa, ae, af]
  refine ag rfl (ar rfl (ev rfl)) ?_
  simp only [Act.put, aa, ae, af]
  refine ag rfl (ar rfl (ev rfl)) ?_
  simp only [Act.put, aa, ae, af]
  refine wpList_nil ?_
  go_wp2_with fail
  (try simp only [Exit.inBlock, Exit.then])
  exact bodyPost_ret (results_tmp3 rfl _ _ _) rfl ⟨q, p, S, rfl, HL.out, HG3.out, HG4.out, HG5.out⟩
def Wd (R : List DevS) (M M' : BenS) : Prop := ∃ a l k s, M = ⟨[a], l, k, s⟩ ∧ M' = ⟨a :: R, l, k, s⟩
section
variable {R : List DevS} {M M' : BenS}
theorem Wd.has (h : Wd R M M') : dx M 0 = 0 ∧ dx M' 0 = 0 := by
  obtain ⟨a, l, k, s, rfl, rfl⟩ := h
  constructor <;> simp [dx]
theorem Wd.dev (h : Wd R M M') : M'.dev 0 = M.dev 0 := by
  obtain ⟨a, l, k, s, rfl, rfl⟩ := h
  rfl
theorem Wd.lit (h : Wd R M M') : cR M' 0 = cR M 0 := by
  obtain ⟨h1, h2⟩ := h.has
  obtain ⟨a, l, k, s, rfl, rfl⟩ := h
  unfold cR
  rw [h1, h2]
theorem Wd.se (h : Wd R M M') : ca M' 0 = ca M 0 := by
  obtain ⟨h1, h2⟩ := h.has
  unfold ca
  rw [h1, h2, h.dev]
theorem Wd.rdE (h : Wd R M M') (n : Int) : bW M' 0 n = bW M 0 n := by
  unfold bW
  rw [h.lit, h.dev]
theorem Wd.rdB (h : Wd R M M') (n : Int) : cO M' 0 n = cO M 0 n := by
  unfold cO
  rw [h.lit, h.dev]
theorem Wd.stp (h : Wd R M M') (t : Stp) : stpE 0 M' t = stpE 0 M t ∧ Wd R (stpS 0 M t) (stpS 0 M' t) := by
  cases t with
  | wr n b =>
    have e1 := h.rdE n
    have e2 := h.dev
    obtain ⟨a, l, k, s, rfl, rfl⟩ := h
    refine ⟨?_, ?_⟩
    · show wrE6 _ 0 n = wrE6 _ 0 n
      unfold wrE6
      rw [e1]
      rfl
    · show Wd R (wrS6 _ 0 n b) (wrS6 _ 0 n b)
      unfold wrS6
      rw [e1]
      by_cases h0 : bW ⟨[a], l, k, s⟩ 0 n = 0
      · rw [if_pos h0, if_pos h0]
        by_cases h1 : l = 1
        · subst h1
          exact ⟨a, 1, true, s, rfl, rfl⟩
        · rw [if_neg h1, if_neg h1]
          exact ⟨_, _, _, _, rfl, rfl⟩
      · rw [if_neg h0, if_neg h0]
        exact ⟨_, _, _, _, rfl, rfl⟩
  | fl =>
    have e1 : flA6 M' 0 = flA6 M 0 := by unfold flA6; rw [h.lit, h.dev]
    obtain ⟨a, l, k, s, rfl, rfl⟩ := h
    refine ⟨?_, ?_⟩
    · show flE6 _ 0 = flE6 _ 0
      unfold flE6
      rw [e1]
      rfl
    · show Wd R (flS6 _ 0) (flS6 _ 0)
      unfold flS6
      rw [e1]
      by_cases h0 : flA6 ⟨[a], l, k, s⟩ 0 = 0
      · rw [if_pos h0, if_pos h0]
        by_cases h1 : l = 1
        · subst h1
          exact ⟨a, 1, true, s, rfl, rfl⟩
        · rw [if_neg h1, if_neg h1]
          exact ⟨_, _, _, _, rfl, rfl⟩
      · rw [if_neg h0, if_neg h0]
        exact ⟨_, _, _, _, rfl, rfl⟩
theorem Wd.go (T : List Stp) : ∀ {M M' : BenS}, Wd R M M' → goE 0 M' T = goE 0 M T ∧ Wd R (goB 0 M T) (goB 0 M' T) := by
  induction T with
  | nil => intro M M' h; exact ⟨rfl, h⟩
  | cons t T ih =>
    intro M M' h
    obtain ⟨h1, h2⟩ := h.stp t
    by_cases e : stpE 0 M t = 0
    · have e' : stpE 0 M' t = 0 := h1.trans e
      rw [(go_ok e).1, (go_ok e).2, (go_ok e').1, (go_ok e').2]
      exact ih h2
    · have e' : ¬ stpE 0 M' t = 0 := by rw [h1]; exact e
      rw [(go_no e).1, (go_no e).2, (go_no e').1, (go_no e').2]
      exact ⟨h1, h2⟩
variable {x : LgS} {cs : List Cl} {f q : Nat}
theorem Wd.lay (h : Wd R M M') (id : Nat) (r : Int) : layE M' 0 id r = layE M 0 id r ∧ Wd R (layB M 0 id r) (layB M' 0 id r) := by
  have e : layQ M' 0 id r = layQ M 0 id r := by
    unfold layQ
    rw [h.se, h.has.1, h.has.2]
  unfold layE layB
  rw [e]
  split
  · exact h.go _
  · exact ⟨rfl, h⟩
theorem Wd.app (h : Wd R M M') (hx : x.d = 0) : appE M' x cs = appE M x cs ∧ Wd R (appB M x cs) (appB M' x cs) := by
  unfold appE appB
  rw [hx]
  split
  · exact h.go _
  · exact ⟨rfl, h⟩
theorem Wd.clr (h : Wd R M M') (hx : x.d = 0) : clrE M' x f = clrE M x f ∧ Wd R (clrB M x f) (clrB M' x f) := by
  unfold clrE clrB
  rw [hx]
  split
  · exact h.go _
  · exact ⟨rfl, h⟩
theorem Wd.rcd (h : Wd R M M') (hx : x.d = 0) : rcdE M' x q = rcdE M x q ∧ rcdC M' x q = rcdC M x q := by
  have e1 : ∀ n, rcdL M' x n = rcdL M x n := fun n => by
    unfold rcdL
    rw [hx]
    exact List.map_congr_left fun i _ => h.rdB _
  have e2 : rcdE M' x q = rcdE M x q := by
    unfold rcdE
    rw [e1, hx]
    rw [show bW M' ((0 : Nat) : Int) (bH x.size (x.note q).pos) = bW M ((0 : Nat) : Int) (bH x.size (x.note q).pos) from h.rdE _]
  exact ⟨e2, by unfold rcdC; rw [e2, e1]⟩
end
def lvC : Cl := ⟨0, 0, al.set 0 5⟩
def lvR : List DevS := [⟨List.replicate 12 al, [], false⟩]
def lvM : BenS := newS6 [50, 12]
def lvX1 : LgS := ⟨0, 7, 40, 1, 1, 0, []⟩
def lvM1 : BenS := layB lvM 0 7 40
def lvX2 : LgS := lvX1.with_ (cF lvX1 [lvC])
def lvM2 : BenS := appB lvM1 lvX1 [lvC]
def lvX3 : LgS := lvX2.cut 2
def lvM3 : BenS := clrB lvM2 lvX2 2
theorem lv_wd : Wd lvR (solo (List.replicate 50 al) [] 0 false 0) lvM := ⟨_, _, _, _, rfl, rfl⟩
theorem Wd.is {R : List DevS} {S : List Blk} {L : List (Int × Blk)} {left st : Nat} {ce : Bool} {M' : BenS} (h : Wd R (solo S L left ce st) M') : M' = ⟨⟨S, L, false⟩ :: R, left, ce, st⟩ := by
  obtain ⟨a, l, k, s, h1, rfl⟩ := h
  unfold solo at h1
  injection h1 with e1 e2 e3 e4
  injection e1 with e1 _
  subst e1 e2 e3 e4
  rfl
theorem Wd.room {R : List DevS} {S : List Blk} {st k : Nat} {M' : BenS} (h : Wd R (solo S [] 0 false st) M') (hs : st + k ≤ 1000000) (hR : ∀ d ∈ R, d.L.length + k ≤ 1000000) : Room M' k := by
  rw [h.is]
  refine ⟨hs, by show 0 < _; omega, fun d hd => ?_⟩
  rcases List.mem_cons.1 hd with rfl | hd
  · show 0 + k ≤ _; omega
  · exact hR d hd
theorem lvR_room {k : Nat} (hk : k ≤ 1000000) : ∀ d ∈ lvR, d.L.length + k ≤ 1000000 := by
  intro d hd
  unfold lvR at hd
  rw [List.mem_singleton] at hd
  subst hd
  show 0 + k ≤ _
  omega
theorem shp_lay (M : BenS) (d : Int) (id : Nat) (r : Int) : Shp M (layB M d id r) := by
  unfold layB
  split
  · exact shp_go d _ M
  · exact Shp.refl M
theorem shp_app (M : BenS) (x : LgS) (cs : List Cl) : Shp M (appB M x cs) := by
  unfold appB
  split
  · exact shp_go _ _ M
  · exact Shp.refl M
theorem shp_clr (M : BenS) (x : LgS) (f : Nat) : Shp M (clrB M x f) := by
  unfold clrB
  split
  · exact shp_go _ _ M
  · exact Shp.refl M
theorem zeroB_gN : aO.gN al = 0 := by
  have := aO.gN_le_num al
  rw [zeroB_num.2] at this
  omega
theorem lv_open : opnE lvM 0 = 5 := by
  have hw := lv_wd
  have h0 : dx lvM 0 = 0 ∧ 50 ≤ ca lvM 0 := ⟨hw.has.2, by rw [hw.se, solo_se]; decide⟩
  have h1 : bW lvM 0 0 = 0 := by rw [hw.rdE]; exact fA ⟨by omega, by rw [List.length_replicate]; omega⟩
  have b0 : cO lvM 0 0 = al := by rw [hw.rdB]; exact (solo_rdB (k := 0) (by rw [List.length_replicate]; omega)).trans (by simp)
  have b1 : cO lvM 0 1 = al := by rw [hw.rdB]; exact (solo_rdB (k := 1) (by rw [List.length_replicate]; omega)).trans (by simp)
  have hF : ¬ opnF lvM 0 = true := fun e => by
    obtain ⟨e1, _⟩ := of_decide_eq_true e
    rw [b0, b1] at e1
    unfold Cod.nE at e1
    rw [zeroB_gN] at e1
    simp at e1
  exact (if_pos (show opnQ lvM 0 = true from decide_eq_true h0)).trans ((if_pos h1).trans (if_neg hF))
theorem lv_lay : layE lvM 0 7 40 = 0 ∧ ∃ S, Wd lvR (solo S [] 0 false 13) lvM1 ∧ OnD S lvX1 (fun _ => []) 1 ∧ Twn S lvX1 := by
  obtain ⟨h1, S, h2, h3, h4⟩ := lay_go 7 40 0 (by omega) (by omega) (fun _ => [])
  obtain ⟨g1, g2⟩ := lv_wd.lay 7 ((40 : Nat) : Int)
  have e2 : layB (solo (List.replicate 50 al) [] 0 false 0) 0 7 ((40 : Nat) : Int) = solo S [] 0 false 13 := h2
  rw [e2] at g2
  exact ⟨g1.trans h1, S, g2, h3, h4⟩
theorem lv_recE : recE [lvC] = 0 := by decide
theorem lv_len : (bE [lvC]).length = 2 := by rw [bz]; rfl
theorem lv_appQ : appQ lvX1 [lvC] = 0 := by
  unfold appQ
  rw [lv_recE, if_neg (by omega), if_neg]
  rw [lv_len]
  show ¬ (8 ≤ 0 ∨ 40 - usd [] < 2)
  rw [usd_nil]
  omega
theorem lv_app : appE lvM1 lvX1 [lvC] = 0 ∧ ∃ S, Wd lvR (solo S [] 0 false 18) lvM2 ∧ OnD S lvX2 (upA (fun _ => []) 1 [lvC]) 2 ∧ Twn S lvX2 := by
  obtain ⟨_, S, h1, h2, h3⟩ := lv_lay
  obtain ⟨g1, g2⟩ := h1.app (cs := [lvC]) (x := lvX1) rfl
  rcases app_go (left := 0) (st := 13) h2 h3 lv_appQ (by omega) with ⟨_, k1, S', k2, k3, k4⟩ | ⟨k, _⟩
  · rw [k2, lv_len] at g2
    exact ⟨g1.trans k1, S', g2, k3, k4⟩
  · omega
theorem lv_free2 : lvX2.free = 38 := by
  show 40 - usd ([] ++ [cF lvX1 [lvC]]) = 38
  rw [List.nil_append, usd_cons, usd_nil, fg, lv_len]
theorem lv_rcd : rcdE lvM2 lvX2 1 = 0 ∧ rcdC lvM2 lvX2 1 = [lvC] := by
  obtain ⟨_, S, h1, h2, h3⟩ := lv_app
  obtain ⟨g1, g2⟩ := h1.rcd (x := lvX2) (q := 1) rfl
  obtain ⟨k1, k2⟩ := h2.record (left := 0) (st := 18) (q := 1) (decide_eq_true ⟨by show 1 ≤ 1; omega, by show 1 < 2; omega⟩)
  exact ⟨g1.trans k1, g2.trans (k2.trans upA_at)⟩
theorem lv_clrQ : clrQ lvX2 2 = true := decide_eq_true ⟨by show 1 ≤ 2; omega, by show 2 ≤ 2; omega⟩
theorem lv_clr : clrE lvM2 lvX2 2 = 0 ∧ ∃ S, Wd lvR (solo S [] 0 false 20) lvM3 := by
  obtain ⟨_, S, h1, h2, h3⟩ := lv_app
  obtain ⟨g1, g2⟩ := h1.clr (x := lvX2) (f := 2) rfl
  rcases clr_go (left := 0) (st := 18) h2 h3 lv_clrQ (by omega) with ⟨_, k1, S', k2, k3, k4⟩ | ⟨k, _⟩
  · rw [k2] at g2
    exact ⟨g1.trans k1, S', g2⟩
  · omega
theorem lv_free3 : lvX3.free = 40 := by
  show 40 - usd (([] ++ [cF lvX1 [lvC]]).drop (2 - 1)) = 40
  rfl
theorem lv_dead : rcdE lvM3 lvX3 1 = 7 := if_neg fun e => by
  obtain ⟨e1, _⟩ := of_decide_eq_true e
  exact absurd e1 (by show ¬ 2 ≤ 1; omega)
theorem lv_small : layE lvM3 1 7 40 = 2 := by
  obtain ⟨_, S, h⟩ := lv_clr
  have he := h.is
  refine if_neg fun e => ?_
  obtain ⟨_, _, _, _, e5⟩ := of_decide_eq_true e
  rw [he] at e5
  have : ca ⟨⟨S, [], false⟩ :: lvR, 0, false, 20⟩ 1 = 12 := by
    unfold ca
    rw [if_pos (by simp [dx, lvR])]
    rfl
  omega
theorem lv_ok1 : LgOk lvM1 lvX1 0 := (lay_ok (M := lvM) (d := 0) (id := 7) (r := 40) (by omega) (decide_eq_true ⟨lv_wd.has.2, by omega, by omega, by omega, by rw [lv_wd.se, solo_se]; decide⟩)).shp (shp_lay _ _ _ _)
theorem lv_ok2 : LgOk lvM2 lvX2 1 := (lv_ok1.app lv_appQ (by omega)).shp (shp_app _ _ _)
theorem lv_ok3 : LgOk lvM3 lvX3 2 := (lv_ok2.cut lv_clrQ (by omega)).shp (shp_clr _ _ _)
theorem lv_room : Room lvM 13 ∧ Room lvM1 40 ∧ Room lvM2 2 := by
  obtain ⟨_, S1, h1, _⟩ := lv_lay
  obtain ⟨_, S2, h2, _⟩ := lv_app
  exact ⟨lv_wd.room (by omega) (lvR_room (by omega)), h1.room (by omega) (lvR_room (by omega)), h2.room (by omega) (lvR_room (by omega))⟩
theorem lv_room3 : Room lvM3 13 := by
  obtain ⟨_, S, h⟩ := lv_clr
  exact h.room (by omega) (lvR_room (by omega))
def LooE : Elt (Int × Blk) := pairE 152 177 Tryz.underlying152 (by kernel_rfl)
structure RefD (w : World) (p : Nat) (vS vL : Value) (S : List Blk) (L : List (Int × Blk)) (g : Bool) : Prop where
  at_ : w.heap[p]? = some (.cells #[vS, vL, .bool g] 154)
  S_ : az BlkE w 0 vS S
  L_ : az LooE w 0 vL L
section
variable {w w' : World} {p : Nat} {vS vL : Value} {S : List Blk} {L : List (Int × Blk)} {g : Bool} {F : Nat → Prop}
theorem RefD.lt (h : RefD w p vS vL S L g) : ∀ k, foot p vS vL k → k < w.heap.size := by
  intro k hk
  rcases hk with rfl | hk | hk
  · exact (Array.getElem?_eq_some_iff.1 h.at_).1
  · exact h.S_.own_lt k hk
  · exact h.L_.own_lt k hk
theorem RefD.only (h : RefD w p vS vL S L g) (k : Only F w w') (hn : ∀ b, foot p vS vL b → ¬ F b) : RefD w' p vS vL S L g :=
  ⟨k.keep h.at_ (hn p (.inl rfl)), h.S_.only k fun b hb => hn b (.inr (.inl hb)), h.L_.only k fun b hb => hn b (.inr (.inr hb))⟩
theorem RefD.below (h : RefD w p vS vL S L g) (k : Below w.heap.size w w') : RefD w' p vS vL S L g := h.only (Only.of_below (fun _ => False) k) fun _ _ e => e
end
theorem r_asks (p : Nat) (vS vL : Value) (S : List Blk) (L : List (Int × Blk)) (g : Bool) (n : Int) (w : World) (h : RefD w p vS vL S L g) :
    Calls Tryz.prog 84 #[.pointer (some ⟨p, 0, none⟩), .int .i64 n] w fun e w' => e = .returned (.int .i64 (cf S g n)) ∧ w = w' := by
  obtain ⟨c0, c1, c2⟩ := cells3 h.at_
  obtain ⟨A, c, rfl, hc1, hc2⟩ := h.S_.form
  by_cases h0 : n < 0
  · have HE := Lib.hid (askE_out (S := S) (n := n) g (by omega))
    go_enter Tryz.func84, Tryz.ntmps84
    go_wp2
    go_ret
    exact ⟨aL HE.out.symm, rfl⟩
  · by_cases h1 : n < S.length
    · cases g
      · have HE := Lib.hid (fp (S := S) (n := n) (by omega))
        go_enter Tryz.func84, Tryz.ntmps84
        go_wp2
        go_ret
        exact ⟨aL HE.out.symm, rfl⟩
      · have HE := Lib.hid (askE_dead (S := S) (n := n) (by omega))
        go_enter Tryz.func84, Tryz.ntmps84
        go_wp2
        go_ret
        exact ⟨aL HE.out.symm, rfl⟩
    · have HE := Lib.hid (askE_out (S := S) (n := n) g (by omega))
      go_enter Tryz.func84, Tryz.ntmps84
      go_wp2
      go_ret
      exact ⟨aL HE.out.symm, rfl⟩
set_option maxHeartbeats 1000000 in
theorem r_sure (p : Nat) (vS vL : Value) (S : List Blk) (L : List (Int × Blk)) (g : Bool) (n : Int) (w : World) (h : RefD w p vS vL S L g) :
    Calls Tryz.prog 113 #[.pointer (some ⟨p, 0, none⟩), .int .i64 n] w fun e w' => e = .returned (.tuple #[blk (sureB S g n), .int .i64 (cf S g n)]) ∧ Below w.heap.size w w' := by
  have hA := (Below.refl w.heap.size w).alloc (Nat.le_refl _) (.cells (cel al).toArray 65)
  have h1 := h.below hA
  have HT := Lib.hid (dd w al 65)
  have HA := Lib.hid hA
  clear hA
  rcases dR (S := S) (g := g) (n := n) with he | he | ⟨he, rfl, k, rfl, hk⟩
  · have HS := Lib.hid (sureB_no (S := S) (g := g) (n := n) (by omega))
    have HE := Lib.hid he
    clear he
    go_enter Tryz.func113, Tryz.ntmps113
    go_wp2_with (first | (refine ai rfl (aJ rfl) ?_) | fail)
    refine (r_asks p vS vL S L g n _ h1).mono ?_
    rintro e w1 ⟨rfl, rfl⟩
    rw [HE.out]
    go_wp2_with (first | (refine ai rfl (bV (c := al) (parts := []) rfl rfl) ?_) | (refine aF rfl (aH rfl rfl rfl HT.out) ?_))
    refine bodyPost_ret (bO rfl _ _ _ rfl (World.rangeAt_setCells_same _ _ _ _ (by rw [aw]; exact HT.out))) rfl ⟨by rw [HS.out, HE.out]; rfl, below_setCells HA.out (Nat.le_refl _) _⟩
  · have HS := Lib.hid (sureB_no (S := S) (g := g) (n := n) (by omega))
    have HE := Lib.hid he
    clear he
    go_enter Tryz.func113, Tryz.ntmps113
    go_wp2_with (first | (refine ai rfl (aJ rfl) ?_) | fail)
    refine (r_asks p vS vL S L g n _ h1).mono ?_
    rintro e w1 ⟨rfl, rfl⟩
    rw [HE.out]
    go_wp2_with (first | (refine ai rfl (bV (c := al) (parts := []) rfl rfl) ?_) | (refine aF rfl (aH rfl rfl rfl HT.out) ?_))
    refine bodyPost_ret (bO rfl _ _ _ rfl (World.rangeAt_setCells_same _ _ _ _ (by rw [aw]; exact HT.out))) rfl ⟨by rw [HS.out, HE.out]; rfl, below_setCells HA.out (Nat.le_refl _) _⟩
  · have HS := Lib.hid (sureB_ok he)
    have HE := Lib.hid he
    clear he
    obtain ⟨A, c, rfl, hrd, hc1, hc2⟩ := h1.S_.open_ rfl
    obtain ⟨b, off, rfl, hb, hr⟩ := hrd.blk hk
    obtain ⟨c0, c1, c2⟩ := cells3 h1.at_
    generalize S.getD k al = x at *
    have HR := Lib.hid hr
    clear hr hrd
    go_enter Tryz.func113, Tryz.ntmps113
    go_wp2_with (first | (refine ai rfl (aJ rfl) ?_) | fail)
    refine (r_asks p _ vL S L false k _ h1).mono ?_
    rintro e w1 ⟨rfl, rfl⟩
    rw [HE.out]
    go_wp2_with (first | (refine ai rfl (aI rfl rfl HR.out) ?_) | (refine aF rfl (aH rfl rfl rfl HT.out) ?_))
    refine bodyPost_ret (bO rfl _ _ _ rfl (World.rangeAt_setCells_same _ _ _ _ (by rw [aw]; exact HT.out))) rfl ⟨by rw [HS.out, HE.out]; rfl, below_setCells HA.out (Nat.le_refl _) _⟩
theorem r_read_no (p : Nat) (vS vL : Value) (S : List Blk) (L : List (Int × Blk)) (g : Bool) (n : Int) (w : World) (h : RefD w p vS vL S L g) (he0 : cf S g n ≠ 0) :
    Calls Tryz.prog 145 #[.pointer (some ⟨p, 0, none⟩), .int .i64 n] w fun e w' => e = .returned (.tuple #[blk (ej S L g n), .int .i64 (cf S g n)]) ∧ Below w.heap.size w w' := by
  have hA := (Below.refl w.heap.size w).alloc (Nat.le_refl _) (.cells (cel al).toArray 65)
  have h1 := h.below hA
  have HT := Lib.hid (dd w al 65)
  have HA := Lib.hid hA
  have HS := Lib.hid (readB_no (L := L) he0)
  clear hA
  rcases dR (S := S) (g := g) (n := n) with he | he | ⟨he, _⟩
  · have HE := Lib.hid he
    clear he he0
    go_enter Tryz.func145, Tryz.ntmps145
    go_wp2_with (first | (refine ai rfl (aJ rfl) ?_) | fail)
    refine (r_asks p vS vL S L g n _ h1).mono ?_
    rintro e w1 ⟨rfl, rfl⟩
    rw [HE.out]
    go_wp2_with (first | (refine ai rfl (bV (c := al) (parts := []) rfl rfl) ?_) | (refine aF rfl (aH rfl rfl rfl HT.out) ?_))
    refine bodyPost_ret (bO rfl _ _ _ rfl (World.rangeAt_setCells_same _ _ _ _ (by rw [aw]; exact HT.out))) rfl ⟨by rw [HS.out, HE.out]; rfl, below_setCells HA.out (Nat.le_refl _) _⟩
  · have HE := Lib.hid he
    clear he he0
    go_enter Tryz.func145, Tryz.ntmps145
    go_wp2_with (first | (refine ai rfl (aJ rfl) ?_) | fail)
    refine (r_asks p vS vL S L g n _ h1).mono ?_
    rintro e w1 ⟨rfl, rfl⟩
    rw [HE.out]
    go_wp2_with (first | (refine ai rfl (bV (c := al) (parts := []) rfl rfl) ?_) | (refine aF rfl (aH rfl rfl rfl HT.out) ?_))
    refine bodyPost_ret (bO rfl _ _ _ rfl (World.rangeAt_setCells_same _ _ _ _ (by rw [aw]; exact HT.out))) rfl ⟨by rw [HS.out, HE.out]; rfl, below_setCells HA.out (Nat.le_refl _) _⟩
  · exact absurd he he0
set_option maxHeartbeats 2000000 in
theorem r_read_ok (p k : Nat) (vS vL : Value) (S : List Blk) (L : List (Int × Blk)) (w : World) (h : RefD w p vS vL S L false) (hk : k < S.length) :
    Calls Tryz.prog 145 #[.pointer (some ⟨p, 0, none⟩), .int .i64 k] w fun e w' => e = .returned (.tuple #[blk (ej S L false k), .int .i64 0]) ∧ Below w.heap.size w w' := by
  have hA := (Below.refl w.heap.size w).alloc (Nat.le_refl _) (.cells (cel al).toArray 65)
  have h1 := h.below hA
  have he : cf S false k = 0 := fp (by omega)
  have HE := Lib.hid he
  have HS := Lib.hid (readB_ok (L := L) he)
  have HN1 := new1 w (cel al).toArray 65
  clear he
  obtain ⟨A, c, rfl, hrd, hc1, hc2⟩ := h1.S_.open_ rfl
  obtain ⟨b, off, rfl, hb, hr⟩ := hrd.blk hk
  obtain ⟨c0, c1, c2⟩ := cells3 h1.at_
  generalize S.getD k al = x at *
  have HR := Lib.hid hr
  have HH := Lib.hid h1
  have HA := Lib.hid hA
  have HN := Lib.hid HN1
  have HSZ := Lib.hid (World.size_alloc w (.cells (cel al).toArray 65))
  clear hr hrd h1 hA h HN1
  go_enter Tryz.func145, Tryz.ntmps145
  go_wp2_with (first | (refine ai rfl (aJ rfl) ?_) | fail)
  generalize w.alloc (.cells (cel al).toArray 65) = w1 at *
  refine (r_asks p _ vL S L false k _ HH.out).mono ?_
  rintro e w2 ⟨rfl, rfl⟩
  rw [HE.out]
  go_wp2_with (first | (refine ai rfl (aI rfl rfl HR.out) ?_) | (refine ai rfl (aJ rfl) ?_) | (refine aF rfl (exec_fill rfl rfl rfl) ?_) | fail)
  have HY := Lib.hid (new1 w1 (cel x).toArray 65)
  have HH2 := Lib.hid (HH.out.below ((Below.refl _ _).alloc (Nat.le_refl _) (.cells (cel x).toArray 65)))
  have HK2 := Lib.hid (bQ HN.out (.cells (cel x).toArray 65))
  have HA2 := Lib.hid (HA.out.alloc HA.out.size (.cells (cel x).toArray 65))
  have HF := Lib.hid HH.out.lt
  have hyw : w.heap.size < w1.heap.size := by rw [HSZ.out]; omega
  have HSZ2 := Lib.hid (World.size_alloc w1 (.cells (cel x).toArray 65))
  clear HH HN HA c0 c1 c2 HR
  generalize hy : w1.heap.size = y at *
  generalize w1.alloc (.cells (cel x).toArray 65) = w2 at *
  clear hy
  go_wp2_with fail
  go_loopw [8] (fun i wr => ∃ j : Nat, j ≤ L.length ∧ i = .int .i64 j ∧ Only (fun b => b = y) w2 wr ∧ wr.heap[y]? = some (.cells (cel (lastW (L.take j) k x)).toArray 65)) (fun i _ => L.length - (intOf i).toNat)
  case atStart => exact ⟨0, Nat.zero_le _, rfl, Only.refl _ _, HY.out⟩
  case round =>
    obtain ⟨j, hj, rfl, hon, hY⟩ := hrel
    have hH := HH2.out.only hon (fun b hb e => by have := HF.out b hb; omega)
    obtain ⟨c0, c1, c2⟩ := cells3 hH.at_
    obtain ⟨AL, cL, rfl, hrd, hl1, hl2⟩ := hH.L_.open_ rfl
    unfold maxLen at hl2
    have HON := Lib.hid hon
    have HYW := Lib.hid hY
    clear hon hY hH
    by_cases hlt : j < L.length
    · have HNX := Lib.hid (lastW_succ (L := L) (k : Int) x hlt)
      obtain ⟨bA, oA, rfl, hA, cA, rA⟩ := hrd.pair hlt
      generalize L.getD j (0, al) = q at *
      obtain ⟨qn, qb⟩ := q
      have HRA := Lib.hid rA
      have HTY := Lib.hid (blk_there HYW.out)
      clear rA hrd
      have hAw : bA ≠ y := by have := HF.out bA (.inr (.inr rfl)); omega
      have hLL : (j : Int) < (L.length : Int) := by omega
      by_cases e : qn = (k : Int)
      · simp only [e, if_true] at HNX
        subst e
        go_wp2_with (first | (refine ai rfl (aI rfl rfl HRA.out) ?_) | (refine aF rfl (aH rfl rfl rfl HTY.out) ?_))
        go_roundw
        case rel => exact ⟨j + 1, by omega, by go_num, HON.out.setCells (.inl rfl) _ _, by rw [HNX.out]; exact blk_laid HYW.out⟩
        case measure => simp [intOf]; omega
      · rw [if_neg e] at HNX
        go_wp2_with (first | (refine ai rfl (aI rfl rfl HRA.out) ?_) | (refine aF rfl (aH rfl rfl rfl HTY.out) ?_))
        go_roundw
        case rel => exact ⟨j + 1, by omega, by go_num, HON.out, by rw [HNX.out]; exact HYW.out⟩
        case measure => simp [intOf]; omega
    · have hjn : j = L.length := by omega
      subst hjn
      have HR := Lib.hid (HON.out.keep HK2.out (by omega))
      have HTR := Lib.hid (blk_there HR.out)
      have HRY := Lib.hid (blk_range HYW.out)
      rw [List.take_length] at HRY
      generalize lastW L (k : Int) x = z at *
      have hLL : ¬((L.length : Int) < (L.length : Int)) := by omega
      go_wp2_with (first | (refine ai rfl (aI rfl rfl HRY.out) ?_) | (refine aF rfl (aH rfl rfl rfl HTR.out) ?_))
      refine bodyPost_ret (bO rfl _ _ _ rfl (World.rangeAt_setCells_same _ _ _ _ (by rw [aw]; exact HTR.out))) rfl ⟨by rw [HS.out]; rfl, ?_⟩
      exact below_setCells (HA2.out.trans (HON.out.below (fun b hb => by omega) (by rw [HSZ2.out]; omega))) (Nat.le_refl _) _
theorem r_read (p : Nat) (vS vL : Value) (S : List Blk) (L : List (Int × Blk)) (g : Bool) (n : Int) (w : World) (h : RefD w p vS vL S L g) :
    Calls Tryz.prog 145 #[.pointer (some ⟨p, 0, none⟩), .int .i64 n] w fun e w' => e = .returned (.tuple #[blk (ej S L g n), .int .i64 (cf S g n)]) ∧ Below w.heap.size w w' := by
  by_cases he : cf S g n = 0
  · rcases dR (S := S) (g := g) (n := n) with h1 | h1 | ⟨_, rfl, k, rfl, hk⟩
    · omega
    · omega
    · rw [he]; exact r_read_ok p k vS vL S L w h hk
  · exact r_read_no p vS vL S L g n w h he
section
variable {w w' : World} {p : Nat} {vS vL : Value} {S : List Blk} {L : List (Int × Blk)} {g : Bool}
theorem RefD.setG (h : RefD w p vS vL S L g) (g' : Bool) : RefD (w.setCell ⟨p, 2, none⟩ (.bool g')) p vS vL S L g' := by
  have hO := cy w p 2 (.bool g')
  refine ⟨?_, h.S_.only hO fun b hb e => h.S_.cw h.at_ (by decide) (by rw [hb, e]), h.L_.only hO fun b hb e => h.L_.cw h.at_ (by decide) (by rw [hb, e])⟩
  have := heap_setCell_same w p 2 _ _ (.bool g') h.at_
  simpa using this
theorem RefD.setL (h : RefD w p vS vL S L g) {vL' : Value} {L' : List (Int × Blk)} (h' : az LooE w 0 vL' L') : RefD (w.setCell ⟨p, 1, none⟩ vL') p vS vL' S L' g := by
  have hO := cy w p 1 vL'
  refine ⟨?_, h.S_.only hO fun b hb e => h.S_.cw h.at_ (by decide) (by rw [hb, e]), h'.only hO fun b hb e => h'.cw h.at_ (by decide) (by rw [hb, e])⟩
  have := heap_setCell_same w p 1 _ _ vL' h.at_
  simpa using this
theorem lay_L (hp : w.heap[p]? = some (.cells #[vS, vL, .bool g] 154)) (hS : az BlkE w 0 vS S) {vL' : Value} {L' : List (Int × Blk)} (h' : az LooE w 0 vL' L') : RefD (w.setCell ⟨p, 1, none⟩ vL') p vS vL' S L' g := by
  have hO := cy w p 1 vL'
  refine ⟨?_, hS.only hO fun b hb e => hS.cw hp (by decide) (by rw [hb, e]), h'.only hO fun b hb e => h'.cw hp (by decide) (by rw [hb, e])⟩
  have := heap_setCell_same w p 1 _ _ vL' hp
  simpa using this
theorem faD0 {b : Nat} : (Instr.fieldAt 154 (.pointer (some ⟨b, 0, none⟩)) 0).run Tryz.prog w = .ok (.pointer (some ⟨b, 0, none⟩)) w := by kernel_rfl
theorem faD1 {b : Nat} : (Instr.fieldAt 154 (.pointer (some ⟨b, 0, none⟩)) 1).run Tryz.prog w = .ok (.pointer (some ⟨b, 1, none⟩)) w := by kernel_rfl
theorem ldSl {a : Addr} {A : Option Addr} {n c : Nat} (h : w.cell? a = some (.slice A n c)) : (Instr.loadAt 152 (.pointer (some a))).run Tryz.prog w = .ok (.slice A n c) w := by simp [go_sem, h]
theorem stS {a : Addr} {v : Value} {A : Option Addr} {n c : Nat} (h : w.cell? a = some v) (hf : w.frozen? a = false) : (Instr.storeAt 152 (.pointer (some a)) (.slice A n c)).run Tryz.prog w = .ok () (w.setCell a (.slice A n c)) := by simp [go_sem, h, hf]
theorem run_buildL (k : Int) (b : Blk) : (Instr.build 177 #[(0, .int .i64 k), (1, blk b)]).run Tryz.prog w = .ok (pairV k b) w := by
  have hz := run_zeroE LooE w
  have h1 := fill_one (place := fun i => (#[(0, 1), (1, 64)] : Array (Nat × Nat))[i]?) (i := 0) (off := 0) (size := 1) (v := .int .i64 k) (pre := []) (mid := [.int .i64 0]) (post := cel al) (vs := [.int .i64 k]) (rest := [(1, blk b)]) rfl rfl rfl rfl rfl
  have h2 := fill_one (place := fun i => (#[(0, 1), (1, 64)] : Array (Nat × Nat))[i]?) (i := 1) (off := 1) (size := 64) (v := blk b) (pre := [.int .i64 k]) (mid := cel al) (post := []) (vs := cel b) (rest := []) rfl rfl (aw b) rfl (aw al)
  simp only [List.nil_append, List.append_nil, List.singleton_append] at h1 h2
  have h3 := h1.trans h2
  have hz' : (zeroValue 177).run Tryz.prog w = .ok (pairV 0 al) w := hz
  have hc : (pairV 0 al).cells = (.int .i64 0 :: cel al).toArray := rfl
  simp only [Instr.build, Sem.run_bind, hz', run_underlying Tryz.underlying177, Result.andThen_ok, hc]
  refine Eq.trans (congrArg (fun r => Result.andThen r _) (?h : _ = Result.ok #[(0, 1), (1, 64)] w)) ?_
  case h => kernel_rfl
  simp only [Result.andThen_ok]
  have h4 : Instr.fill (fun i => (#[(0, 1), (1, 64)] : Array (Nat × Nat))[i]?) (.int .i64 k :: cel b).toArray [] = some (.int .i64 k :: cel b).toArray := by rw [Instr.fill]
  rw [h3.trans h4]
  rfl
theorem exec_buildL {ρ : Operand → Value} {o : Oper} {x y : Operand} {k : Int} {b : Blk} (ho : o.op = .build 177 #[(0, x), (1, y)]) (hx : ρ x = .int .i64 k) (hy : ρ y = blk b) : (execOp ρ o).run Tryz.prog w = .ok (.value (pairV k b)) w := by
  have h := run_buildL (w := w) k b
  unfold execOp
  simp only [ho, List.map_toArray, List.map_cons, List.map_nil, hx, hy, Sem.run_bind, h, Result.andThen_ok, Sem.run_pure]
theorem pair_cells (k : Int) (b : Blk) : (pairV k b).cells = (LooE.cel (k, b)).toArray := rfl
end
theorem r_fail (p : Nat) (vS vL : Value) (S : List Blk) (L : List (Int × Blk)) (g : Bool) (w : World) (h : RefD w p vS vL S L g) :
    Calls Tryz.prog 110 #[.pointer (some ⟨p, 0, none⟩)] w fun e w' => (∃ v, e = .returned v) ∧ RefD w' p vS (.slice none 0 0) S [] true ∧ Only (foot p vS vL) w w' := by
  obtain ⟨c0, c1, c2⟩ := cells3 h.at_
  have f1 := frozen_of_row w p 1 _ _ h.at_
  have f2 := frozen_of_row w p 2 _ _ h.at_
  have H := Lib.hid h
  clear h
  go_enter Tryz.func110, Tryz.ntmps110
  go_wp2
  refine bodyPost_end (results_none rfl _ _ _) rfl ⟨⟨_, rfl⟩, (H.out.setG true).setL (az.nil _ _), ?_⟩
  exact ((cy w p 2 _).trans (cy _ p 1 _) fun b hb => .inl hb).widen fun b hb => .inl hb
set_option maxHeartbeats 1000000 in
theorem r_write_no (p : Nat) (vS vL : Value) (S : List Blk) (L : List (Int × Blk)) (g : Bool) (n : Int) (b : Blk) (w : World) (h : RefD w p vS vL S L g) (he0 : cf S g n ≠ 0) :
    Calls Tryz.prog 86 #[.pointer (some ⟨p, 0, none⟩), .int .i64 n, blk b] w fun e w' => e = .returned (.int .i64 (cf S g n)) ∧ Below w.heap.size w w' := by
  have hA := (Below.refl w.heap.size w).alloc (Nat.le_refl _) (.cells (cel b).toArray 65)
  have h1 := h.below hA
  have HA := Lib.hid hA
  clear hA
  have H0 := Lib.hid he0
  rcases dR (S := S) (g := g) (n := n) with he | he | ⟨he, _⟩
  · have HE := Lib.hid he
    clear he he0
    go_enter Tryz.func86, Tryz.ntmps86
    go_wp2_with (first | (refine ai rfl (bG rfl rfl) ?_) | fail)
    refine (r_asks p vS vL S L g n _ h1).mono ?_
    rintro e w1 ⟨rfl, rfl⟩
    rw [HE.out]
    go_wp2_with fail
    go_ret
    exact ⟨aL HE.out.symm, HA.out⟩
  · have HE := Lib.hid he
    clear he he0
    go_enter Tryz.func86, Tryz.ntmps86
    go_wp2_with (first | (refine ai rfl (bG rfl rfl) ?_) | fail)
    refine (r_asks p vS vL S L g n _ h1).mono ?_
    rintro e w1 ⟨rfl, rfl⟩
    rw [HE.out]
    go_wp2_with fail
    go_ret
    exact ⟨aL HE.out.symm, HA.out⟩
  · exact absurd he he0
set_option maxHeartbeats 1000000 in
theorem r_write_ok (p k : Nat) (vS vL : Value) (S : List Blk) (L : List (Int × Blk)) (b : Blk) (w : World) (h : RefD w p vS vL S L false) (hk : k < S.length) (hL : L.length < 1000000) :
    Calls Tryz.prog 86 #[.pointer (some ⟨p, 0, none⟩), .int .i64 k, blk b] w fun e w' => e = .returned (.int .i64 0) ∧ ∃ vL', RefD w' p vS vL' S (L ++ [((k : Int), b)]) false ∧ Only (foot p vS vL) w w' ∧ (∀ x, vL'.ownBlock = some x → vL.ownBlock = some x ∨ w.heap.size ≤ x) := by
  have hA := (Below.refl w.heap.size w).alloc (Nat.le_refl _) (.cells (cel b).toArray 65)
  have h1 := h.below hA
  have HA := Lib.hid hA
  have HE := Lib.hid (fp (S := S) (n := (k : Int)) (by omega))
  have HB := Lib.hid (new1 w (cel b).toArray 65)
  clear hA
  obtain ⟨AL, cL, rfl, hl1, hl2⟩ := h1.L_.form
  go_enter Tryz.func86, Tryz.ntmps86
  go_wp2_with (first | (refine ai rfl (bG rfl rfl) ?_) | fail)
  refine (r_asks p vS _ S L false k _ h1).mono ?_
  rintro e w1 ⟨rfl, rfl⟩
  rw [HE.out]
  go_wp2_with fail
  generalize hy : w.heap.size = y at *
  generalize w.alloc (.cells (cel b).toArray 65) = w1 at *
  refine bC (fun w' => w'.heap[p]? = some (.cells #[vS, .slice AL L.length cL, .bool false] 154) ∧ w'.heap[y]? = some (.cells (cel b).toArray 65)) 12 (by kernel_rfl) ?_
  change cp _ _ _ _ _ _ 13 _ _ w1.drew
  have hS : w1.drew.heap[p]? = some (.cells #[vS, .slice AL L.length cL, .bool false] 154) ∧ w1.drew.heap[y]? = some (.cells (cel b).toArray 65) := ⟨h1.at_, HB.out⟩
  refine ap 0 rfl (by kernel_rfl) (by kernel_rfl) (by kernel_rfl) (by decide) (by kernel_rfl) rfl (fun w' hw => ah rfl (ev rfl)) (fun _ _ _ h => h) hS ?_
  simp only [Act.put, aa, ae, af]
  refine ap 1 rfl (by kernel_rfl) (by kernel_rfl) (by kernel_rfl) (by decide) (by kernel_rfl) rfl (fun w' hw => ah rfl (ev rfl)) (fun _ _ _ h => h) hS ?_
  simp only [Act.put, aa, ae, af]
  refine ap 2 rfl (by kernel_rfl) (by kernel_rfl) (by kernel_rfl) (by decide) (by kernel_rfl) rfl (fun w' hw => ay rfl (ev rfl)) (fun _ _ _ h => h) hS ?_
  simp only [Act.put, aa, ae, af]
  refine ap 3 rfl (by kernel_rfl) (by kernel_rfl) (by kernel_rfl) (by decide) (by kernel_rfl) rfl (fun w' hw => ak rfl (ev rfl) faD1) (fun _ _ _ h => h) hS ?_
  simp only [Act.put, aa, ae, af]
  refine ap 4 rfl (by kernel_rfl) (by kernel_rfl) (by kernel_rfl) (by decide) (by kernel_rfl) rfl (fun w' hw => au rfl (ev rfl) (ldSl (cells3 hw.1).2.1)) (fun _ _ _ h => h) hS ?_
  simp only [Act.put, aa, ae, af]
  refine ap 5 rfl (by kernel_rfl) (by kernel_rfl) (by kernel_rfl) (by decide) (by kernel_rfl) rfl (fun w' hw => ah rfl (ev rfl)) (fun _ _ _ h => h) hS ?_
  simp only [Act.put, aa, ae, af]
  refine ap 6 rfl (by kernel_rfl) (by kernel_rfl) (by kernel_rfl) (by decide) (by kernel_rfl) rfl (fun w' hw => aI rfl (ev rfl) (blk_range hw.2)) (fun _ _ _ h => h) hS ?_
  simp only [Act.put, aa, ae, af]
  refine ap 7 rfl (by kernel_rfl) (by kernel_rfl) (by kernel_rfl) (by decide) (by kernel_rfl) rfl (fun w' hw => exec_buildL rfl (ev rfl) (ev rfl)) (fun _ _ _ h => h) hS ?_
  simp only [Act.put, aa, ae, af]
  have hr : RefD w1.drew p vS (.slice AL L.length cL) S L false := ⟨h1.at_, h1.S_, h1.L_⟩
  have hS2 : RefD (w1.drew.alloc (.cells (LooE.cel ((k : Int), b)).toArray LooE.t)) p vS (.slice AL L.length cL) S L false := hr.below ((Below.refl _ _).alloc (Nat.le_refl _) _)
  have hb2 := bQ hS.2 (.cells (LooE.cel ((k : Int), b)).toArray LooE.t)
  have hnew : RdE LooE _ _ _ 1 _ := dY (E := LooE) (l := [((k : Int), b)]) w1.drew (LooE.cel ((k : Int), b)).toArray LooE.t (by rw [dv]; simp [bi])
  obtain ⟨v3, w3, hrun, hm3, hg3, ho3⟩ := eq LooE _ 152 0 _ 1 1 _ _ _ _ hS2.L_ hnew (Nat.zero_le _) (by omega)
  have hO2 : Only (foot p vS (.slice AL L.length cL)) w (w1.drew.alloc (.cells (LooE.cel ((k : Int), b)).toArray LooE.t)) := (Only.of_below _ (hy ▸ HA.out)).drew.alloc _
  have hO3 := hO2.grown hg3 (fun x hx => .inl (.inr (.inr hx)))
  have hp3 : w3.heap[p]? = some (.cells #[vS, .slice AL L.length cL, .bool false] 154) := (hg3.block p (aS hS2.at_) (fun e => hS2.L_.cw hS2.at_ (by decide) e.symm)).trans hS2.at_
  have hy3 : w3.heap[y]? = some (.cells (cel b).toArray 65) := (hg3.block y (aS hb2) (fun e => hS2.L_.cw hb2 (by decide) e.symm)).trans hb2
  have hSS3 := hS2.S_.kept hg3 (hS2.S_.other hS2.L_ (by decide))
  refine bk 8 rfl (by kernel_rfl) rfl (df (E := LooE) (a := ((k : Int), b)) rfl (ev rfl) (pair_cells _ _) (by decide)) (fun _ => ⟨hS2.at_, hb2⟩) ?_
  simp only [Act.put, aa, ae, af]
  refine bk 9 rfl (by kernel_rfl) rfl (fv (E := LooE) rfl (ev rfl) (ev rfl) hrun) (fun _ => ⟨hp3, hy3⟩) ?_
  simp only [Act.put, aa, ae, af]
  refine bk 10 rfl (by kernel_rfl) rfl (ay rfl (ev rfl)) (fun _ => ⟨hp3, hy3⟩) ?_
  simp only [Act.put, aa, ae, af]
  refine bk 11 rfl (by kernel_rfl) rfl (ak rfl (ev rfl) faD1) (fun _ => ⟨hp3, hy3⟩) ?_
  simp only [Act.put, aa, ae, af]
  obtain ⟨A3, c3, rfl, _, _⟩ := hm3.form
  refine eB 12 rfl (by kernel_rfl) rfl (exec_st rfl (ev rfl) (ev rfl) (stS (cells3 hp3).2.1 (frozen_of_row _ _ _ _ _ hp3))) (fun e => absurd rfl e) ?_
  simp only [Act.put]
  refine b8 (by kernel_rfl) ?_ _
  go_wp2_with fail
  go_ret
  refine ⟨rfl, _, lay_L hp3 hSS3 hm3, hO3.setCell (.inl (.inl rfl)) _, fun x hx => ?_⟩
  rcases ho3 x hx with e | e
  · exact .inl e
  · refine .inr (Nat.le_trans ?_ e)
    have := hO2.size
    omega
theorem r_write (p : Nat) (vS vL : Value) (S : List Blk) (L : List (Int × Blk)) (g : Bool) (n : Int) (b : Blk) (w : World) (h : RefD w p vS vL S L g) (hL : L.length < 1000000) :
    Calls Tryz.prog 86 #[.pointer (some ⟨p, 0, none⟩), .int .i64 n, blk b] w fun e w' => e = .returned (.int .i64 (cf S g n)) ∧ ∃ vL', RefD w' p vS vL' S (wrL S L g n b) g ∧ Only (foot p vS vL) w w' ∧ (∀ x, vL'.ownBlock = some x → vL.ownBlock = some x ∨ w.heap.size ≤ x) := by
  by_cases he : cf S g n = 0
  · rcases dR (S := S) (g := g) (n := n) with h1 | h1 | ⟨_, rfl, k, rfl, hk⟩
    · omega
    · omega
    · have e : wrL S L false k b = L ++ [((k : Int), b)] := by unfold wrL; rw [if_pos he]
      rw [e, he]
      exact r_write_ok p k vS vL S L b w h hk hL
  · have e : wrL S L g n b = L := by unfold wrL; rw [if_neg he]
    rw [e]
    exact (r_write_no p vS vL S L g n b w h he).mono fun e w' ⟨h1, h2⟩ => ⟨h1, vL, h.below h2, Only.of_below _ h2, fun x hx => .inl hx⟩
section
variable {w : World} {p b off gg n c k : Nat} {vL : Value} {S : List Blk} {L : List (Int × Blk)} {g : Bool}
theorem faL0 : (Instr.fieldAt 177 (.pointer (some ⟨b, off, none⟩)) 0).run Tryz.prog w = .ok (.pointer (some ⟨b, off, none⟩)) w := by kernel_rfl
theorem faL1 : (Instr.fieldAt 177 (.pointer (some ⟨b, off, none⟩)) 1).run Tryz.prog w = .ok (.pointer (some ⟨b, off + 1, none⟩)) w := by kernel_rfl
theorem RefD.setS (h : RefD w p (.slice (some ⟨gg, 0, none⟩) n c) vL S L g) (hk : k < n) (x : Blk) : RefD (w.setCells gg (k * 64) (cel x)) p (.slice (some ⟨gg, 0, none⟩) n c) vL (S.set k x) L g := by
  have hO : Only (fun b => b = gg) w (w.setCells gg (k * 64) (cel x)) := (Only.refl (fun b => b = gg) w).setCells (.inl rfl) _ _
  refine ⟨hO.keep h.at_ (fun e => h.S_.cw h.at_ (by decide) (by rw [e]; rfl)), h.S_.store hk x, h.L_.only hO fun b hb e => ?_⟩
  rcases h.L_.other h.S_ (by decide) with e' | e'
  · rw [e'] at hb; cases hb
  · exact e' (by rw [hb, e]; rfl)
end
theorem r_flush_dead (p : Nat) (vS vL : Value) (S : List Blk) (L : List (Int × Blk)) (w : World) (h : RefD w p vS vL S L true) :
    Calls Tryz.prog 158 #[.pointer (some ⟨p, 0, none⟩)] w fun e w' => e = .returned (.int .i64 9) ∧ w = w' := by
  obtain ⟨c0, c1, c2⟩ := cells3 h.at_
  go_enter Tryz.func158, Tryz.ntmps158
  go_wp2
  go_ret
  exact ⟨rfl, rfl⟩
set_option maxHeartbeats 2000000 in
theorem r_flush_ok (p : Nat) (vS vL : Value) (S : List Blk) (L : List (Int × Blk)) (w : World) (h : RefD w p vS vL S L false) (hF : Fit S L) :
    Calls Tryz.prog 158 #[.pointer (some ⟨p, 0, none⟩)] w fun e w' => e = .returned (.int .i64 0) ∧ RefD w' p vS (.slice none 0 0) (flS S L) [] false ∧ Only (foot p vS vL) w w' := by
  obtain ⟨c0, c1, c2⟩ := cells3 h.at_
  obtain ⟨AL, cL, rfl, hl1, hl2⟩ := h.L_.form
  unfold maxLen at hl2
  have HH := Lib.hid h
  have HF := Lib.hid hF
  clear h hF
  go_enter Tryz.func158, Tryz.ntmps158
  go_wp2
  clear c0 c1 c2
  go_loopw [3] (fun i wr => ∃ j : Nat, j ≤ L.length ∧ i = .int .i64 j ∧ RefD wr p vS (.slice AL L.length cL) (flS S (L.take j)) L false ∧ Only (foot p vS (.slice AL L.length cL)) w wr) (fun i _ => L.length - (intOf i).toNat)
  case atStart => exact ⟨0, Nat.zero_le _, rfl, HH.out, Only.refl _ _⟩
  case round =>
    obtain ⟨j, hj, rfl, hr, hon⟩ := hrel
    obtain ⟨c0, c1, c2⟩ := cells3 hr.at_
    by_cases hlt : j < L.length
    · obtain ⟨k, hqk, hk⟩ := HF.out.at_ hlt
      have hlenS := fq S (L.take j)
      obtain ⟨gS, cS, rfl⟩ := hr.S_.slice hlenS (by omega)
      obtain ⟨bA, oA, hAe, hAl, cA, rA⟩ := hr.L_.rd.pair hlt
      have HS := Lib.hid (flS_succ (S := S) hlt)
      rw [hqk] at cA HS
      generalize (L.getD j (0, al)).2 = x at *
      have HRA := Lib.hid rA
      have HA := Lib.hid (⟨c0, c1⟩ : _ ∧ _)
      have HRr := Lib.hid hr
      have HON := Lib.hid hon
      subst hAe
      have HKT := Lib.hid (show wr.there gS (k * 64) 64 from by
        have := HRr.out.S_.there hk (j := 0) (m := 64) (Nat.le_refl _)
        rw [Nat.add_zero] at this
        exact this)
      clear hr hon rA hqk hlenS
      have hLL : (j : Int) < (L.length : Int) := by omega
      go_wp2_with fail
      refine wp_region_still_tail 21 (by kernel_rfl) (by kernel_rfl) ?_
      simp only [List.take_succ_cons, List.take_zero, List.drop_succ_cons, List.drop_zero]
      refine av rfl (ah rfl (ev rfl)) ?_
      simp only [Act.put, aa, ae, af]
      refine av rfl (ay rfl (ev rfl)) ?_
      simp only [Act.put, aa, ae, af]
      refine av rfl (ak rfl (ev rfl) faD0) ?_
      simp only [Act.put, aa, ae, af]
      refine av rfl (au rfl (ev rfl) (ldB HA.out.1)) ?_
      simp only [Act.put, aa, ae, af]
      refine av rfl (ah rfl (ev rfl)) ?_
      simp only [Act.put, aa, ae, af]
      refine av rfl (ay rfl (ev rfl)) ?_
      simp only [Act.put, aa, ae, af]
      refine av rfl (ak rfl (ev rfl) faD1) ?_
      simp only [Act.put, aa, ae, af]
      refine av rfl (au rfl (ev rfl) (ldSl HA.out.2)) ?_
      simp only [Act.put, aa, ae, af]
      refine av rfl (ah rfl (ev rfl)) ?_
      simp only [Act.put, aa, ae, af]
      refine av rfl (aZ (E := LooE) rfl (ev rfl) (ev rfl) hlt) ?_
      simp only [Act.put, aa, ae, af]
      refine av rfl (ak rfl (ev rfl) faL0) ?_
      simp only [Act.put, aa, ae, af]
      refine av rfl (au rfl (ev rfl) (ldI cA)) ?_
      simp only [Act.put, aa, ae, af]
      refine av rfl (ah rfl (ev rfl)) ?_
      simp only [Act.put, aa, ae, af]
      refine av rfl (ay rfl (ev rfl)) ?_
      simp only [Act.put, aa, ae, af]
      refine av rfl (ak rfl (ev rfl) faD1) ?_
      simp only [Act.put, aa, ae, af]
      refine av rfl (au rfl (ev rfl) (ldSl HA.out.2)) ?_
      simp only [Act.put, aa, ae, af]
      refine av rfl (ah rfl (ev rfl)) ?_
      simp only [Act.put, aa, ae, af]
      refine av rfl (aZ (E := LooE) rfl (ev rfl) (ev rfl) hlt) ?_
      simp only [Act.put, aa, ae, af]
      refine av rfl (ak rfl (ev rfl) faL1) ?_
      simp only [Act.put, aa, ae, af]
      refine av rfl (aI rfl (ev rfl) HRA.out) ?_
      simp only [Act.put, aa, ae, af]
      refine av rfl (bX (E := BlkE) rfl (ev rfl) (ev rfl) hk) ?_
      simp only [Act.put, aa, ae, af]
      refine wpStill_nil ?_
      change wpList _ _ _ _ _ wr.drew
      go_wp2_with (first | (refine aF rfl (aH rfl rfl rfl HKT.out) ?_))
      go_roundw
      case rel =>
        have hd : RefD wr.drew p (.slice (some ⟨gS, 0, none⟩) S.length cS) (.slice (some ⟨bA, oA, none⟩) L.length cL) (flS S (L.take j)) L false := ⟨HRr.out.at_, HRr.out.S_, HRr.out.L_⟩
        exact ⟨j + 1, by omega, by go_num, by rw [HS.out]; exact hd.setS hk x, HON.out.drew.setCells (.inl (.inr (.inl rfl))) _ _⟩
      case measure => simp [intOf]; omega
    · have hjn : j = L.length := by omega
      subst hjn
      have f1 := frozen_of_row wr p 1 _ _ hr.at_
      have HRr := Lib.hid hr
      have HON := Lib.hid hon
      clear hr hon
      have hLL : ¬((L.length : Int) < (L.length : Int)) := by omega
      go_wp2
      go_ret
      have hd := HRr.out.setL (az.nil _ _)
      rw [List.take_length] at hd
      exact ⟨rfl, hd, HON.out.setCell (.inl (.inl rfl)) _⟩
set_option maxHeartbeats 800000 in
theorem refTorn_any (a b : Blk) (n : Int) (w : World) : Calls Tryz.prog 160 #[blk a, blk b, .int .i64 n] w fun e w' => e = .returned (blk (torn a b n)) ∧ Below w.heap.size w w' := by
  obtain ⟨hA, hB, hR, hO, hb⟩ := laid4 w a b al a
  obtain ⟨w4, hw4⟩ : ∃ w4, four_ w a b al a = w4 := ⟨_, rfl⟩
  rw [hw4] at hA hB hR hO hb
  have hA0 := World.rangeAt_alloc (World.rangeAt_alloc (b7 w (cel a) 65) (.cells (cel b).toArray 65)) (.cells (cel al).toArray 65)
  have HA0 := Lib.hid hA0
  have HW := Lib.hid hw4
  have HB := Lib.hid hB
  have HR := Lib.hid hR
  clear hw4 hA hB hR hA0
  go_enter Tryz.func160, Tryz.ntmps160
  go_wp2_with (first | (refine ai rfl (bG rfl rfl) ?_) | (refine ai rfl (aJ rfl) ?_) | (refine ai rfl (aI rfl rfl HA0.out) ?_) | (refine aF rfl (exec_fill rfl rfl rfl) ?_))
  have hs := HW.out
  unfold four_ at hs
  rw [hs]
  clear hs HW
  generalize hsz : w.heap.size = s at *
  go_loopw [8] (fun i wr => ∃ (j : Nat) (f : Nat → Int), j ≤ 64 ∧ ((j : Int) ≤ n ∨ j = 0) ∧ i = .int .i64 j ∧ wr.rowIs (s + 1 + 1 + 1) 65 64 (fun j => .int .u8 (f j)) ∧ (∀ m, m < 64 → f m = if m < j then byt b m else byt a m) ∧ Below (s + 1 + 1 + 1) w4 wr) (fun i _ => 64 - (intOf i).toNat)
  case atStart => exact ⟨0, byt a, by omega, .inr rfl, rfl, hO, fun m hm => rfl, Below.refl _ _⟩
  case round =>
    obtain ⟨j, f, hj, hjn, rfl, hrow, hf, hbl⟩ := hrel
    have HF := Lib.hid hf
    clear hf hO
    by_cases hlt : j < 64 ∧ (j : Int) < n
    · obtain ⟨h64, hn⟩ := hlt
      first
        | (exfalso; omega)
        | skip
          have hc1 := hrow.cell (i := j) (by omega)
          have hfr := hrow.frozen j
          have hb' := cU HB.out (by omega) hbl j _ (dW b h64)
          rw [Nat.zero_add] at hb'
          go_wp2_with fail
          go_roundw
          case rel =>
            refine ⟨j + 1, upd f j (byt b j), by omega, .inl (by omega), by go_num, row_put hrow _, ?_, hbl.setCell (by simp) _⟩
            intro m hm
            by_cases e : m = j
            · subst e; rw [upd_at, if_pos (by omega)]
            · rw [upd_off _ _ e, HF.out m hm]
              by_cases e2 : m < j
              · rw [if_pos e2, if_pos (by omega)]
              · rw [if_neg e2, if_neg (by omega)]
          case measure => simp [intOf]; omega
    · have hr := range_row (c := torn a b n) (o := 0) hrow (by omega) (fun m hm => by
        rw [Nat.zero_add, HF.out m hm, dX _ _ _ hm]
        by_cases e : m < j
        · rw [if_pos e, if_pos (by omega)]
        · rw [if_neg e, if_neg (by omega)])
      have ht := aK HR.out (by omega) hbl
      have hex : 64 ≤ j ∨ (j < 64 ∧ n ≤ (j : Int)) := by omega
      have HR2 := Lib.hid hr
      have HT2 := Lib.hid ht
      clear hr ht hlt
      rcases hex with h1 | ⟨h1, h2⟩
      all_goals
        go_wp2_with (first | (refine ai rfl (aI rfl rfl HR2.out) ?_) | (refine aF rfl (aH rfl rfl rfl HT2.out) ?_))
        refine bodyPost_ret (res_blk rfl _ _ _ rfl (World.rangeAt_setCells_same _ _ _ _ (by rw [aw]; exact HT2.out))) rfl ⟨rfl, ?_⟩
        try rw [hsz]
        exact hb.trans (below_setCells (hbl.mono (by omega)) (by omega) _)
end Go.Proofs.YtcafafdimcecpaaGreatDoor
