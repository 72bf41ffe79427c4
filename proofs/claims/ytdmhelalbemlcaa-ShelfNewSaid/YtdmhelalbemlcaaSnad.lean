import Derived.Test.YtdmhelalbemlcaaSnac
import Derived.Test.YtdmhelalbemlcaaSnab
import Derived.Test.YtdmhelalbemlcaaSnaa
import Derived.Maps.OwnSet
import Derived.LaidEqlPtr
import Derived.Deep.DeepCutAuto
import Derived.Laws.EntriesVeiled
import Derived.Test.YtdmhelalbemlcaaSnZ
namespace Go.Proofs.Ytdmhelalbemlcaa
open Go.RowKit
set_option linter.unusedVariables false
set_option linter.unusedSimpArgs false
set_option maxRecDepth 100000
theorem wshelfNew (D : ShPr) (g1 g2 g3 room : Int) (w : World) : Calls Try.prog 3 #[.agg #[.int .i64 g1, .int .i64 g2, .int .i64 g3], .int .i64 room] w fun e w' => e = .returned (.bool true) ∧ Below w.heap.size w w' := by
  by_cases hc : geoB ⟨g1, g2, g3, Vector.replicate 16 0, 0, false⟩ = true ∧ 1 ≤ room ∧ room ≤ 64
  · obtain ⟨hg, hr1, hr2⟩ := hc
    obtain ⟨k1, k2, k3, k4, _⟩ := of_geoB hg
    replace k1 : 3 ≤ g1 := k1
    replace k3 : 1 ≤ g2 := k3
    obtain ⟨N, rfl⟩ : ∃ N : Nat, g1 = (N : Int) := ⟨g1.toNat, by omega⟩
    obtain ⟨T, rfl⟩ : ∃ T : Nat, g2 = (T : Int) := ⟨g2.toNat, by omega⟩
    obtain ⟨R, rfl⟩ : ∃ R : Nat, room = (R : Int) := ⟨room.toNat, by omega⟩
    have HG : Hid (geoB (gx N T g3) = true) := Lib.hid hg
    have HR1 : Hid (1 ≤ R) := Lib.hid (by omega)
    have HR2 : Hid (R ≤ 64) := Lib.hid (by omega)
    clear hg hr1 hr2 k1 k2 k3 k4
    go_enter Try.func3, Try.ntmps3
    go_upto_region 0 with fail
    refine wp_region_lit ?_
    refine af rfl (bq (cs := ([.int .i64 (N : Int), .int .i64 (T : Int), .int .i64 g3] : List Value)) rfl (ev rfl)) ?_
    simp only [Act.put, aa, ac, ae]
    have hbx := (Below.refl w.heap.size w).alloc (Nat.le_refl _) (.cells ([.int .i64 (N : Int), .int .i64 (T : Int), .int .i64 g3] : List Value).toArray 23)
    have P1 := Lib.hid (heap_alloc_new w (.cells ([.int .i64 (N : Int), .int .i64 (T : Int), .int .i64 g3] : List Value).toArray 23))
    have HB1 := Lib.hid hbx
    clear hbx
    generalize w.alloc (.cells ([.int .i64 (N : Int), .int .i64 (T : Int), .int .i64 g3] : List Value).toArray 23) = w1 at *
    refine af (v := .bool false) rfl (al rfl evk) ?_
    simp only [Act.put, aa, ac, ae]
    refine wpList_nil ?_
    go_upto_region 1 with fail
    refine wp_region_lit ?_
    refine af rfl (aT (cs := ([.int .i64 (N : Int), .int .i64 (T : Int), .int .i64 g3] : List Value)) Try.underlying23 rfl (by kernel_rfl) rfl (ev rfl) (aL P1.out)) ?_
    simp only [Act.put, aa, ac, ae]
    refine af rfl (ah rfl (ev rfl)) ?_
    simp only [Act.put, aa, ac, ae]
    refine aj rfl (ar Try.call4 rfl (evc (ev rfl) (evc (ev rfl) evn))) ?_
    refine (D.new_ok w1 HG.out HR1.out HR2.out).mono ?_
    rintro e w2 ⟨p1, S1, rfl, _, b2, _⟩
    have HB2 := Lib.hid (HB1.out.trans (b2.mono HB1.out.size))
    have P2 := Lib.hid (aw P1.out b2)
    clear b2
    refine ⟨_, rfl, ?_⟩
    simp only [Act.put, aa, ac, ae]
    refine af rfl (ah rfl (ev rfl)) ?_
    simp only [Act.put, aa, ac, ae]
    refine af rfl (az rfl (ev rfl) rfl) ?_
    simp only [Act.put, aa, ac, ae]
    refine af rfl (az rfl (ev rfl) rfl) ?_
    simp only [Act.put, aa, ac, ae]
    refine af rfl (al rfl (ev rfl)) ?_
    simp only [Act.put, aa, ac, ae]
    refine af rfl (al rfl (ev rfl)) ?_
    simp only [Act.put, aa, ac, ae]
    refine wpList_nil ?_
    go_upto_region 2 with fail
    refine wp_region_lit ?_
    refine af rfl (aT (cs := ([.int .i64 (N : Int), .int .i64 (T : Int), .int .i64 g3] : List Value)) Try.underlying23 rfl (by kernel_rfl) rfl (ev rfl) (aL P2.out)) ?_
    simp only [Act.put, aa, ac, ae]
    refine af rfl (ah rfl (ev rfl)) ?_
    simp only [Act.put, aa, ac, ae]
    refine aj rfl (ar Try.call5 rfl (evc (ev rfl) (evc (ev rfl) evn))) ?_
    refine (rs_new_ok w2 HG.out HR1.out HR2.out).mono ?_
    rintro e w3 ⟨p2, S2, rfl, _, b3, _⟩
    have HB3 := Lib.hid (HB2.out.trans (b3.mono HB2.out.size))
    clear b3
    refine ⟨_, rfl, ?_⟩
    simp only [Act.put, aa, ac, ae]
    refine af rfl (ah rfl (ev rfl)) ?_
    simp only [Act.put, aa, ac, ae]
    refine af rfl (az rfl (ev rfl) rfl) ?_
    simp only [Act.put, aa, ac, ae]
    refine af rfl (az rfl (ev rfl) rfl) ?_
    simp only [Act.put, aa, ac, ae]
    refine af rfl (al rfl (ev rfl)) ?_
    simp only [Act.put, aa, ac, ae]
    refine af rfl (al rfl (ev rfl)) ?_
    simp only [Act.put, aa, ac, ae]
    refine wpList_nil ?_
    go_upto_region 3 with fail
    refine wp_region_lit ?_
    refine af rfl (ah rfl (ev rfl)) ?_
    simp only [Act.put, aa, ac, ae]
    refine af rfl (ah rfl (ev rfl)) ?_
    simp only [Act.put, aa, ac, ae]
    refine af (v := .bool true) rfl (ay true rfl (ev rfl) (ev rfl) rfl) ?_
    simp only [Act.put, aa, ac, ae]
    refine af (v := .bool true) rfl (ah rfl (ev rfl)) ?_
    simp only [Act.put, aa, ac, ae]
    refine ak (am rfl rfl rfl rfl) (ah rfl (ev rfl)) ?_
    simp only [Act.put, aa, ac, ae]
    refine ak (v := .bool true) (am rfl rfl rfl rfl) (bb true Try.underlying24 rfl (ev rfl) evk rfl) ?_
    simp only [Act.put, aa, ac, ae]
    refine ak (am rfl rfl rfl rfl) (ah rfl (ev rfl)) ?_
    simp only [Act.put, aa, ac, ae]
    refine ak (v := .bool true) (am rfl rfl rfl rfl) (ay true rfl (ev rfl) evk rfl) ?_
    simp only [Act.put, aa, ac, ae]
    refine ak (v := .bool true) (am rfl rfl rfl rfl) (exec_eqBool true rfl (ev rfl) (ev rfl) rfl) ?_
    simp only [Act.put, aa, ac, ae]
    refine af (v := .bool true) rfl (aY rfl (ev rfl) (ev rfl)) ?_
    simp only [Act.put, aa, ac, ae]
    refine af (v := .bool true) rfl (ah rfl (ev rfl)) ?_
    simp only [Act.put, aa, ac, ae]
    refine aj (am rfl rfl rfl rfl) (ar Try.call6 rfl evn) ?_
    refine (shlives D w3).mono ?_
    rintro e wz ⟨rfl, b9⟩
    have HZ := Lib.hid (HB3.out.trans (b9.mono HB3.out.size))
    clear b9
    refine ⟨_, rfl, ?_⟩
    simp only [Act.put, aa, ac, ae]
    refine af (v := .bool true) rfl (aY rfl (ev rfl) (ev rfl)) ?_
    simp only [Act.put, aa, ac, ae]
    refine af (v := .bool true) rfl (al rfl (ev rfl)) ?_
    simp only [Act.put, aa, ac, ae]
    refine wpList_nil ?_
    go_wp2_with fail
    go_ret
    exact ⟨rfl, HZ.out⟩
  · have HG := Lib.hid hc
    clear hc
    go_enter Try.func3, Try.ntmps3
    go_upto_region 0 with fail
    refine wp_region_lit ?_
    refine af rfl (bq (cs := ([.int .i64 g1, .int .i64 g2, .int .i64 g3] : List Value)) rfl (ev rfl)) ?_
    simp only [Act.put, aa, ac, ae]
    have hbx := (Below.refl w.heap.size w).alloc (Nat.le_refl _) (.cells ([.int .i64 g1, .int .i64 g2, .int .i64 g3] : List Value).toArray 23)
    have P1 := Lib.hid (heap_alloc_new w (.cells ([.int .i64 g1, .int .i64 g2, .int .i64 g3] : List Value).toArray 23))
    have HB1 := Lib.hid hbx
    clear hbx
    generalize w.alloc (.cells ([.int .i64 g1, .int .i64 g2, .int .i64 g3] : List Value).toArray 23) = w1 at *
    refine af (v := .bool false) rfl (al rfl evk) ?_
    simp only [Act.put, aa, ac, ae]
    refine wpList_nil ?_
    go_upto_region 1 with fail
    refine wp_region_lit ?_
    refine af rfl (aT (cs := ([.int .i64 g1, .int .i64 g2, .int .i64 g3] : List Value)) Try.underlying23 rfl (by kernel_rfl) rfl (ev rfl) (aL P1.out)) ?_
    simp only [Act.put, aa, ac, ae]
    refine af rfl (ah rfl (ev rfl)) ?_
    simp only [Act.put, aa, ac, ae]
    refine aj rfl (ar Try.call4 rfl (evc (ev rfl) (evc (ev rfl) evn))) ?_
    refine (D.new_no ⟨g1, g2, g3, Vector.replicate 16 0, 0, false⟩ room w1 HG.out).mono ?_
    rintro e w2 ⟨rfl, b2⟩
    have HB2 := Lib.hid (HB1.out.trans (b2.mono HB1.out.size))
    have P2 := Lib.hid (aw P1.out b2)
    clear b2
    refine ⟨_, rfl, ?_⟩
    simp only [Act.put, aa, ac, ae]
    refine af rfl (ah rfl (ev rfl)) ?_
    simp only [Act.put, aa, ac, ae]
    refine af rfl (az rfl (ev rfl) rfl) ?_
    simp only [Act.put, aa, ac, ae]
    refine af rfl (az rfl (ev rfl) rfl) ?_
    simp only [Act.put, aa, ac, ae]
    refine af rfl (al rfl (ev rfl)) ?_
    simp only [Act.put, aa, ac, ae]
    refine af rfl (al rfl (ev rfl)) ?_
    simp only [Act.put, aa, ac, ae]
    refine wpList_nil ?_
    go_upto_region 2 with fail
    refine wp_region_lit ?_
    refine af rfl (aT (cs := ([.int .i64 g1, .int .i64 g2, .int .i64 g3] : List Value)) Try.underlying23 rfl (by kernel_rfl) rfl (ev rfl) (aL P2.out)) ?_
    simp only [Act.put, aa, ac, ae]
    refine af rfl (ah rfl (ev rfl)) ?_
    simp only [Act.put, aa, ac, ae]
    refine aj rfl (ar Try.call5 rfl (evc (ev rfl) (evc (ev rfl) evn))) ?_
    refine (rs_new_no ⟨g1, g2, g3, Vector.replicate 16 0, 0, false⟩ room w2 HG.out).mono ?_
    rintro e w3 ⟨rfl, b3⟩
    have HB3 := Lib.hid (HB2.out.trans (b3.mono HB2.out.size))
    clear b3
    refine ⟨_, rfl, ?_⟩
    simp only [Act.put, aa, ac, ae]
    refine af rfl (ah rfl (ev rfl)) ?_
    simp only [Act.put, aa, ac, ae]
    refine af rfl (az rfl (ev rfl) rfl) ?_
    simp only [Act.put, aa, ac, ae]
    refine af rfl (az rfl (ev rfl) rfl) ?_
    simp only [Act.put, aa, ac, ae]
    refine af rfl (al rfl (ev rfl)) ?_
    simp only [Act.put, aa, ac, ae]
    refine af rfl (al rfl (ev rfl)) ?_
    simp only [Act.put, aa, ac, ae]
    refine wpList_nil ?_
    go_upto_region 3 with fail
    refine wp_region_lit ?_
    refine af rfl (ah rfl (ev rfl)) ?_
    simp only [Act.put, aa, ac, ae]
    refine af rfl (ah rfl (ev rfl)) ?_
    simp only [Act.put, aa, ac, ae]
    refine af (v := .bool true) rfl (ay true rfl (ev rfl) (ev rfl) rfl) ?_
    simp only [Act.put, aa, ac, ae]
    refine af (v := .bool true) rfl (ah rfl (ev rfl)) ?_
    simp only [Act.put, aa, ac, ae]
    refine ak (am rfl rfl rfl rfl) (ah rfl (ev rfl)) ?_
    simp only [Act.put, aa, ac, ae]
    refine ak (v := .bool false) (am rfl rfl rfl rfl) (bb false Try.underlying24 rfl (ev rfl) evk rfl) ?_
    simp only [Act.put, aa, ac, ae]
    refine ak (am rfl rfl rfl rfl) (ah rfl (ev rfl)) ?_
    simp only [Act.put, aa, ac, ae]
    refine ak (v := .bool false) (am rfl rfl rfl rfl) (ay false rfl (ev rfl) evk rfl) ?_
    simp only [Act.put, aa, ac, ae]
    refine ak (v := .bool true) (am rfl rfl rfl rfl) (exec_eqBool true rfl (ev rfl) (ev rfl) rfl) ?_
    simp only [Act.put, aa, ac, ae]
    refine af (v := .bool true) rfl (aY rfl (ev rfl) (ev rfl)) ?_
    simp only [Act.put, aa, ac, ae]
    refine af (v := .bool true) rfl (ah rfl (ev rfl)) ?_
    simp only [Act.put, aa, ac, ae]
    refine aj (am rfl rfl rfl rfl) (ar Try.call6 rfl evn) ?_
    refine (shlives D w3).mono ?_
    rintro e wz ⟨rfl, b9⟩
    have HZ := Lib.hid (HB3.out.trans (b9.mono HB3.out.size))
    clear b9
    refine ⟨_, rfl, ?_⟩
    simp only [Act.put, aa, ac, ae]
    refine af (v := .bool true) rfl (aY rfl (ev rfl) (ev rfl)) ?_
    simp only [Act.put, aa, ac, ae]
    refine af (v := .bool true) rfl (al rfl (ev rfl)) ?_
    simp only [Act.put, aa, ac, ae]
    refine wpList_nil ?_
    go_wp2_with fail
    go_ret
    exact ⟨rfl, HZ.out⟩
def kyL (d : Nat → Bool) (o : List Nat) : List Ky := o.map fun (n : Nat) => (⟨(n : Int), d n⟩ : Ky)
section
variable {d e : Nat → Bool} {o : List Nat} {n i room : Nat} {s : ShS}
theorem aM : (kyL d o).length = o.length := List.length_map _
theorem kyL_key : keyL (kyL d o) = o.map fun (n : Nat) => (n : Int) := by unfold keyL kyL; rw [List.map_map]; rfl
theorem kyL_at (hi : i < o.length) : (kyL d o).getD i ky0 = ⟨((o.getD i 0 : Nat) : Int), d (o.getD i 0)⟩ := getD_map (fun (n : Nat) => (⟨(n : Int), d n⟩ : Ky)) o 0 ky0 hi
theorem kyL_congr (h : ∀ n ∈ o, d n = e n) : kyL d o = kyL e o := List.map_congr_left fun n hn => by rw [h n hn]
theorem aX : plc (n : Int) (kyL d o) < (kyL d o).length ↔ n ∈ o := by
  rw [plc_mem, kyL_key, List.mem_map]
  constructor
  · rintro ⟨j, h1, h2⟩
    have : j = n := by omega
    subst this; exact h1
  · intro h; exact ⟨n, h, rfl⟩
theorem kyL_plc (h : n ∈ o) : o.getD (plc (n : Int) (kyL d o)) 0 = n := by
  have h1 := aX (d := d).2 h
  have h2 := plc_at h1
  rw [kyL_at (by rw [aM] at h1; exact h1)] at h2
  exact Int.ofNat.inj h2
theorem wo_outO : ∀ {o : List Nat} {i : Nat}, o.Nodup → i < o.length → wo o i = outO o (o.getD i 0)
  | [], i, _, hi => by simp at hi
  | x :: r, 0, hd, _ => by
    obtain ⟨h1, h2⟩ := List.nodup_cons.1 hd
    have e : outO (x :: r) x = outO r x := by unfold outO; simp
    show wo (x :: r) 0 = outO (x :: r) x
    rw [e, outO_no h1]
    rfl
  | x :: r, i + 1, hd, hi => by
    obtain ⟨h1, h2⟩ := List.nodup_cons.1 hd
    have hi' : i < r.length := by simpa using hi
    have ih := wo_outO h2 hi'
    have hm : r.getD i 0 ∈ r := aK hi'
    have hne : x ≠ r.getD i 0 := fun e => h1 (by rw [e]; exact hm)
    show wo (x :: r) (i + 1) = outO (x :: r) (r.getD i 0)
    have e : outO (x :: r) (r.getD i 0) = x :: outO r (r.getD i 0) := by
      unfold outO
      rw [List.filter_cons, if_pos (by rw [decide_eq_false hne]; rfl)]
    rw [e, ← ih]
    unfold wo
    simp
theorem wo_kyL (hd : o.Nodup) (hi : i < o.length) : wo (kyL d o) i = kyL d (outO o (o.getD i 0)) := by
  rw [← wo_outO hd hi]
  exact (wo_map _ o i).symm
theorem lu_kyL : lu (kyL d o) = luD d o := lu_luD _ _ (by unfold kyL; rw [List.map_map]; rfl) fun k hk n hn => by
  obtain ⟨j, _, rfl⟩ := List.mem_map.1 hk
  have : j = n := Int.ofNat.inj hn
  subst this; rfl
theorem pin_kyL (hd : o.Nodup) (n : Nat) (is : Bool) : pinS (n : Int) is (kyL d o) = kyL (aR d n is) o := by
  unfold pinS
  by_cases h : n ∈ o
  · have hl := aX (d := d).2 h
    have hl' : plc (n : Int) (kyL d o) < o.length := by rw [aM] at hl; exact hl
    have hp := kyL_plc (d := d) h
    rw [if_pos hl]
    refine List.ext_getElem (by rw [List.length_set, aM, aM]) fun j h1 h2 => ?_
    have hj : j < o.length := by rw [aM] at h2; exact h2
    rw [List.getElem_set]
    have g : (kyL (aR d n is) o)[j] = ⟨((o.getD j 0 : Nat) : Int), aR d n is (o.getD j 0)⟩ := by
      rw [← kyL_at hj, List.getD, List.getElem?_eq_getElem h2]; rfl
    rw [g]
    split
    · rename_i e; rw [← e, hp, aQ]
    · rename_i e
      have g2 : (kyL d o)[j]'(by rw [aM]; exact hj) = ⟨((o.getD j 0 : Nat) : Int), d (o.getD j 0)⟩ := by
        rw [← kyL_at hj, List.getD, List.getElem?_eq_getElem (by rw [aM]; exact hj)]; rfl
      rw [g2, aD]
      intro e2
      have p1 := posn_at hd hj
      rw [e2, ← hp, posn_at hd hl'] at p1
      exact e p1
  · rw [if_neg (fun e => h (aX.1 e))]
    exact kyL_congr fun j hj => (aD d is fun e => h (by rw [← e]; exact hj)).symm
theorem pnd_kyL (h : ShOk s) (n : Nat) : pndK (n : Int) (kyL s.dty s.o) = s.dty n := by
  unfold pndK
  by_cases hn : n ∈ s.o
  · have hl := aX (d := s.dty).2 hn
    rw [decide_eq_true hl, kyL_at (by rw [aM] at hl; exact hl), kyL_plc hn]
    rfl
  · rw [decide_eq_false fun e => hn (aX.1 e)]
    cases e : s.dty n
    · rfl
    · exact absurd ((h.mem n).2 (bF e)) hn
theorem ShOk.none_iff (h : ShOk s) (n : Nat) : (s.ln n).isNone = true ↔ n ∉ s.o := by
  rw [h.mem n]; cases s.ln n <;> simp
theorem tch_cases (h : ShOk s) (n : Nat) :
    (n ∈ s.o ∧ s.goes n = false ∧ s.tchB n = true ∧ s.cut n = s) ∨
    (n ∉ s.o ∧ s.o.length < s.room ∧ s.goes n = false ∧ s.tchB n = true ∧ s.cut n = s) ∨
    (n ∉ s.o ∧ ¬ s.o.length < s.room ∧ luD s.dty s.o = 0 ∧ s.goes n = true ∧ s.tchB n = false) ∨
    (n ∉ s.o ∧ ¬ s.o.length < s.room ∧ 0 < luD s.dty s.o ∧ s.goes n = true ∧ s.tchB n = true ∧ s.cut n = { s.setL s.gone none with o := outO s.o s.gone }) := by
  have hb : ∀ g, s.goes n = g → s.tchB n = !(g && decide (luD s.dty s.o = 0)) := fun g e => by unfold ShS.tchB; rw [e]
  have hc : s.goes n = false → s.cut n = s := fun e => by unfold ShS.cut; rw [e]; rfl
  by_cases hn : n ∈ s.o
  · have g : s.goes n = false := by
      unfold ShS.goes
      cases e : (s.ln n).isNone
      · rfl
      · exact absurd hn ((h.none_iff n).1 e)
    exact .inl ⟨hn, g, by rw [hb _ g]; rfl, hc g⟩
  · have hi := (h.none_iff n).2 hn
    by_cases hl : s.o.length < s.room
    · have g : s.goes n = false := by unfold ShS.goes; rw [hi, decide_eq_false (by omega)]; rfl
      exact .inr (.inl ⟨hn, hl, g, by rw [hb _ g]; rfl, hc g⟩)
    · have g : s.goes n = true := by unfold ShS.goes; rw [hi, decide_eq_true (by omega)]; rfl
      rcases Nat.eq_zero_or_pos (luD s.dty s.o) with h0 | h0
      · exact .inr (.inr (.inl ⟨hn, hl, h0, g, by rw [hb _ g, decide_eq_true h0]; rfl⟩))
      · exact .inr (.inr (.inr ⟨hn, hl, h0, g, by rw [hb _ g, decide_eq_false (by omega)]; rfl, by unfold ShS.cut; rw [if_pos g]⟩))
theorem tchE_kyL (h : ShOk s) (n : Nat) : tchE s.room n (kyL s.dty s.o) = if s.tchB n = true then 0 else 10 := by
  unfold tchE
  rw [lu_kyL, aM]
  rcases tch_cases h n with ⟨h1, _, h3, _⟩ | ⟨h1, h2, _, h3, _⟩ | ⟨h1, h2, h4, _, h3⟩ | ⟨h1, h2, h4, _, h3, _⟩
  · rw [if_pos (by have := aX (d := s.dty).2 h1; rwa [aM] at this), if_pos h3]
  · rw [if_neg (fun e => h1 (aX (d := s.dty).1 (by rw [aM]; exact e))), if_pos h2, if_pos h3]
  · rw [if_neg (fun e => h1 (aX (d := s.dty).1 (by rw [aM]; exact e))), if_neg h2, if_pos h4, h3]; rfl
  · rw [if_neg (fun e => h1 (aX (d := s.dty).1 (by rw [aM]; exact e))), if_neg h2, if_neg (by omega), if_pos h3]
theorem tchW_kyL (h : ShOk s) (n : Nat) : tchW s.room n (kyL s.dty s.o) = (s.goes n && s.tchB n) := by
  unfold tchW
  rw [lu_kyL, aM]
  rcases tch_cases h n with ⟨h1, g, h3, _⟩ | ⟨h1, h2, g, h3, _⟩ | ⟨h1, h2, h4, g, h3⟩ | ⟨h1, h2, h4, g, h3, _⟩
  · rw [if_pos (by have := aX (d := s.dty).2 h1; rwa [aM] at this), g]; rfl
  · rw [if_neg (fun e => h1 (aX (d := s.dty).1 (by rw [aM]; exact e))), if_pos h2, g]; rfl
  · rw [if_neg (fun e => h1 (aX (d := s.dty).1 (by rw [aM]; exact e))), if_neg h2, if_pos h4, g, h3]; rfl
  · rw [if_neg (fun e => h1 (aX (d := s.dty).1 (by rw [aM]; exact e))), if_neg h2, if_neg (by omega), g, h3]; rfl
theorem tchG_kyL (h : ShOk s) (n : Nat) (hg : s.goes n = true) (hb : s.tchB n = true) : tchG s.room n (kyL s.dty s.o) = (s.gone : Int) := by
  unfold tchG
  rw [lu_kyL, aM]
  rcases tch_cases h n with ⟨h1, g, h3, _⟩ | ⟨h1, h2, g, h3, _⟩ | ⟨h1, h2, h4, g, h3⟩ | ⟨h1, h2, h4, g, h3, _⟩
  · rw [hg] at g; cases g
  · rw [hg] at g; cases g
  · rw [hb] at h3; cases h3
  · have := luD_le (d := s.dty) s.o
    rw [if_neg (fun e => h1 (aX (d := s.dty).1 (by rw [aM]; exact e))), if_neg h2, if_neg (by omega), kyL_at (by omega)]
    rfl
theorem tch_o (s : ShS) (n : Nat) : (s.tch n).o = if s.tchB n = true then n :: outO (s.cut n).o n else s.o := by unfold ShS.tch; split <;> rfl
theorem tchS_kyL (h : ShOk s) (n : Nat) : tchS s.room n (kyL s.dty s.o) = kyL s.dty (s.tch n).o := by
  unfold tchS
  rw [lu_kyL, aM, tch_o]
  have d0 : n ∉ s.o → s.dty n = false := fun hn => by
    cases e : s.dty n
    · rfl
    · exact absurd ((h.mem n).2 (bF e)) hn
  rcases tch_cases h n with ⟨h1, g, h3, hc⟩ | ⟨h1, h2, g, h3, hc⟩ | ⟨h1, h2, h4, g, h3⟩ | ⟨h1, h2, h4, g, h3, hc⟩
  · have hl : plc (n : Int) (kyL s.dty s.o) < s.o.length := by have := aX (d := s.dty).2 h1; rwa [aM] at this
    rw [if_pos hl, if_pos h3, hc, wo_kyL h.nd hl, kyL_at hl, kyL_plc h1]
    rfl
  · rw [if_neg (fun e => h1 (aX (d := s.dty).1 (by rw [aM]; exact e))), if_pos h2, if_pos h3, hc, outO_no h1]
    show _ = (⟨(n : Int), s.dty n⟩ : Ky) :: kyL s.dty s.o
    rw [d0 h1]
  · rw [if_neg (fun e => h1 (aX (d := s.dty).1 (by rw [aM]; exact e))), if_neg h2, if_pos h4, h3]; rfl
  · have hle := luD_le (d := s.dty) s.o
    rw [if_neg (fun e => h1 (aX (d := s.dty).1 (by rw [aM]; exact e))), if_neg h2, if_neg (by omega), if_pos h3, hc, wo_kyL h.nd (by omega)]
    show _ = (⟨(n : Int), s.dty n⟩ : Ky) :: kyL s.dty (outO (outO s.o s.gone) n)
    rw [d0 h1, outO_no (n := n) (o := outO s.o s.gone) fun e => h1 (bU.1 e).1]
    rfl
end
open Go.Maps (Keyed)
def ptO : Option Nat → Value
  | none => .pointer none
  | some b => .pointer (some ⟨b, 0, none⟩)
def ptD : Option Nat → DataW Unit
  | none => .nil
  | some b => .lit (.int .i64 (b : Int))
def ptR : Value → Option (DataW Unit × List MemPlace)
  | .pointer none => some (.nil, [])
  | .pointer (some ⟨b, 0, none⟩) => some (.lit (.int .i64 (b : Int)), [])
  | _ => none
theorem ptR_of (m : Option Nat) : ptR (ptO m) = some (ptD m, []) := by cases m <;> rfl
theorem ptR_inv {v : Value} {m : Option Nat} {ps : List MemPlace} (h : ptR v = some (ptD m, ps)) : v = ptO m := by
  unfold ptR at h
  split at h
  · cases m with
    | none => rfl
    | some b => simp [ptD] at h
  · rename_i b
    cases m with
    | none => simp [ptD] at h
    | some b' =>
      simp [ptD] at h
      have : b = b' := by omega
      subst this; rfl
  · cases h
theorem bI : Keyed Try.prog 3 := Maps.int_keyed Try.underlying3
theorem keyI {k : Int} (hw : (Lit.int .i64 k).wf = true) : keyOf Try.prog 3 (.int .i64 k) = some (.int .i64 k) := Maps.keyOf_int_mk Try.underlying3 hw
theorem zeroP (w : World) : (zeroValue 58).run Try.prog w = .ok (.pointer none) w := by kernel_rfl
def a8 (w : World) (b N : Nat) (M : Int → Option Nat) : Prop :=
  ∃ D : DataW Unit, w.ownsMap Try.prog 3 ptR b N D ∧ Maps.size D = N ∧ ∀ k, (Lit.int .i64 k).wf = true → D.atKey (.int .i64 k) .nil = ptD (M k) ∧ Maps.has D (.int .i64 k) = (M k).isSome
theorem own_size {w : World} {b n : Nat} {D : DataW Unit} (h : w.ownsMap Try.prog 3 ptR b n D) : w.ownsMap Try.prog 3 ptR b (Maps.size D) D := by
  obtain ⟨es, clock, hb, F, hs, rfl⟩ := h
  exact ⟨es, clock, hb, F, by simp [Maps.size, length_sorted], rfl⟩
section
variable {w w' : World} {b N : Nat} {M : Int → Option Nat} {k : Int}
theorem a8.kept (h : a8 w b N M) (hk : ∀ es c, w.heap[b]? = some (.map es c) → w'.heap[b]? = some (.map es c)) : a8 w' b N M := by
  obtain ⟨D, ⟨es, c, hb, r⟩, h2⟩ := h
  exact ⟨D, ⟨es, c, hk es c hb, r⟩, h2⟩
theorem a8.obj (h : a8 w b N M) : ∃ es c, w.heap[b]? = some (.map es c) := by
  obtain ⟨D, ⟨es, c, hb, r⟩, h2⟩ := h
  exact ⟨es, c, hb⟩
theorem a8.made (w : World) : a8 (w.alloc (.map #[] 0)) w.heap.size 0 (fun _ => none) :=
  ⟨.map [], World.ownsMap_made _ _ _ _, rfl, fun k _ => ⟨rfl, rfl⟩⟩
theorem a8.look (h : a8 w b N M) (hw : (Lit.int .i64 k).wf = true) : (Instr.lookup 61 (.map (some b)) (.int .i64 k) false).run Try.prog w = .ok (ptO (M k)) w := by
  obtain ⟨D, h1, _, h3⟩ := h
  obtain ⟨v, ps, hr, hv⟩ := h1.lookup bI Try.underlying61 (zeroP w) (zd := .nil) (zp := []) rfl (keyI hw)
  rw [(h3 k hw).1] at hv
  rw [hr, ptR_inv hv]
theorem a8.len (h : a8 w b N M) (ty : TypeId) : (Builtin.len_ #[61] ty #[.map (some b)]).run Try.prog w = .ok (.int .i64 (N : Int)) w := by
  obtain ⟨D, h1, h2, _⟩ := h
  rw [h1.len Try.underlying61 ty, h2]
theorem lit_ne {j k : Int} (h : j ≠ k) : Lit.int .i64 j ≠ Lit.int .i64 k := fun e => h (by injection e)
theorem a8.store (h : a8 w b N M) (hw : (Lit.int .i64 k).wf = true) (hn : M k = none) (hN : N < maxLen) (q : Nat) :
    ∃ w', (Instr.mapUpdate 61 (.map (some b)) (.int .i64 k) (.pointer (some ⟨q, 0, none⟩))).run Try.prog w = .ok () w' ∧ a8 w' b (N + 1) (fun j => if j = k then some q else M j) ∧ w.mapTurned w' b := by
  obtain ⟨D, h1, h2, h3⟩ := h
  obtain ⟨w', hr, ho, ht⟩ := h1.store bI Try.underlying61 hN (keyI hw) (ptR_of (some q))
  have hT := h1.tidy bI
  have hk : WideAt.IsKeyLit (Lit.int .i64 k) := bI.key (keyI hw)
  have hs : Maps.size (D.put (.int .i64 k) (ptD (some q))) = N + 1 := by
    rw [Maps.size_put hT, (h3 k hw).2, hn, h2]; rfl
  refine ⟨w', hr, ⟨_, by rw [← hs]; exact own_size ho, hs, fun j hj => ?_⟩, ht⟩
  by_cases e : j = k
  · subst e
    dsimp only
    rw [if_pos rfl, Maps.atKey_put_same hT.isMap hk, Maps.has_put_same hT.isMap hk]
    exact ⟨rfl, rfl⟩
  · dsimp only
    rw [if_neg e, Maps.atKey_put_other (lit_ne e), Maps.has_put_other (lit_ne e)]
    exact h3 j hj
theorem a8.del (h : a8 w b (N + 1) M) (hw : (Lit.int .i64 k).wf = true) (hn : (M k).isSome = true) (ty : TypeId) :
    ∃ w', (Builtin.delete_ #[61, 3] ty #[.map (some b), .int .i64 k]).run Try.prog w = .ok (.tuple #[]) w' ∧ a8 w' b N (fun j => if j = k then none else M j) ∧ w.mapTurned w' b := by
  obtain ⟨D, h1, h2, h3⟩ := h
  obtain ⟨w', hr, ho, ht⟩ := h1.drop bI Try.underlying61 (keyI hw) ty
  have hT := h1.tidy bI
  have hs : Maps.size (D.del (.int .i64 k)) = N := by
    have := Maps.size_del (k := .int .i64 k) hT
    rw [(h3 k hw).2, hn, h2] at this
    simpa using this
  refine ⟨w', hr, ⟨_, by rw [← hs]; exact own_size ho, hs, fun j hj => ?_⟩, ht⟩
  by_cases e : j = k
  · subst e
    dsimp only
    rw [if_pos rfl, Maps.atKey_del_same, Maps.has_del_same]
    exact ⟨rfl, rfl⟩
  · dsimp only
    rw [if_neg e, Maps.atKey_del_other (lit_ne e), Maps.has_del_other (lit_ne e)]
    exact h3 j hj
end
section
variable {ρ : Operand → Value} {o : Oper} {x y z : Operand} {w w' : World} {t r te : TypeId} {b N : Nat} {M : Int → Option Nat} {p q s v : Value} {ad a1 a2 : Addr}
theorem aZ (ho : o.op = .lookup t x y false) (hx : ρ x = p) (hy : ρ y = q) (h : (Instr.lookup t p q false).run Try.prog w = .ok v w) : (execOp ρ o).run Try.prog w = .ok (.value v) w := by
  unfold execOp
  simp only [ho, hx, hy, Sem.run_bind, h, Result.andThen_ok, Sem.run_pure]
theorem exec_mupd (ho : o.op = .mapUpdate t x y z) (hx : ρ x = p) (hy : ρ y = q) (hz : ρ z = s) (h : (Instr.mapUpdate t p q s).run Try.prog w = .ok () w') : (execOp ρ o).run Try.prog w = .ok .skip w' := by
  unfold execOp
  simp only [ho, hx, hy, hz, Sem.run_bind, h, Result.andThen_ok, Sem.run_pure]
theorem exec_mkmap (ho : o.op = .makeMap t none) : (execOp ρ o).run Try.prog w = .ok (.value (.map (some w.heap.size))) (w.alloc (.map #[] 0)) := by
  unfold execOp
  simp [ho, run_makeMap, Result.andThen]
theorem exec_lenM (ho : o.op = .call { callee := .builtin .len, args := #[x], argTypes := #[61] }) (hx : ρ x = .map (some b)) (h : a8 w b N M) : (execOp ρ o).run Try.prog w = .ok (.value (.int .i64 (N : Int))) w := by
  simp [execOp, ho, resolve, invoke, builtin, hx, h.len, Result.andThen]
theorem exec_del {t1 t2 : TypeId} (ho : o.op = .call { callee := .builtin .delete, args := #[x, y], argTypes := #[t1, t2] }) (hx : ρ x = p) (hy : ρ y = q) (h : (Builtin.delete_ #[t1, t2] o.type #[p, q]).run Try.prog w = .ok v w') : (execOp ρ o).run Try.prog w = .ok (.value v) w' := by
  simp [execOp, ho, resolve, invoke, builtin, hx, hy, h, Result.andThen]
theorem ldNd {ad : Addr} {a : Option Addr} (h : w.cell? ad = some (.pointer a)) : (Instr.loadAt 58 (.pointer (some ad))).run Try.prog w = .ok (.pointer a) w := by simp [go_sem, h]
theorem ldMp {ad : Addr} {a : Option Nat} (h : w.cell? ad = some (.map a)) : (Instr.loadAt 61 (.pointer (some ad))).run Try.prog w = .ok (.map a) w := by simp [go_sem, h]
theorem ldBoL {ad : Addr} {a : Bool} (h : w.cell? ad = some (.bool a)) : (Instr.loadAt 4 (.pointer (some ad))).run Try.prog w = .ok (.bool a) w := by simp [go_sem, h]
theorem stNd {ad : Addr} {u : Value} {a : Option Addr} (h : w.cell? ad = some u) (hf : w.frozen? ad = false) : (Instr.storeAt 58 (.pointer (some ad)) (.pointer a)).run Try.prog w = .ok () (w.setCell ad (.pointer a)) := by simp [go_sem, h, hf]
theorem stBo {ad : Addr} {u : Value} {a : Bool} (h : w.cell? ad = some u) (hf : w.frozen? ad = false) : (Instr.storeAt 4 (.pointer (some ad)) (.bool a)).run Try.prog w = .ok () (w.setCell ad (.bool a)) := by simp [go_sem, h, hf]
theorem faNd0 : (Instr.fieldAt 60 (.pointer (some ⟨b, 0, none⟩)) 0).run Try.prog w = .ok (.pointer (some ⟨b, 0, none⟩)) w := by kernel_rfl
theorem faNd1 : (Instr.fieldAt 60 (.pointer (some ⟨b, 0, none⟩)) 1).run Try.prog w = .ok (.pointer (some ⟨b, 1, none⟩)) w := by kernel_rfl
theorem faNd2 : (Instr.fieldAt 60 (.pointer (some ⟨b, 0, none⟩)) 2).run Try.prog w = .ok (.pointer (some ⟨b, 2, none⟩)) w := by kernel_rfl
theorem faNd3 : (Instr.fieldAt 60 (.pointer (some ⟨b, 0, none⟩)) 3).run Try.prog w = .ok (.pointer (some ⟨b, 3, none⟩)) w := by kernel_rfl
theorem faLs0 : (Instr.fieldAt 63 (.pointer (some ⟨b, 0, none⟩)) 0).run Try.prog w = .ok (.pointer (some ⟨b, 0, none⟩)) w := by kernel_rfl
theorem faLs1 : (Instr.fieldAt 63 (.pointer (some ⟨b, 0, none⟩)) 1).run Try.prog w = .ok (.pointer (some ⟨b, 1, none⟩)) w := by kernel_rfl
theorem faLs2 : (Instr.fieldAt 63 (.pointer (some ⟨b, 0, none⟩)) 2).run Try.prog w = .ok (.pointer (some ⟨b, 2, none⟩)) w := by kernel_rfl
end
theorem infNd : ∃ j, Try.prog.info? 60 = some j ∧ j.size ≠ 0 := by
  have h : (Try.prog.info? 60).map (·.size) = some 4 := by kernel_rfl
  cases hq : Try.prog.info? 60 with
  | none => rw [hq] at h; cases h
  | some j => rw [hq] at h; exact ⟨j, rfl, by simp at h; omega⟩
def nodC (x : Ky) (u v : Value) : List Value := [.int .i64 x.n, .bool x.pin, u, v]
def a6 (w : World) (b : Nat) (x : Ky) (u v : Value) : Prop := w.heap[b]? = some (.cells (nodC x u v).toArray 60 (0, 0))
section
variable {w w' : World} {b q : Nat} {x : Ky} {u v : Value}
theorem a6.c0 (h : a6 w b x u v) : w.cell? ⟨b, 0, none⟩ = some (.int .i64 x.n) := (aL h) 0 _ rfl
theorem a6.c1 (h : a6 w b x u v) : w.cell? ⟨b, 1, none⟩ = some (.bool x.pin) := (aL h) 1 _ rfl
theorem a6.c2 (h : a6 w b x u v) : w.cell? ⟨b, 2, none⟩ = some u := (aL h) 2 _ rfl
theorem a6.c3 (h : a6 w b x u v) : w.cell? ⟨b, 3, none⟩ = some v := (aL h) 3 _ rfl
theorem a6.fz (h : a6 w b x u v) (j : Nat) : w.frozen? ⟨b, j, none⟩ = false := frozen_of_row w b j _ _ h
theorem a6.s1 (h : a6 w b x u v) (is : Bool) : a6 (w.setCell ⟨b, 1, none⟩ (.bool is)) b ⟨x.n, is⟩ u v := by
  have := heap_setCell_same w b 1 _ _ (.bool is) h
  simpa [a6, nodC] using this
theorem a6.s2 (h : a6 w b x u v) (s : Value) : a6 (w.setCell ⟨b, 2, none⟩ s) b x s v := by
  have := heap_setCell_same w b 2 _ _ s h
  simpa [a6, nodC] using this
theorem a6.s3 (h : a6 w b x u v) (s : Value) : a6 (w.setCell ⟨b, 3, none⟩ s) b x u s := by
  have := heap_setCell_same w b 3 _ _ s h
  simpa [a6, nodC] using this
theorem a6.other (h : a6 w b x u v) {p : Addr} (hp : b ≠ p.block) (s : Value) : a6 (w.setCell p s) b x u v := by
  unfold a6
  rw [heap_setCell_other w p b s hp]
  exact h
end
def ptB (b : Nat) : Value := .pointer (some ⟨b, 0, none⟩)
def Lnk (w : World) (ky : Nat → Ky) (pv nx : Nat → Nat) (S : List Nat) : Prop := ∀ b ∈ S, a6 w b (ky b) (ptB (pv b)) (ptB (nx b))
section
variable {w w' : World} {ky : Nat → Ky} {pv nx : Nat → Nat} {S S' : List Nat} {x y : Nat}
theorem Lnk.sub (h : Lnk w ky pv nx S) (hs : ∀ b ∈ S', b ∈ S) : Lnk w ky pv nx S' := fun b hb => h b (hs b hb)
theorem Lnk.s2 (h : Lnk w ky pv nx S) (y : Nat) (hx : x ∈ S) : Lnk (w.setCell ⟨x, 2, none⟩ (ptB y)) ky (aR pv x y) nx S := fun b hb => by
  by_cases e : b = x
  · subst e; rw [aQ]; exact (h b hb).s2 _
  · rw [aD _ _ e]; exact (h b hb).other e _
theorem Lnk.s3 (h : Lnk w ky pv nx S) (y : Nat) (hx : x ∈ S) : Lnk (w.setCell ⟨x, 3, none⟩ (ptB y)) ky pv (aR nx x y) S := fun b hb => by
  by_cases e : b = x
  · subst e; rw [aQ]; exact (h b hb).s3 _
  · rw [aD _ _ e]; exact (h b hb).other e _
theorem Lnk.s1 (h : Lnk w ky pv nx S) (is : Bool) (hx : x ∈ S) : Lnk (w.setCell ⟨x, 1, none⟩ (.bool is)) (aR ky x ⟨(ky x).n, is⟩) pv nx S := fun b hb => by
  by_cases e : b = x
  · subst e; rw [aQ]; exact (h b hb).s1 _
  · rw [aD _ _ e]; exact (h b hb).other e _
theorem Lnk.add (h : Lnk w ky pv nx S) (hx : a6 w x (ky x) (ptB (pv x)) (ptB (nx x))) : Lnk w ky pv nx (x :: S) := fun b hb => by
  rcases List.mem_cons.1 hb with rfl | hb
  · exact hx
  · exact h b hb
theorem Lnk.keep (h : Lnk w ky pv nx S) (hk : ∀ (b : Nat) (cs : Array Value), w.heap[b]? = some (Obj.cells cs 60 (0, 0)) → w'.heap[b]? = some (Obj.cells cs 60 (0, 0))) : Lnk w' ky pv nx S := fun b hb => hk b _ (h b hb)
end
def isPl : Obj → Prop
  | .map _ _ => True
  | .cells _ t _ => t = 60 ∨ t = 63
  | _ => False
section
variable {P : Program} {ops : Array Oper} {Q : Exit → Act → World → Prop} {md : Region.Mode} {S T : World → Prop} {z : Nat}
def condW (S T : World → Prop) (z : Nat) (listed : Array Bool) (w : World) : Prop := (listed.getD z false = false → S w) ∧ (listed.getD z false = true → T w)
def bE (P : Program) (md : Region.Mode) (ops : Array Oper) (Q : Exit → Act → World → Prop) (S T : World → Prop) (z : Nat) : Nat → Array Bool → Act → World → Prop
  | 0, listed, a, w => Region.ready md ops listed = [] ∧ Q .normal a w
  | fuel + 1, listed, a, w =>
    (Region.ready md ops listed = [] → Q .normal a w) ∧
    ∀ i ∈ Region.ready md ops listed, wpOp P ops Q i (fun a' w' => condW S T z (listed.setIfInBounds i true) w' ∧ bE P md ops Q S T z fuel (listed.setIfInBounds i true) a' w') a w
theorem wpAny_of_W : ∀ (fuel : Nat) (listed : Array Bool) (a : Act) (w : World), bE P md ops Q S T z fuel listed a w → wpAny P md ops Q fuel listed a w
  | 0, _, _, _, h => h
  | fuel + 1, _, _, _, h => ⟨h.1, fun i hi => wpOp_mono (fun a' w' h' => wpAny_of_W fuel _ a' w' h'.2) (h.2 i hi)⟩
theorem cd {l : Array Bool} {i j : Nat} (h : j ≠ i) : (l.setIfInBounds i true).getD j false = l.getD j false := by
  by_cases hj : j < l.size
  · simp [hj, Array.getElem_setIfInBounds, Ne.symm h]
  · simp [Array.getElem?_eq_none (Nat.le_of_not_lt hj), hj]
theorem condW_set {listed : Array Bool} {w : World} {i : Nat} (h : condW S T z listed w) (hi : i ≠ z) : condW S T z (listed.setIfInBounds i true) w := by
  unfold condW at *
  rw [cd (Ne.symm hi)]
  exact h
theorem condW_un {listed : Array Bool} {w : World} {i : Nat} (h : condW S T z (listed.setIfInBounds i true) w) (hi : i ≠ z) : condW S T z listed w := by
  unfold condW at *
  rw [cd (Ne.symm hi)] at h
  exact h
theorem wpAnyW_first {i : Nat} {oi : Oper} {v : Value} (hi : ops[i]? = some oi) (hsel : ∀ (j : Nat) (o : Oper) cs b, ops[j]? = some o → o.op ≠ .select cs b)
    (hQ : ∀ c a w, Q (.panic c) (a.put oi.dst v) w → Q (.panic c) a w) (hiz : i ≠ z) {U : World → Prop} (hS : ∀ w, S w → U w) (hT : waitsB md ops z i = true ∨ ∀ w, T w → U w) :
    ∀ (fuel : Nat) (listed : Array Bool) (a : Act) (w : World),
      (∀ j oj, ops[j]? = some oj → j ≠ i → listed.getD j true = false → (∀ e ∈ oj.after, Region.binds md e = true → e.on ≠ i) → oi.apart ops oj = true) →
      i ∈ Region.ready md ops listed → (waitsB md ops z i = true → listed.getD z false = false) → YieldsIf P ops U oi v a → condW S T z listed w →
      bE P md ops Q S T z fuel (listed.setIfInBounds i true) (a.put oi.dst v) w → bE P md ops Q S T z (fuel + 1) listed a w := by
  intro fuel
  have key : ∀ (listed : Array Bool) (w : World), (waitsB md ops z i = true → listed.getD z false = false) → condW S T z listed w → U w := fun listed w hz hc => by
    by_cases hl : listed.getD z false = false
    · exact hS w (hc.1 hl)
    · rcases hT with h | h
      · exact absurd (hz h) hl
      · exact h w (hc.2 (by simpa using hl))
  induction fuel with
  | zero =>
    intro listed a w _ hr hz hy hc H
    refine ⟨fun h => (by rw [h] at hr; cases hr), fun j hj => ?_⟩
    by_cases hji : j = i
    · subst hji; exact hy.wpOp hi (key listed w hz hc) ⟨condW_set hc hiz, H⟩
    · have := ready_mono hj hji
      rw [H.1] at this
      cases this
  | succ fuel ih =>
    intro listed a w hfree hr hz hy hc H
    refine ⟨fun h => (by rw [h] at hr; cases hr), fun j hj => ?_⟩
    by_cases hji : j = i
    · subst hji; exact hy.wpOp hi (key listed w hz hc) ⟨condW_set hc hiz, H⟩
    · have h1 := H.2 j (ready_mono hj hji)
      obtain ⟨hjun, oj, hoj, hall⟩ := mem_ready.1 hj
      have hnot : ∀ e ∈ oj.after, Region.binds md e = true → e.on ≠ i := fun e he hb heq => by
        have h1 := hall e he hb
        rw [heq, un_of (mem_ready.1 hr).1] at h1
        cases h1
      have h2 := wpOp_putIf hoj (hfree j oj hoj hji hjun hnot) (fun cs b => hsel i oi cs b hi) (fun cs b => hsel j oj cs b hoj) hQ hy h1
      have hfree' : ∀ k ok, ops[k]? = some ok → k ≠ i → (listed.setIfInBounds j true).getD k true = false →
          (∀ e ∈ ok.after, Region.binds md e = true → e.on ≠ i) → oi.apart ops ok = true := fun k ok hk hki hun hno => by
        refine hfree k ok hk hki ?_ hno
        by_cases hjk : j = k
        · subst hjk; exact hjun
        · rw [getD_set_ne true hjk] at hun; exact hun
      have hz' : waitsB md ops z i = true → (listed.setIfInBounds j true).getD z false = false := fun hw => by
        have hjz : j ≠ z := fun e => by
          subst e
          exact waits_spec hw (un_of (mem_ready.1 hr).1) hj
        rw [cd (Ne.symm hjz)]
        exact hz hw
      refine wpOp_mono (fun a' w' h3 => ?_) h2
      have hc' : condW S T z (listed.setIfInBounds j true) w' := by
        have h4 := h3.2.1
        rw [Array.setIfInBounds_comm _ _ (Ne.symm hji)] at h4
        exact condW_un h4 hiz
      refine ⟨hc', ih (listed.setIfInBounds j true) a' w' hfree' (ready_mono hr (Ne.symm hji)) hz' h3.1 hc' ?_⟩
      rw [Array.setIfInBounds_comm _ _ hji]
      exact h3.2.2
theorem wpAnyW_all {rs : List Nat} {fuel : Nat} {listed : Array Bool} {a : Act} {w : World} (hr : Region.ready md ops listed = rs) (hne : rs ≠ [])
    (h : ∀ i ∈ rs, wpOp P ops Q i (fun a' w' => condW S T z (listed.setIfInBounds i true) w' ∧ bE P md ops Q S T z fuel (listed.setIfInBounds i true) a' w') a w) : bE P md ops Q S T z (fuel + 1) listed a w :=
  ⟨fun h0 => absurd (hr ▸ h0) hne, hr ▸ h⟩
theorem wpAnyW_done {listed : Array Bool} {a : Act} {w : World} (hr : Region.ready md ops listed = []) (h : Q .normal a w) :
    ∀ fuel, bE P md ops Q S T z fuel listed a w
  | 0 => ⟨hr, h⟩
  | _ + 1 => ⟨fun _ => h, by rw [hr]; simp⟩
theorem wp_region_two {id : Nat} {a : Act} {w : World} (S T : World → Prop) (z : Nat) (hm : P.follows .mixedOrders = true)
    (h : bE P .any ops Q S T z ops.size (Array.replicate ops.size false) a w.drew) : (Code.region id ops true).wp P Q a w :=
  wp_region_any hm (wpAny_of_W _ _ _ _ h)
end
section
variable {P : Program} {md : Region.Mode} {l : List Oper} {Q : Exit → Act → World → Prop} {S T : World → Prop} {z fuel : Nat} {listed : Array Bool} {a : Act} {w w' : World} {o : Oper} {v : Value}
theorem two_val (i : Nat) (hi : l[i]? = some o) (hs : Region.noSelect l.toArray = true) (hf : Region.free md l.toArray listed i = true) (hr : (Region.ready md l.toArray listed).contains i = true) (hiz : i ≠ z) (hwz : waitsB md l.toArray z i = true) (hlz : listed.getD z false = false)
    (hw : Region.wanted o (yielded l.toArray a.tmps) = true) (h : ∀ w, S w → (execOp a.eval o).run P w = .ok (.value v) w) (hQ : ∀ c a w, Q (.panic c) (a.put o.dst v) w → Q (.panic c) a w) (hS : S w)
    (hk : bE P md l.toArray Q S T z fuel (listed.setIfInBounds i true) (a.put o.dst v) w) : bE P md l.toArray Q S T z (fuel + 1) listed a w :=
  wpAnyW_first (by simpa using hi) (Region.noSelect_spec hs) hQ hiz (U := S) (fun _ h => h) (.inl hwz) fuel listed a w (Region.free_spec (by simpa using hi) hf) (by simpa using hr) (fun _ => hlz) (.inl ⟨hw, h⟩) ⟨fun _ => hS, fun e => absurd (e.symm.trans hlz) (by decide)⟩ hk
theorem two_any (i : Nat) (hi : l[i]? = some o) (hs : Region.noSelect l.toArray = true) (hf : Region.free md l.toArray listed i = true) (hr : (Region.ready md l.toArray listed).contains i = true) (hiz : i ≠ z) (hwz : waitsB md l.toArray z i = false)
    (hw : Region.wanted o (yielded l.toArray a.tmps) = true) (h : ∀ w, S w ∨ T w → (execOp a.eval o).run P w = .ok (.value v) w) (hQ : ∀ c a w, Q (.panic c) (a.put o.dst v) w → Q (.panic c) a w) (hc : condW S T z listed w)
    (hk : bE P md l.toArray Q S T z fuel (listed.setIfInBounds i true) (a.put o.dst v) w) : bE P md l.toArray Q S T z (fuel + 1) listed a w :=
  wpAnyW_first (by simpa using hi) (Region.noSelect_spec hs) hQ hiz (U := fun w => S w ∨ T w) (fun _ h => .inl h) (.inr fun _ h => .inr h) fuel listed a w (Region.free_spec (by simpa using hi) hf) (by simpa using hr) (fun e => by rw [hwz] at e; cases e) (.inl ⟨hw, h⟩) hc hk
theorem two_turn (i : Nat) (hi : l[i]? = some o) (hr : Region.ready md l.toArray listed = [i]) (hw : Region.wanted o (yielded l.toArray a.tmps) = true) (h : (execOp a.eval o).run P w = .ok (.value v) w')
    (hc : condW S T z (listed.setIfInBounds i true) w') (hk : bE P md l.toArray Q S T z fuel (listed.setIfInBounds i true) (a.put o.dst v) w') : bE P md l.toArray Q S T z (fuel + 1) listed a w :=
  wpAnyW_all hr (by simp) fun j hj => by
    obtain rfl : j = i := by simpa using hj
    unfold wpOp
    simp only [List.getElem?_toArray, hi, hw, if_true]
    refine .inl ?_
    unfold Oper.wp
    rw [h]
    exact ⟨hc, hk⟩
theorem two_nul (i : Nat) (hi : l[i]? = some o) (hr : Region.ready md l.toArray listed = [i]) (hw : Region.wanted o (yielded l.toArray a.tmps) = true) (h : (execOp a.eval o).run P w = .ok .skip w')
    (hc : condW S T z (listed.setIfInBounds i true) w') (hk : bE P md l.toArray Q S T z fuel (listed.setIfInBounds i true) (a.put o.dst undef) w') : bE P md l.toArray Q S T z (fuel + 1) listed a w :=
  wpAnyW_all hr (by simp) fun j hj => by
    obtain rfl : j = i := by simpa using hj
    unfold wpOp
    simp only [List.getElem?_toArray, hi, hw, if_true]
    refine .inl ?_
    unfold Oper.wp
    rw [h]
    exact ⟨hc, hk⟩
theorem condW_pre (hl : listed.getD z false = false) (h : S w) : condW S T z listed w := ⟨fun _ => h, fun e => absurd (e.symm.trans hl) (by decide)⟩
theorem condW_post (hl : listed.getD z false = true) (h : T w) : condW S T z listed w := ⟨fun e => absurd (e.symm.trans hl) (by decide), fun _ => h⟩
end
def isNd : Obj → Prop
  | .cells _ t _ => t = 60
  | _ => False
theorem nd_pl (o : Obj) (h : isNd o) : isPl o := by
  cases o <;> first | exact h.elim | exact .inl h
def aB (I : Obj → Prop) (F : Nat → Prop) (w w' : World) : Prop := Only (fun b => F b ∧ ∀ o, w.heap[b]? = some o → I o) w w'
section
variable {I J : Obj → Prop} {F : Nat → Prop} {w w1 w2 : World} {o : Obj} {b : Nat}
theorem aB.refl (I : Obj → Prop) (F : Nat → Prop) (w : World) : aB I F w w := Only.refl _ _
theorem aB.size (h : aB I F w w1) : w.heap.size ≤ w1.heap.size := Only.size h
theorem aB.only (h : aB I F w w1) : Only F w w1 := Only.widen h fun b hb => hb.1
theorem aB.keep (h : aB I F w w1) (hb : w.heap[b]? = some o) (hn : ¬ I o) : w1.heap[b]? = some o := Only.keep h hb fun e => hn (e.2 o hb)
theorem aB.trans (h : aB I F w w1) (k : aB I F w1 w2) : aB I F w w2 := by
  refine Only.trans h k fun b hb => ?_
  by_cases hl : b < w.heap.size
  · refine .inl ⟨hb.1, fun o ho => ?_⟩
    exact Classical.byContradiction fun hn => hn (hb.2 o (h.keep ho hn))
  · exact .inr (by omega)
theorem aB.of_below (h : Below w.heap.size w w1) : aB I F w w1 := Only.of_below _ h
theorem aB.drew (h : aB I F w w1) : aB I F w w1.drew := Only.drew h
theorem aB.setCell (h : aB I F w w1) {p : Addr} (hB : F p.block) (ho : w1.heap[p.block]? = some o) (hI : I o) (u : Value) : aB I F w (w1.setCell p u) := by
  refine h.trans (Only.setCell (Only.refl _ _) (.inl ⟨hB, fun o' ho' => ?_⟩) u)
  rw [ho] at ho'
  cases ho'
  exact hI
theorem aB.map {k : TypeId} (h : aB I F w w1) (hB : F b) (hI : ∀ es c, I (.map es c)) (k : w1.mapTurned w2 b) : aB I F w w2 := by
  have hg := k.grown
  obtain ⟨es, c, es', c', hb, e⟩ := k
  refine h.trans (Only.grown (Only.refl _ _) hg fun j hj => ?_)
  injection hj with hj
  subst hj
  refine .inl ⟨hB, fun o ho => ?_⟩
  rw [hb] at ho
  cases ho
  exact hI es c
theorem aB.node {x : Ky} {u v : Value} (h : aB isNd F w w1) (hB : F b) (hb : a6 w1 b x u v) (j : Nat) (s : Value) : aB isNd F w (w1.setCell ⟨b, j, none⟩ s) := h.setCell (p := ⟨b, j, none⟩) hB hb rfl s
theorem aB.widen (h : aB I F w w1) (hI : ∀ o, I o → J o) : aB J F w w1 := Only.widen h fun b hb => ⟨hb.1, fun o ho => hI o (hb.2 o ho)⟩
end
abbrev TurnPF := aB isPl
structure PLuF (w : World) (B : Nat → Prop) (p room : Nat) (E bm : Nat) (bs : List Nat) (ky : Nat → Ky) (pv nx : Nat → Nat) (M : Int → Option Nat) : Prop where
  at_ : w.heap[p]? = some (.cells #[.int .i64 (room : Int), ptB E, .map (some bm)] 63 (0, 0))
  lnk : Lnk w ky pv nx (E :: bs)
  seg : Seg pv nx E bs E
  one : (E :: bs).Nodup
  map : a8 w bm bs.length M
  hit : ∀ b ∈ bs, M (ky b).n = some b
  who : ∀ k b, (Lit.int .i64 k).wf = true → M k = some b → b ∈ bs ∧ (ky b).n = k
  low : B p ∧ B bm ∧ ∀ b ∈ E :: bs, B b
  ok : LOk room (bs.map ky)
  rm : 1 ≤ room ∧ room ≤ 64
def PLF (w : World) (B : Nat → Prop) (p room : Nat) (L : List Ky) : Prop := ∃ E bm bs ky pv nx M, PLuF w B p room E bm bs ky pv nx M ∧ bs.map ky = L
section
variable {w w' : World} {B : Nat → Prop} {p room E bm : Nat} {bs : List Nat} {ky : Nat → Ky} {pv nx : Nat → Nat} {M : Int → Option Nat} {L : List Ky}
theorem PLuF.keep (h : PLuF w B p room E bm bs ky pv nx M) (hk : ∀ (b : Nat) (o : Obj), w.heap[b]? = some o → isPl o → w'.heap[b]? = some o) : PLuF w' B p room E bm bs ky pv nx M :=
  ⟨hk _ _ h.at_ (.inr rfl), h.lnk.keep fun b cs hb => hk b _ hb (.inl rfl), h.seg, h.one, h.map.kept fun es c hb => hk _ _ hb trivial, h.hit, h.who, h.low, h.ok, h.rm⟩
theorem PLuF.c0 (h : PLuF w B p room E bm bs ky pv nx M) : w.cell? ⟨p, 0, none⟩ = some (.int .i64 (room : Int)) := (cells3 h.at_).1
theorem PLuF.c1 (h : PLuF w B p room E bm bs ky pv nx M) : w.cell? ⟨p, 1, none⟩ = some (.pointer (some ⟨E, 0, none⟩)) := (cells3 h.at_).2.1
theorem PLuF.c2 (h : PLuF w B p room E bm bs ky pv nx M) : w.cell? ⟨p, 2, none⟩ = some (.map (some bm)) := (cells3 h.at_).2.2
theorem PLF.keep (h : PLF w B p room L) (hk : ∀ (b : Nat) (o : Obj), w.heap[b]? = some o → isPl o → w'.heap[b]? = some o) : PLF w' B p room L := by
  obtain ⟨E, bm, bs, ky, pv, nx, M, h, e⟩ := h
  exact ⟨E, bm, bs, ky, pv, nx, M, h.keep hk, e⟩
theorem PLF.below (h : PLF w B p room L) (hb : Below w.heap.size w w') : PLF w' B p room L := h.keep fun b o ho _ => aw ho hb
end
section
variable {w w' : World} {B B' : Nat → Prop} {p room E bm : Nat} {bs : List Nat} {ky : Nat → Ky} {pv nx : Nat → Nat} {M : Int → Option Nat} {L : List Ky}
theorem a8.lt {b N : Nat} (h : a8 w b N M) : b < w.heap.size := by obtain ⟨es, c, hb⟩ := h.obj; exact bN hb
theorem PLuF.mono (h : PLuF w B p room E bm bs ky pv nx M) (hB : ∀ b, B b → b < w.heap.size → B' b) : PLuF w B' p room E bm bs ky pv nx M :=
  ⟨h.at_, h.lnk, h.seg, h.one, h.map, h.hit, h.who, ⟨hB _ h.low.1 (bN h.at_), hB _ h.low.2.1 h.map.lt, fun b hb => hB _ (h.low.2.2 b hb) (bN (h.lnk b hb))⟩, h.ok, h.rm⟩
theorem PLF.mono (h : PLF w B p room L) (hB : ∀ b, B b → b < w.heap.size → B' b) : PLF w B' p room L := by
  obtain ⟨E, bm, bs, ky, pv, nx, M, h, e⟩ := h
  exact ⟨E, bm, bs, ky, pv, nx, M, h.mono hB, e⟩
theorem PLF.only {G : Nat → Prop} (h : PLF w B p room L) (hk : Only G w w') (hG : ∀ b, B b → ¬ G b) : PLF w' B p room L := by
  obtain ⟨E, bm, bs, ky, pv, nx, M, h, e⟩ := h
  refine ⟨E, bm, bs, ky, pv, nx, M, ⟨Only.keep hk h.at_ (hG _ h.low.1), fun b hb => Only.keep hk (h.lnk b hb) (hG b (h.low.2.2 b hb)), h.seg, h.one, h.map.kept fun es c hb => Only.keep hk hb (hG _ h.low.2.1), h.hit, h.who, h.low, h.ok, h.rm⟩, e⟩
end
section
variable {w : World} {B : Nat → Prop} {n E : Nat} {ky : Nat → Ky} {pv nx : Nat → Nat} {S : List Nat}
theorem p_leaveF (w : World) (h : Lnk w ky pv nx S) (hn : n ∈ S) (hp : pv n ∈ S) (hx : nx n ∈ S) (hB : ∀ b ∈ S, B b) :
    Calls Try.prog 61 #[.pointer (some ⟨n, 0, none⟩)] w fun e w' => e = .returned (.tuple #[]) ∧ Lnk w' ky (aR pv (nx n) (pv n)) (aR nx (pv n) (nx n)) S ∧ aB isNd B w w' := by
  have HN := Lib.hid (h n hn)
  have HP := Lib.hid (h (pv n) hp)
  have h1 : Lnk (w.drew.setCell ⟨pv n, 3, none⟩ (ptB (nx n))) ky pv (aR nx (pv n) (nx n)) S := Lnk.s3 (w := w.drew) h (nx n) hp
  have HX1 := Lib.hid (h1 (nx n) hx)
  have H2 := Lib.hid (Lnk.s2 h1 (pv n) hx)
  have HT := Lib.hid (((aB.refl isNd B w).drew.node (hB _ hp) (h (pv n) hp) 3 (ptB (nx n))).node (hB _ hx) (h1 (nx n) hx) 2 (ptB (pv n)))
  clear h h1 hn hp hx hB
  go_enter Try.func61, Try.ntmps61
  go_upto_region 0 with fail
  refine wp_region_still_tail 16 (by kernel_rfl) (by kernel_rfl) ?_
  simp only [List.take_succ_cons, List.take_zero, List.drop_succ_cons, List.drop_zero]
  refine aF rfl (ah rfl (ev rfl)) ?_
  simp only [Act.put, aa, ac, ae]
  refine aF rfl (ao rfl (ev rfl)) ?_
  simp only [Act.put, aa, ac, ae]
  refine aF rfl (ai rfl (ev rfl) faNd2) ?_
  simp only [Act.put, aa, ac, ae]
  refine aF rfl (aq rfl (ev rfl) (ldNd (HN.out).c2)) ?_
  simp only [Act.put, aa, ac, ae]
  refine aF rfl (ah rfl (ev rfl)) ?_
  simp only [Act.put, aa, ac, ae]
  refine aF rfl (ao rfl (ev rfl)) ?_
  simp only [Act.put, aa, ac, ae]
  refine aF rfl (ai rfl (ev rfl) faNd3) ?_
  simp only [Act.put, aa, ac, ae]
  refine aF rfl (aq rfl (ev rfl) (ldNd (HN.out).c3)) ?_
  simp only [Act.put, aa, ac, ae]
  refine aF rfl (ah rfl (ev rfl)) ?_
  simp only [Act.put, aa, ac, ae]
  refine aF rfl (ao rfl (ev rfl)) ?_
  simp only [Act.put, aa, ac, ae]
  refine aF rfl (ai rfl (ev rfl) faNd3) ?_
  simp only [Act.put, aa, ac, ae]
  refine aF rfl (aq rfl (ev rfl) (ldNd (HN.out).c3)) ?_
  simp only [Act.put, aa, ac, ae]
  refine aF rfl (ah rfl (ev rfl)) ?_
  simp only [Act.put, aa, ac, ae]
  refine aF rfl (ao rfl (ev rfl)) ?_
  simp only [Act.put, aa, ac, ae]
  refine aF rfl (ai rfl (ev rfl) faNd2) ?_
  simp only [Act.put, aa, ac, ae]
  refine aF rfl (aq rfl (ev rfl) (ldNd (HN.out).c2)) ?_
  simp only [Act.put, aa, ac, ae]
  refine wpStill_nil ?_
  change wpList _ _ _ _ _ (World.drew _)
  refine af rfl (ao rfl (ev rfl)) ?_
  simp only [Act.put, aa, ac, ae]
  refine af rfl (ai rfl (ev rfl) faNd3) ?_
  simp only [Act.put, aa, ac, ae]
  refine aA rfl (bi rfl (ev rfl) (ev rfl) (stNd HP.out.c3 (HP.out.fz 3))) ?_
  simp only [Act.put, aa, ac, ae]
  refine af rfl (ao rfl (ev rfl)) ?_
  simp only [Act.put, aa, ac, ae]
  refine af rfl (ai rfl (ev rfl) faNd2) ?_
  simp only [Act.put, aa, ac, ae]
  refine aA rfl (bi rfl (ev rfl) (ev rfl) (stNd HX1.out.c2 (HX1.out.fz 2))) ?_
  simp only [Act.put, aa, ac, ae]
  refine wpList_nil ?_
  go_end0
  exact ⟨rfl, H2.out, HT.out⟩
theorem p_followF (w : World) (x : Ky) (u v : Value) (h : Lnk w ky pv nx S) (hn : a6 w n x u v) (hnS : n ∉ S) (hE : E ∈ S) (hx : nx E ∈ S) (hB : ∀ b ∈ S, B b) (hBn : B n) :
    Calls Try.prog 62 #[.pointer (some ⟨n, 0, none⟩), .pointer (some ⟨E, 0, none⟩)] w fun e w' => e = .returned (.tuple #[]) ∧ Lnk w' (aR ky n x) (aR (aR pv n E) (nx E) n) (aR (aR nx n (nx E)) E n) (n :: S) ∧ aB isNd B w w' := by
  have HN := Lib.hid hn
  have HE := Lib.hid (h E hE)
  have n1 := hn.s2 (ptB E)
  have n2 := n1.s3 (ptB (nx E))
  have HN1 := Lib.hid n1
  have HN2 := Lib.hid n2
  have hne : ∀ b ∈ S, b ≠ n := fun b hb e => hnS (by rw [← e]; exact hb)
  have l2 : Lnk ((w.setCell ⟨n, 2, none⟩ (ptB E)).setCell ⟨n, 3, none⟩ (ptB (nx E))) (aR ky n x) (aR pv n E) (aR nx n (nx E)) S := fun b hb => by
    rw [aD _ _ (hne b hb), aD _ _ (hne b hb), aD _ _ (hne b hb)]
    exact ((h b hb).other (p := ⟨n, 2, none⟩) (hne b hb) _).other (p := ⟨n, 3, none⟩) (hne b hb) _
  have m2 : Lnk ((w.setCell ⟨n, 2, none⟩ (ptB E)).setCell ⟨n, 3, none⟩ (ptB (nx E))) (aR ky n x) (aR pv n E) (aR nx n (nx E)) (n :: S) := l2.add (by rw [aQ, aQ, aQ]; exact n2)
  have T2 : aB isNd B w ((w.setCell ⟨n, 2, none⟩ (ptB E)).setCell ⟨n, 3, none⟩ (ptB (nx E))) := ((aB.refl isNd B w).node hBn hn 2 (ptB E)).node hBn n1 3 (ptB (nx E))
  have HM2 := Lib.hid m2
  have HT2 := Lib.hid T2
  have HI := Lib.hid (And.intro hE (And.intro hx (And.intro hB hBn)))
  clear h hn hnS hE hx hB hBn n1 n2 hne l2 m2 T2
  go_enter Try.func62, Try.ntmps62
  go_upto_region 0 with fail
  refine wp_region_lit ?_
  refine af rfl (ah rfl (ev rfl)) ?_
  simp only [Act.put, aa, ac, ae]
  refine af rfl (ah rfl (ev rfl)) ?_
  simp only [Act.put, aa, ac, ae]
  refine af rfl (ah rfl (ev rfl)) ?_
  simp only [Act.put, aa, ac, ae]
  refine af rfl (ah rfl (ev rfl)) ?_
  simp only [Act.put, aa, ac, ae]
  refine af rfl (ao rfl (ev rfl)) ?_
  simp only [Act.put, aa, ac, ae]
  refine af rfl (ai rfl (ev rfl) faNd3) ?_
  simp only [Act.put, aa, ac, ae]
  refine af rfl (aq rfl (ev rfl) (ldNd (HE.out).c3)) ?_
  simp only [Act.put, aa, ac, ae]
  refine af rfl (ao rfl (ev rfl)) ?_
  simp only [Act.put, aa, ac, ae]
  refine af rfl (ai rfl (ev rfl) faNd2) ?_
  simp only [Act.put, aa, ac, ae]
  refine aA rfl (bi rfl (ev rfl) (ev rfl) (stNd HN.out.c2 (HN.out.fz 2))) ?_
  simp only [Act.put, aa, ac, ae]
  refine af rfl (ao rfl (ev rfl)) ?_
  simp only [Act.put, aa, ac, ae]
  refine af rfl (ai rfl (ev rfl) faNd3) ?_
  simp only [Act.put, aa, ac, ae]
  refine aA rfl (bi rfl (ev rfl) (ev rfl) (stNd HN1.out.c3 (HN1.out.fz 3))) ?_
  simp only [Act.put, aa, ac, ae]
  refine wpList_nil ?_
  go_upto_region 1 with fail
  obtain ⟨w2, hw2⟩ : ∃ w2, (w.setCell ⟨n, 2, none⟩ (ptB E)).setCell ⟨n, 3, none⟩ (ptB (nx E)) = w2 := ⟨_, rfl⟩
  unfold ptB at hw2
  rw [hw2]
  unfold ptB at HM2 HT2 HN2
  rw [hw2] at HM2 HT2 HN2
  clear HN HN1 HE hw2
  have HE2 := Lib.hid (HM2.out E (List.mem_cons_of_mem _ HI.out.1))
  have m3 : Lnk (w2.drew.setCell ⟨E, 3, none⟩ (ptB n)) (aR ky n x) (aR pv n E) (aR (aR nx n (nx E)) E n) (n :: S) := Lnk.s3 (w := w2.drew) HM2.out n (List.mem_cons_of_mem _ HI.out.1)
  have HX3 := Lib.hid (m3 (nx E) (List.mem_cons_of_mem _ HI.out.2.1))
  have HM4 := Lib.hid (Lnk.s2 m3 n (List.mem_cons_of_mem _ HI.out.2.1))
  have HT4 := Lib.hid ((HT2.out.drew.node (HI.out.2.2.1 _ HI.out.1) HE2.out 3 (ptB n)).node (HI.out.2.2.1 _ HI.out.2.1) HX3.out 2 (ptB n))
  clear m3
  refine wp_region_two (fun w' => a6 w' n x (ptB E) (ptB (nx E))) (fun _ => True) 12 (by kernel_rfl) ?_
  change bE _ _ _ _ _ _ _ 16 _ _ w2.drew
  refine two_val 0 rfl (by kernel_rfl) (by kernel_rfl) (by kernel_rfl) (by decide) (by kernel_rfl) (by kernel_rfl) rfl (fun w' hw => ah rfl (ev rfl)) (fun _ _ _ h => h) HN2.out ?_
  simp only [Act.put, aa, ac, ae]
  refine two_val 1 rfl (by kernel_rfl) (by kernel_rfl) (by kernel_rfl) (by decide) (by kernel_rfl) (by kernel_rfl) rfl (fun w' hw => ao rfl (ev rfl)) (fun _ _ _ h => h) HN2.out ?_
  simp only [Act.put, aa, ac, ae]
  refine two_val 2 rfl (by kernel_rfl) (by kernel_rfl) (by kernel_rfl) (by decide) (by kernel_rfl) (by kernel_rfl) rfl (fun w' hw => ai rfl (ev rfl) faNd2) (fun _ _ _ h => h) HN2.out ?_
  simp only [Act.put, aa, ac, ae]
  refine two_val 3 rfl (by kernel_rfl) (by kernel_rfl) (by kernel_rfl) (by decide) (by kernel_rfl) (by kernel_rfl) rfl (fun w' hw => aq rfl (ev rfl) (ldNd (hw).c2)) (fun _ _ _ h => h) HN2.out ?_
  simp only [Act.put, aa, ac, ae]
  refine two_any 4 rfl (by kernel_rfl) (by kernel_rfl) (by kernel_rfl) (by decide) (by kernel_rfl) rfl (fun w' hw => ah rfl (ev rfl)) (fun _ _ _ h => h) (condW_pre (by kernel_rfl) HN2.out) ?_
  simp only [Act.put, aa, ac, ae]
  refine two_any 5 rfl (by kernel_rfl) (by kernel_rfl) (by kernel_rfl) (by decide) (by kernel_rfl) rfl (fun w' hw => ao rfl (ev rfl)) (fun _ _ _ h => h) (condW_pre (by kernel_rfl) HN2.out) ?_
  simp only [Act.put, aa, ac, ae]
  refine two_any 6 rfl (by kernel_rfl) (by kernel_rfl) (by kernel_rfl) (by decide) (by kernel_rfl) rfl (fun w' hw => ai rfl (ev rfl) faNd3) (fun _ _ _ h => h) (condW_pre (by kernel_rfl) HN2.out) ?_
  simp only [Act.put, aa, ac, ae]
  refine two_val 7 rfl (by kernel_rfl) (by kernel_rfl) (by kernel_rfl) (by decide) (by kernel_rfl) (by kernel_rfl) rfl (fun w' hw => aq rfl (ev rfl) (ldNd (hw).c3)) (fun _ _ _ h => h) HN2.out ?_
  simp only [Act.put, aa, ac, ae]
  refine two_val 8 rfl (by kernel_rfl) (by kernel_rfl) (by kernel_rfl) (by decide) (by kernel_rfl) (by kernel_rfl) rfl (fun w' hw => ah rfl (ev rfl)) (fun _ _ _ h => h) HN2.out ?_
  simp only [Act.put, aa, ac, ae]
  refine two_any 9 rfl (by kernel_rfl) (by kernel_rfl) (by kernel_rfl) (by decide) (by kernel_rfl) rfl (fun w' hw => ah rfl (ev rfl)) (fun _ _ _ h => h) (condW_pre (by kernel_rfl) HN2.out) ?_
  simp only [Act.put, aa, ac, ae]
  refine two_any 10 rfl (by kernel_rfl) (by kernel_rfl) (by kernel_rfl) (by decide) (by kernel_rfl) rfl (fun w' hw => ao rfl (ev rfl)) (fun _ _ _ h => h) (condW_pre (by kernel_rfl) HN2.out) ?_
  simp only [Act.put, aa, ac, ae]
  refine two_val 11 rfl (by kernel_rfl) (by kernel_rfl) (by kernel_rfl) (by decide) (by kernel_rfl) (by kernel_rfl) rfl (fun w' hw => ai rfl (ev rfl) faNd3) (fun _ _ _ h => h) HN2.out ?_
  simp only [Act.put, aa, ac, ae]
  refine two_nul 12 rfl (by kernel_rfl) rfl (bi rfl (ev rfl) (ev rfl) (stNd HE2.out.c3 (HE2.out.fz 3))) (condW_post (by kernel_rfl) trivial) ?_
  simp only [Act.put]
  refine two_turn 13 rfl (by kernel_rfl) rfl (ao rfl (ev rfl)) (condW_post (by kernel_rfl) trivial) ?_
  simp only [Act.put, aa, ac, ae]
  refine two_turn 14 rfl (by kernel_rfl) rfl (ai rfl (ev rfl) faNd2) (condW_post (by kernel_rfl) trivial) ?_
  simp only [Act.put, aa, ac, ae]
  refine two_nul 15 rfl (by kernel_rfl) rfl (bi rfl (ev rfl) (ev rfl) (stNd HX3.out.c2 (HX3.out.fz 2))) (condW_post (by kernel_rfl) trivial) ?_
  simp only [Act.put]
  refine wpAnyW_done (by kernel_rfl) ?_ _
  go_end0
  exact ⟨rfl, HM4.out, HT4.out⟩
end
section
variable {w w' : World} {B p room E bm i : Nat} {bs : List Nat} {ky : Nat → Ky} {pv nx : Nat → Nat} {M : Int → Option Nat} {L : List Ky} {k : Int}
theorem bZ {b : Nat} {o : Obj} (h : w.mapTurned w' bm) (hb : w.heap[b]? = some o) (hn : ∀ es c, o ≠ .map es c) : w'.heap[b]? = some o := by
  have hg := h.grown
  obtain ⟨es, c, es', c', hm, e⟩ := h
  exact (hg.block b (bN hb) (fun e2 => by injection e2 with e2; subst e2; rw [hm] at hb; cases hb; exact hn _ _ rfl)).trans hb
theorem Lnk.turned {S : List Nat} (h : Lnk w ky pv nx S) (ht : w.mapTurned w' bm) : Lnk w' ky pv nx S := fun b hb => bZ ht (h b hb) fun _ _ e => by cases e
def lsB (bs : List Nat) (L : List Ky) : Option Nat := if lu L = 0 then none else some (bs.getD (lu L - 1) 0)
theorem lsB_none {bs : List Nat} {L : List Ky} (h : lu L = 0) : lsB bs L = none := if_pos h
theorem lsB_some {bs : List Nat} {L : List Ky} {j : Nat} (h : lu L = j + 1) : lsB bs L = some (bs.getD j 0) := by unfold lsB; rw [if_neg (by omega), h]; rfl
theorem wpList_delP {ops : Array Oper} {rest : List Oper} {o : Oper} {a : Act} {Q : Exit → Act → World → Prop} {x y : Operand} {N b : Nat} (hg : o.guard = none) (ho : o.op = .call { callee := .builtin .delete, args := #[x, y], argTypes := #[61, 3] })
    (hx : a.eval x = .map (some b)) (hy : a.eval y = .int .i64 k) (h : a8 w b (N + 1) M) (hw : (Lit.int .i64 k).wf = true) (hn : (M k).isSome = true)
    (hk : ∀ w', a8 w' b N (fun j => if j = k then none else M j) → w.mapTurned w' b → wpList Try.prog ops Q rest (a.put o.dst (.tuple #[])) w') : wpList Try.prog ops Q (o :: rest) a w := by
  obtain ⟨w', h1, h2, h3⟩ := h.del hw hn o.type
  exact af hg (exec_del ho hx hy h1) (hk w' h2 h3)
end
end Go.Proofs.Ytdmhelalbemlcaa
