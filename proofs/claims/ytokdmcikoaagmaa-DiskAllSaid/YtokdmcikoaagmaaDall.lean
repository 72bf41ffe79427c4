/-
  DiskAll's walk.
-/
import Derived.Test.YtokdmcikoaagmaaDsure
namespace Go.Proofs.Ytokdmcikoaagmaa
open Go.RowKit
set_option linter.unusedVariables false

theorem torn_all {y x : Blk} {z : Int} (h : 64 ≤ z) : torn y x z = x := Vector.ext fun i hi => by rw [torn_get _ _ _ _ hi, if_pos (by omega)]
theorem torn_none (y x : Blk) : torn y x 0 = y := Vector.ext fun i hi => by rw [torn_get _ _ _ _ hi, if_neg (by omega)]
theorem crI_all {S : List Blk} {L : List (Int × Blk)} {P : List Int} (h : ∀ i, i < L.length → 64 ≤ P.getD i 0) : ∀ i, i ≤ L.length → crI S L P i = flS S (L.take i) := by
  intro i
  induction i with
  | zero => intro _; simp [crI, flS]
  | succ i ih =>
    intro hi
    rw [crI, ih (by omega), flS_succ (show i < L.length by omega), torn_all (h i (by omega))]
theorem set_same {S : List Blk} {k : Nat} : S.set k (S.getD k zeroB) = S := by
  apply List.ext_getElem?
  intro j
  rw [List.getElem?_set]
  split
  · rename_i e
    subst e
    split
    · rename_i h; simp [List.getD, List.getElem?_eq_getElem h]
    · rename_i h; rw [List.getElem?_eq_none (by omega)]
  · rfl
theorem crI_none (S : List Blk) (L : List (Int × Blk)) (i : Nat) : crI S L [] i = S := by
  induction i with
  | zero => rfl
  | succ i ih =>
    rw [crI, ih]
    show S.set _ (torn _ _ 0) = S
    rw [torn_none]
    exact set_same
theorem flS_at {S : List Blk} {L : List (Int × Blk)} (hF : Fit S L) {k : Nat} (hk : k < S.length) : ∀ i, i ≤ L.length → (flS S (L.take i)).getD k zeroB = lastW (L.take i) k (S.getD k zeroB) := by
  intro i
  induction i with
  | zero => intro _; simp [flS, lastW]
  | succ i ih =>
    intro hi
    obtain ⟨q, hq, hqS⟩ := hF.at_ (show i < L.length by omega)
    rw [flS_succ (show i < L.length by omega), lastW_succ _ _ (show i < L.length by omega), hq]
    by_cases e : q = k
    · subst e
      rw [if_pos rfl, List.getD, show ((q : Nat) : Int).toNat = q from rfl, List.getElem?_set_self (by rw [flS_len]; exact hk)]
      rfl
    · rw [if_neg (by omega), List.getD, List.getElem?_set_ne (by show (q : Int).toNat ≠ k; simpa using e), ← List.getD]
      exact ih (by omega)
theorem flS_read {S : List Blk} {L : List (Int × Blk)} (hF : Fit S L) {k : Nat} (hk : k < S.length) : readB S L false (k : Int) = (flS S L).getD k zeroB ∧ askE S false (k : Int) = 0 := by
  have he := askE_ok (S := S) (n := (k : Int)) (by omega)
  refine ⟨?_, he⟩
  have := flS_at hF hk L.length (Nat.le_refl _)
  rw [List.take_length] at this
  rw [readB_ok he, this]
/-- Four devices that outlive what lies above them. -/
def Four (D : Dev) (w : World) (F Fs Fk Fo : Nat → Prop) (p ps pk po : Nat) (S : List Blk) (L : List (Int × Blk)) : Prop := D.Dv w F p S L false ∧ D.Dv w Fs ps S [] false ∧ D.Dv w Fk pk (flS S L) [] false ∧ D.Dv w Fo po S [] false
theorem Four.below {D : Dev} {w w' : World} {F Fs Fk Fo : Nat → Prop} {p ps pk po : Nat} {S : List Blk} {L : List (Int × Blk)} (h : Four D w F Fs Fk Fo p ps pk po S L) (k : Below w.heap.size w w') : Four D w' F Fs Fk Fo p ps pk po S L :=
  ⟨D.below h.1 k, D.below h.2.1 k, D.below h.2.2.1 k, D.below h.2.2.2 k⟩
/-- The numbers of a cut that keeps all. -/
def keepL (j : Nat) : List Int := (List.range j).map fun (i : Nat) => 64 + (i : Int)
theorem keepL_len (j : Nat) : (keepL j).length = j := by simp [keepL]
theorem keepL_at {i j : Nat} (h : i < j) : 64 ≤ (keepL j).getD i 0 := by
  unfold keepL
  simp [List.getD, List.getElem?_map, List.getElem?_range h]
  omega
theorem keepL_succ (j : Nat) : keepL j ++ [64 + (j : Int)] = keepL (j + 1) := by simp [keepL, List.range_succ]
set_option maxRecDepth 100000 in
set_option maxHeartbeats 4000000 in
theorem all_walk (D : Dev) (a : Nat) (A A2 : Option Addr) (n c n2 c2 : Nat) (l l2 : List (Int × Blk)) (w : World) (ha : a < 256) (hl : RdE WrE w w.heap.size A n l) (hnc : n ≤ c) (hc : c ≤ maxLen)
    (hl2 : RdE WrE w w.heap.size A2 n2 l2) (hnc2 : n2 ≤ c2) (hc2 : c2 ≤ maxLen) :
    Calls Try.prog 5 #[.int .u8 a, .slice A n c, .slice A2 n2 c2] w fun e w' => e = .returned (.bool true) ∧ Below w.heap.size w w' := by
  have HL2 := Lib.hid hl2
  unfold maxLen at hc2
  have hk1 : 1 ≤ 1 + a % 16 ∧ 1 + a % 16 ≤ 16 := by omega
  have hlenR : (List.replicate (1 + a % 16) zeroB).length = 1 + a % 16 := by simp
  go_enter Try.func5, Try.ntmps5
  go_wp2_with fail
  refine (filled_ok D a A n c l w ha hl hnc hc).mono ?_
  rintro e w1 ⟨p, rfl, F1, L1, hd1, hL1, hb1, hf1⟩
  clear hl hl2
  generalize 1 + a % 16 = k at *
  go_wp2_with fail
  refine (D.flush hd1).mono ?_
  rintro e w2 ⟨rfl, F2, hd2, ho2, hg2⟩
  rw [if_neg (by simp), if_neg (by simp)] at hd2
  have hlenS : (flS (List.replicate k zeroB) L1).length = k := by rw [flS_len, hlenR]
  generalize flS (List.replicate k zeroB) L1 = S at *
  have hb2 := hb1.trans (ho2.below hf1 hb1.size)
  have hf2 := hg2.above hf1 hb1.size
  clear hd1 hb1 ho2 hg2 hf1
  have hkne : (k : Int) ≠ 0 := by omega
  go_wp2_with fail
  refine (D.copy hd2).mono ?_
  rintro e w3 ⟨ps, Fs, rfl, hs3, hb3, hfs⟩
  have hd3 := D.below hd2 hb3
  have hdis3 : ∀ b, F2 b → ¬ Fs b := fun b h1 h2 => by have := D.lt hd2 b h1; have := hfs b h2; omega
  have hb3' := hb2.trans (hb3.mono hb2.size)
  have hfs' : ∀ b, Fs b → w.heap.size ≤ b := fun b hb => Nat.le_trans hb2.size (hfs b hb)
  clear hd2 hb3 hb2 hfs
  go_wp2_with fail
  go_loopw [11, 12] (fun v i wr => ∃ (j : Nat) (F : Nat → Prop) (L : List (Int × Blk)), j ≤ n2 ∧ j ≤ 40 ∧ i = .int .i64 j ∧ D.Dv wr F p S L false ∧ L.length = j ∧ D.Dv wr Fs ps S [] false ∧ (∀ b, F b → ¬ Fs b) ∧ Below w.heap.size w wr ∧ (∀ b, F b → w.heap.size ≤ b) ∧ MadeE IntE wr w.heap.size v (keepL j) ∧ (∀ b, v.ownBlock = some b → ¬ F b ∧ ¬ Fs b)) (fun _ i _ => n2 - (intOf i).toNat)
  case atStart => exact ⟨0, F2, [], Nat.zero_le _, by omega, rfl, hd3, rfl, hs3, hdis3, hb3', hf2, MadeE.nil _ _, fun b hb => by simp [Value.ownBlock] at hb⟩
  case round =>
    clear hd3 hs3 hdis3 hb3' hf2
    obtain ⟨j, F, L, hjn, hj4, rfl, hd, hLj, hs, hdis, hbl, hf, hv, hvF⟩ := hrel
    have HD := Lib.hid hd
    have HSr := Lib.hid hs
    have HBL := Lib.hid hbl
    have HV := Lib.hid hv
    by_cases hltt : j < n2 ∧ j < 40
    · obtain ⟨hlt, h40⟩ := hltt
      have h40' : (j : Int) < 40 := by omega
      have hln : (j : Int) < (n2 : Int) := by omega
      obtain ⟨bA, oA, hAe, hA, cA, rA⟩ := (HL2.out.below hbl).pair hlt
      generalize (l2.getD j (0, zeroB)).1 = bn at *
      generalize (l2.getD j (0, zeroB)).2 = x at *
      obtain ⟨q, hqk, hq⟩ := place_u bn k (by omega)
      have hk31 : IntKind.u64.wrap (k : Int) = (k : Int) := by rw [IntKind.wrap_u64]; omega
      have hq31 : IntKind.i64.wrap (q : Int) = (q : Int) := IntWalk.i64_in _ (by omega)
      have HX := Lib.hid (⟨cA, rA⟩ : _ ∧ _)
      have HQ := Lib.hid hq
      subst hAe
      clear cA rA hd hs hbl hv hq
      go_wp2_with fail
      refine wp_region_held (S := fun w' => Hid (w'.cell? ⟨bA, oA + j * 65, none⟩ = some (.int .i64 bn) ∧ w'.rangeAt bA (oA + j * 65 + 1) (cel x))) (by kernel_rfl) ?_
      change wpAnyH _ _ _ _ _ 18 _ _ wr.drew
      have hS : Hid (wr.drew.cell? ⟨bA, oA + j * 65, none⟩ = some (.int .i64 bn) ∧ wr.drew.rangeAt bA (oA + j * 65 + 1) (cel x)) := Lib.hid HX.out
      have hq := HQ.out
      refine held_val 0 rfl (by kernel_rfl) (by kernel_rfl) (by kernel_rfl) rfl (fun w' hw => exec_mv rfl (ev rfl)) (fun _ _ _ h => h) hS ?_
      simp only [Act.put, List.setIfInBounds_toArray, List.set_cons_succ, List.set_cons_zero]
      refine held_val 1 rfl (by kernel_rfl) (by kernel_rfl) (by kernel_rfl) rfl (fun w' hw => exec_mv rfl (ev rfl)) (fun _ _ _ h => h) hS ?_
      simp only [Act.put, List.setIfInBounds_toArray, List.set_cons_succ, List.set_cons_zero]
      refine held_val 2 rfl (by kernel_rfl) (by kernel_rfl) (by kernel_rfl) rfl (fun w' hw => exec_mv rfl (ev rfl)) (fun _ _ _ h => h) hS ?_
      simp only [Act.put, List.setIfInBounds_toArray, List.set_cons_succ, List.set_cons_zero]
      refine held_val 3 rfl (by kernel_rfl) (by kernel_rfl) (by kernel_rfl) rfl (fun w' hw => exec_indexE (E := WrE) rfl (ev rfl) (ev rfl) hlt) (fun _ _ _ h => h) hS ?_
      simp only [Act.put, List.setIfInBounds_toArray, List.set_cons_succ, List.set_cons_zero]
      refine held_val 4 rfl (by kernel_rfl) (by kernel_rfl) (by kernel_rfl) rfl (fun w' hw => exec_faddr rfl (ev rfl) faW0) (fun _ _ _ h => h) hS ?_
      simp only [Act.put, List.setIfInBounds_toArray, List.set_cons_succ, List.set_cons_zero]
      refine held_val 5 rfl (by kernel_rfl) (by kernel_rfl) (by kernel_rfl) rfl (fun w' hw => exec_ld rfl (ev rfl) (ldI hw.out.1)) (fun _ _ _ h => h) hS ?_
      simp only [Act.put, List.setIfInBounds_toArray, List.set_cons_succ, List.set_cons_zero]
      refine held_val 6 rfl (by kernel_rfl) (by kernel_rfl) (by kernel_rfl) rfl (fun w' hw => exec_cvU rfl (ev rfl)) (fun _ _ _ h => h) hS ?_
      simp only [Act.put, List.setIfInBounds_toArray, List.set_cons_succ, List.set_cons_zero]
      refine held_val 7 rfl (by kernel_rfl) (by kernel_rfl) (by kernel_rfl) rfl (fun w' hw => exec_mv rfl (ev rfl)) (fun _ _ _ h => h) hS ?_
      simp only [Act.put, List.setIfInBounds_toArray, List.set_cons_succ, List.set_cons_zero]
      refine held_val 8 rfl (by kernel_rfl) (by kernel_rfl) (by kernel_rfl) rfl (fun w' hw => exec_cvN rfl (ev rfl) hk31) (fun _ _ _ h => h) hS ?_
      simp only [Act.put, List.setIfInBounds_toArray, List.set_cons_succ, List.set_cons_zero]
      refine held_val 9 rfl (by kernel_rfl) (by kernel_rfl) (by kernel_rfl) rfl (fun w' hw => exec_remU rfl (ev rfl) (ev rfl) hkne hq) (fun _ _ _ h => h) hS ?_
      simp only [Act.put, List.setIfInBounds_toArray, List.set_cons_succ, List.set_cons_zero]
      refine held_val 10 rfl (by kernel_rfl) (by kernel_rfl) (by kernel_rfl) rfl (fun w' hw => exec_cvI rfl (ev rfl) hq31) (fun _ _ _ h => h) hS ?_
      simp only [Act.put, List.setIfInBounds_toArray, List.set_cons_succ, List.set_cons_zero]
      refine held_val 11 rfl (by kernel_rfl) (by kernel_rfl) (by kernel_rfl) rfl (fun w' hw => exec_mv rfl (ev rfl)) (fun _ _ _ h => h) hS ?_
      simp only [Act.put, List.setIfInBounds_toArray, List.set_cons_succ, List.set_cons_zero]
      refine held_val 12 rfl (by kernel_rfl) (by kernel_rfl) (by kernel_rfl) rfl (fun w' hw => exec_mv rfl (ev rfl)) (fun _ _ _ h => h) hS ?_
      simp only [Act.put, List.setIfInBounds_toArray, List.set_cons_succ, List.set_cons_zero]
      refine held_val 13 rfl (by kernel_rfl) (by kernel_rfl) (by kernel_rfl) rfl (fun w' hw => exec_indexE (E := WrE) rfl (ev rfl) (ev rfl) hlt) (fun _ _ _ h => h) hS ?_
      simp only [Act.put, List.setIfInBounds_toArray, List.set_cons_succ, List.set_cons_zero]
      refine held_val 14 rfl (by kernel_rfl) (by kernel_rfl) (by kernel_rfl) rfl (fun w' hw => exec_faddr rfl (ev rfl) faW1) (fun _ _ _ h => h) hS ?_
      simp only [Act.put, List.setIfInBounds_toArray, List.set_cons_succ, List.set_cons_zero]
      refine held_val 15 rfl (by kernel_rfl) (by kernel_rfl) (by kernel_rfl) rfl (fun w' hw => exec_load rfl (ev rfl) hw.out.2) (fun _ _ _ h => h) hS ?_
      simp only [Act.put, List.setIfInBounds_toArray, List.set_cons_succ, List.set_cons_zero]
      have hd1 := D.below HD.out (bd (Below.refl _ _))
      have hs1 := D.below HSr.out (bd (Below.refl _ _))
      obtain ⟨hask, hwr⟩ := wrL_ok (L := L) (b := x) (show q < S.length by omega)
      refine held_call 16 rfl (by kernel_rfl) rfl (exec_cl Try.call16 rfl (evc (ev rfl) (evc (ev rfl) (evc (ev rfl) evn)))) ((D.write (q : Int) x (by omega) hd1).mono ?_)
      rintro e w5 ⟨rfl, F5, hd5, ho5, hg5⟩
      rw [hwr] at hd5
      rw [hask]
      have hnF : ¬ F bA := fun e => by have := hf bA e; omega
      have hA1 : bA < wr.drew.heap.size := Nat.lt_of_lt_of_le hA HBL.out.size
      have hS5 : Hid (w5.cell? ⟨bA, oA + j * 65, none⟩ = some (.int .i64 bn) ∧ w5.rangeAt bA (oA + j * 65 + 1) (cel x)) :=
        Lib.hid ⟨(ho5.cell (p := ⟨bA, oA + j * 65, none⟩) hA1 hnF).trans hS.out.1, fun i v hi => (ho5.cell (p := ⟨bA, oA + j * 65 + 1 + i, none⟩) hA1 hnF).trans (hS.out.2 i v hi)⟩
      have hb5 := (bd HBL.out).trans (ho5.below hf HBL.out.size)
      have hf5 := hg5.above hf HBL.out.size
      have hs5 := D.only hs1 ho5 (fun b h1 h2 => hdis b h2 h1)
      have hdis5 : ∀ b, F5 b → ¬ Fs b := fun b h1 h2 => by
        rcases hg5 b h1 with e | e
        · exact hdis b e h2
        · have := D.lt hs1 b h2; omega
      have hv1 : MadeE IntE wr.drew w.heap.size u11 (keepL j) := HV.out.below (bd (Below.refl _ _))
      have hv5 := hv1.only ho5 (fun b hb => (hvF b hb).1)
      have hvF5 : ∀ b, u11.ownBlock = some b → ¬ F5 b ∧ ¬ Fs b := fun b hb => ⟨fun h => by
        rcases hg5 b h with e | e
        · exact (hvF b hb).1 e
        · have := hv1.own_lt b hb; omega, (hvF b hb).2⟩
      refine ⟨_, rfl, hS5, ?_⟩
      simp only [Act.put, List.setIfInBounds_toArray, List.set_cons_succ, List.set_cons_zero]
      refine held_val 17 rfl (by kernel_rfl) (by kernel_rfl) (by kernel_rfl) rfl (fun w' hw => exec_neInt false rfl (ev rfl) evk rfl) (fun _ _ _ h => h) hS5 ?_
      simp only [Act.put, List.setIfInBounds_toArray, List.set_cons_succ, List.set_cons_zero]
      refine wpAnyH_done (by kernel_rfl) ?_ _
      have hnew : RdE IntE _ _ _ 1 _ := rdE_new (E := IntE) (l := [64 + (j : Int)]) w5 #[.int .i64 (64 + (j : Int))] 3 rfl
      have hba : Below w5.heap.size w5 (w5.alloc (.cells #[.int .i64 (64 + (j : Int))] 3)) := (Below.refl _ _).alloc (Nat.le_refl _) _
      have hv6 := hv5.below hba
      have hd6 := D.below hd5 hba
      have hs6 := D.below hs5 hba
      have hb6 := hb5.trans (hba.mono hb5.size)
      have hlt5 := blk_lt (new1 w5 #[.int .i64 (64 + (j : Int))] 3)
      clear hd1 hs1 hd5 hs5 hb5 hv1 hv5 ho5 hg5 hS5 hS hask hwr hq
      go_wp2_with (at_builtin; refine wpList_appE_own IntE rfl _ _ rfl w.heap.size _ 1 _ u11 _ _ _ rfl rfl hv6 hnew hb6.size ?c1 ?_)
      case c1 => rw [keepL_len]; omega
      intro v7 w7 hm7 hg7 ho7
      have hO7 : Only (fun b => u11.ownBlock = some b) (w5.alloc (.cells #[.int .i64 (64 + (j : Int))] 3)) w7 := (Only.refl _ _).grown hg7 (fun x hx => .inl hx)
      have hd7 := D.only hd6 hO7 (fun b h1 h2 => (hvF5 b h2).1 h1)
      have hs7 := D.only hs6 hO7 (fun b h1 h2 => (hvF5 b h2).2 h1)
      have hb7 := hb6.grown hg7 hb6.size hv6.lt_own
      have hvF7 : ∀ b, v7.ownBlock = some b → ¬ F5 b ∧ ¬ Fs b := fun b hb => by
        rcases ho7 b hb with e | e
        · exact hvF5 b e
        · exact ⟨fun h => by have := D.lt hd6 b h; rw [World.size_alloc] at this; omega, fun h => by have := D.lt hs6 b h; rw [World.size_alloc] at this; omega⟩
      rw [keepL_succ] at hm7
      clear hnew hba hv6 hd6 hs6 hb6 hg7 ho7 hO7 hvF5 hlt5
      go_wp2_with fail
      go_roundw
      case rel => exact ⟨j + 1, F5, _, by omega, by omega, by go_num, hd7, by rw [List.length_append, hLj]; rfl, hs7, hdis5, hb7, hf5, hm7, hvF7⟩
      case measure => simp [intOf]; omega
    · have hor : ¬((j : Int) < (n2 : Int)) ∨ (((j : Int) < (n2 : Int)) ∧ ¬((j : Int) < 40)) := by omega
      have hfit := (D.fit hd).1
      clear hd hs hbl hv
      have HLJ := Lib.hid hLj
      rcases hor with h | ⟨h, h'⟩
      all_goals
        go_wp2_with fail
        refine (D.copy HD.out).mono ?_
        rintro e w5 ⟨pk, Fk, rfl, hk5, hb5, hfk⟩
        have hd5 := D.below HD.out hb5
        have hs5 := D.below HSr.out hb5
        have hv5 := HV.out.below hb5
        have hkd : ∀ b, Fk b → ¬ F b ∧ ¬ Fs b := fun b hb => ⟨fun h => by have := D.lt HD.out b h; have := hfk b hb; omega, fun h => by have := D.lt HSr.out b h; have := hfk b hb; omega⟩
        have hkv : ∀ b, u11.ownBlock = some b → ¬ Fk b := fun b hb h => by have := HV.out.own_lt b hb; have := hfk b h; omega
        have hbw5 := HBL.out.trans (hb5.mono HBL.out.size)
        have hfk' : ∀ b, Fk b → w.heap.size ≤ b := fun b hb => Nat.le_trans HBL.out.size (hfk b hb)
        clear hb5 hfk
        go_wp2_with fail
        refine (D.copy hd5).mono ?_
        rintro e w6 ⟨po, Fo, rfl, ho6, hb6, hfo⟩
        have hd6 := D.below hd5 hb6
        have hs6 := D.below hs5 hb6
        have hk6 := D.below hk5 hb6
        have hv6 := hv5.below hb6
        have hod : ∀ b, Fo b → ¬ F b ∧ ¬ Fs b ∧ ¬ Fk b := fun b hb => ⟨fun h => by have := D.lt hd5 b h; have := hfo b hb; omega, fun h => by have := D.lt hs5 b h; have := hfo b hb; omega, fun h => by have := D.lt hk5 b h; have := hfo b hb; omega⟩
        have hbw6 := hbw5.trans (hb6.mono hbw5.size)
        have hfo' : ∀ b, Fo b → w.heap.size ≤ b := fun b hb => Nat.le_trans hbw5.size (hfo b hb)
        clear hd5 hs5 hk5 hv5 hb6 hbw5 hfo
        obtain ⟨AP, cP, rfl, hrP, hP1, hP2⟩ := hv6.open_ (n := j) (keepL_len j)
        go_wp2_with fail
        refine (D.crash hrP hP1 hP2 (fun x hx hn => by subst hx; exact hkv x.block (by simp [Value.ownBlock])) hk6).mono ?_
        rintro e w7 ⟨rfl, F7, hk7, ho7, hg7⟩
        rw [crI_all (fun i hi => keepL_at (by omega)) L.length (Nat.le_refl _), List.take_length] at hk7
        have hd7 := D.only hd6 ho7 (fun b h1 h2 => (hkd b h2).1 h1)
        have hs7 := D.only hs6 ho7 (fun b h1 h2 => (hkd b h2).2 h1)
        have hl7 := D.only ho6 ho7 (fun b h1 h2 => (hod b h1).2.2 h2)
        have hol7 : ∀ b, Fo b → ¬ F7 b := fun b hb h => by
          rcases hg7 b h with e | e
          · exact (hod b hb).2.2 e
          · have := D.lt ho6 b hb; omega
        have hbw7 := hbw6.trans (ho7.below hfk' hbw6.size)
        clear hd6 hs6 hk6 ho6 hv6 hbw6 ho7 hrP
        rw [show min L.length j = j by omega]
        go_wp2_with fail
        refine (D.crash (A := none) (n := 0) (c := 0) (P := []) (RdE.nil _ _ _) (Nat.le_refl _) (by unfold maxLen; omega) (fun x hx => by cases hx) hl7).mono ?_
        rintro e w8 ⟨rfl, F8, hl8, ho8, hg8⟩
        rw [crI_none] at hl8
        have hd8 := D.only hd7 ho8 (fun b h1 h2 => (hod b h2).1 h1)
        have hs8 := D.only hs7 ho8 (fun b h1 h2 => (hod b h2).2.1 h1)
        have hk8 := D.only hk7 ho8 (fun b h1 h2 => hol7 b h2 h1)
        have hbw8 := hbw7.trans (ho8.below hfo' hbw7.size)
        clear hd7 hs7 hk7 hl7 hbw7 ho8
        rw [show min L.length 0 = 0 by omega]
        go_wp2_with fail
        refine (D.loose hd8).mono ?_
        rintro e w9 ⟨rfl, hb9⟩
        rw [HLJ.out]
        have HZ := Lib.hid (show Four D w9 F Fs F7 F8 p ps pk po S L from ⟨D.below hd8 hb9, D.below hs8 hb9, D.below hk8 hb9, D.below hl8 hb9⟩)
        have HBW := Lib.hid (hbw8.trans (hb9.mono hbw8.size))
        have HFIT := Lib.hid hfit
        have HLEN := Lib.hid hlenS
        clear hd8 hs8 hk8 hl8 hbw8 hb9 hfit hlenS hg8 hol7 hg7 hfo' hfk' hod hkd hkv hP1 hP2
        go_wp2_with fail
        go_loopw [19, 20, 21, 22, 23, 24, 25, 26, 27] (fun i p20 p21 p22 p23 p24 p25 p26 p27 wr => ∃ q : Nat, q ≤ k ∧ i = .int .i64 q ∧ Below w9.heap.size w9 wr) (fun i _ _ _ _ _ _ _ _ _ => k - (intOf i).toNat)
        case atStart => exact ⟨0, Nat.zero_le _, rfl, Below.refl _ _⟩
        case round =>
          obtain ⟨q, hq, rfl, hbl⟩ := hrel
          by_cases hlt : q < k
          · have hjl : (q : Int) < (k : Int) := by omega
            have HZ0 := Lib.hid (HZ.out.below hbl)
            have HB0 := Lib.hid hbl
            have hqS : q < S.length := by have := HLEN.out; omega
            have hask : askE S false (q : Int) = 0 := askE_ok (by omega)
            have haskT : askE (flS S L) false (q : Int) = 0 := askE_ok (by rw [flS_len]; omega)
            obtain ⟨xx, hx1, hx2⟩ : ∃ xx, readB S L false (q : Int) = xx ∧ sureB (flS S L) false (q : Int) = xx := ⟨_, (flS_read HFIT.out hqS).1, sureB_ok haskT⟩
            obtain ⟨yy, hy1⟩ : ∃ yy, sureB S false (q : Int) = yy := ⟨_, rfl⟩
            have HX1 := Lib.hid hx1
            have HX2 := Lib.hid hx2
            have HY1 := Lib.hid hy1
            have HAS := Lib.hid hask
            have HAT := Lib.hid haskT
            clear hbl hx1 hx2 hy1 hask haskT
            obtain ⟨hd, hs, hk, hl⟩ := HZ0.out
            go_wp2_with fail
            refine (D.read (q : Int) hd).mono ?_
            rintro e v2 ⟨rfl, hb2⟩
            rw [HX1.out, HAS.out]
            have K3 := new1 v2 (cel xx).toArray 33
            have HZ3 := Lib.hid ((HZ0.out.below hb2).below ((Below.refl _ _).alloc (Nat.le_refl _) (.cells (cel xx).toArray 33)))
            have HB3 := Lib.hid ((HB0.out.trans (hb2.mono HB0.out.size)).alloc (Nat.le_trans HB0.out.size hb2.size) (.cells (cel xx).toArray 33))
            clear hb2 hd hs hk hl HZ0 HB0
            go_wp2_with (first | (refine wpList_val rfl (exec_alloc rfl) ?_) | (refine wpList_nul rfl (exec_fill rfl rfl rfl) ?_) | fail)
            generalize hy3 : v2.heap.size = y3 at *
            generalize v2.alloc (.cells (cel xx).toArray 33) = v3 at *
            clear hy3
            obtain ⟨hd, hs, hk, hl⟩ := HZ3.out
            refine (D.sure (q : Int) hk).mono ?_
            rintro e v4 ⟨rfl, hb4⟩
            rw [HX2.out, HAT.out]
            have K5 := blk_past (blk_keep K3 hb4) (.cells (cel xx).toArray 33)
            have M5 := new1 v4 (cel xx).toArray 33
            have HZ5 := Lib.hid ((HZ3.out.below hb4).below ((Below.refl _ _).alloc (Nat.le_refl _) (.cells (cel xx).toArray 33)))
            have HB5 := Lib.hid ((HB3.out.trans (hb4.mono HB3.out.size)).alloc (Nat.le_trans HB3.out.size hb4.size) (.cells (cel xx).toArray 33))
            clear hb4 hd hs hk hl K3 HZ3 HB3
            go_wp2_with (first | (refine wpList_val rfl (exec_alloc rfl) ?_) | (refine wpList_nul rfl (exec_fill rfl rfl rfl) ?_) | fail)
            generalize hy5 : v4.heap.size = y5 at *
            generalize v4.alloc (.cells (cel xx).toArray 33) = v5 at *
            clear hy5
            obtain ⟨hd, hs, hk, hl⟩ := HZ5.out
            refine (D.sure (q : Int) hl).mono ?_
            rintro e v6 ⟨rfl, hb6⟩
            rw [HY1.out, HAS.out]
            have K7 := blk_past (blk_keep K5 hb6) (.cells (cel yy).toArray 33)
            have M7 := blk_past (blk_keep M5 hb6) (.cells (cel yy).toArray 33)
            have N7 := new1 v6 (cel yy).toArray 33
            have HZ7 := Lib.hid ((HZ5.out.below hb6).below ((Below.refl _ _).alloc (Nat.le_refl _) (.cells (cel yy).toArray 33)))
            have HB7 := Lib.hid ((HB5.out.trans (hb6.mono HB5.out.size)).alloc (Nat.le_trans HB5.out.size hb6.size) (.cells (cel yy).toArray 33))
            clear hb6 hd hs hk hl K5 M5 HZ5 HB5
            go_wp2_with (first | (refine wpList_val rfl (exec_alloc rfl) ?_) | (refine wpList_nul rfl (exec_fill rfl rfl rfl) ?_) | fail)
            generalize hy7 : v6.heap.size = y7 at *
            generalize v6.alloc (.cells (cel yy).toArray 33) = v7 at *
            clear hy7
            obtain ⟨hd, hs, hk, hl⟩ := HZ7.out
            refine (D.sure (q : Int) hs).mono ?_
            rintro e v8 ⟨rfl, hb8⟩
            rw [HY1.out, HAS.out]
            have K9 := Lib.hid (blk_range (blk_past (blk_keep K7 hb8) (.cells (cel yy).toArray 33)))
            have M9 := Lib.hid (blk_range (blk_past (blk_keep M7 hb8) (.cells (cel yy).toArray 33)))
            have N9 := Lib.hid (blk_range (blk_past (blk_keep N7 hb8) (.cells (cel yy).toArray 33)))
            have O9 := Lib.hid (blk_range (new1 v8 (cel yy).toArray 33))
            have HB9 := Lib.hid ((HB7.out.trans (hb8.mono HB7.out.size)).alloc (Nat.le_trans HB7.out.size hb8.size) (.cells (cel yy).toArray 33))
            clear hb8 hd hs hk hl K7 M7 N7 HZ7 HB7
            go_wp2_with (first | (refine wpList_val rfl (exec_alloc rfl) ?_) | (refine wpList_nul rfl (exec_fill rfl rfl rfl) ?_) | (refine wpList_val rfl (exec_load rfl rfl K9.out) ?_) | (refine wpList_val rfl (exec_load rfl rfl M9.out) ?_) | (refine wpList_val rfl (exec_load rfl rfl N9.out) ?_) | (refine wpList_val rfl (exec_load rfl rfl O9.out) ?_) | (refine wpList_val rfl (exec_neq rfl rfl rfl) ?_))
            go_roundw
            case rel => exact ⟨q + 1, by omega, by go_num, HB9.out⟩
            case measure => simp [intOf]; omega
          · have hjl : ¬((q : Int) < (k : Int)) := by omega
            have HB0 := Lib.hid (HBW.out.trans (hbl.mono HBW.out.size))
            clear hbl
            go_wp2_with fail
            refine (lives_yes D _).mono ?_
            rintro e v10 ⟨rfl, hb10⟩
            have HB1 := Lib.hid (HB0.out.trans (hb10.mono HB0.out.size))
            clear hb10
            go_wp2_with fail
            go_ret
            exact ⟨rfl, HB1.out⟩
end Go.Proofs.Ytokdmcikoaagmaa
