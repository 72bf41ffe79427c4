import Derived.Test.YtdmhelalbemlcaaSnad
import Derived.Test.YtdmhelalbemlcaaSnab
import Derived.Test.YtdmhelalbemlcaaSnaa
import Derived.Test.YtdmhelalbemlcaaSnZ
namespace Go.Proofs.Ytdmhelalbemlcaa
open Go.RowKit
open Go.Maps (Keyed)
set_option linter.unusedVariables false
set_option linter.unusedSimpArgs false
set_option maxRecDepth 100000
section
variable {w w' : World} {B : Nat → Prop} {p room E bm i : Nat} {bs : List Nat} {ky : Nat → Ky} {pv nx : Nat → Nat} {M : Int → Option Nat} {L : List Ky} {k : Int}
theorem turnP_mapF {w0 : World} (h : TurnPF B w0 w) (hB : B bm) (ht : w.mapTurned w' bm) : TurnPF B w0 w' := h.map (k := 0) hB (fun _ _ => trivial) ht
theorem PLuF.pvm (h : PLuF w B p room E bm bs ky pv nx M) {b : Nat} (hb : b ∈ E :: bs) : pv b ∈ E :: bs := by
  rcases List.mem_cons.1 hb with rfl | hb
  · exact seg_pv h.seg
  · obtain ⟨l, r, e⟩ := List.append_of_mem hb
    have hs := h.seg
    rw [e] at hs
    have := seg_pv (seg_append.1 hs).1
    rw [e]
    rcases List.mem_cons.1 this with e2 | e2
    · rw [e2]; simp
    · exact List.mem_cons_of_mem _ (List.mem_append.2 (.inl e2))
theorem PLuF.nxm (h : PLuF w B p room E bm bs ky pv nx M) {b : Nat} (hb : b ∈ E :: bs) : nx b ∈ E :: bs := by
  have key : ∀ x, x ∈ bs ++ [E] → x ∈ E :: bs := fun x hx => by
    rcases List.mem_append.1 hx with e | e
    · exact List.mem_cons_of_mem _ e
    · simp at e; rw [e]; simp
  rcases List.mem_cons.1 hb with rfl | hb
  · exact key _ (seg_nx h.seg)
  · obtain ⟨l, r, e⟩ := List.append_of_mem hb
    have hs := h.seg
    rw [e] at hs
    have := seg_nx (seg_append.1 hs).2
    refine key _ ?_
    rw [e]
    rcases List.mem_append.1 this with e2 | e2
    · simp [e2]
    · simp at e2; simp [e2]
theorem PLuF.at_key (h : PLuF w B p room E bm bs ky pv nx M) (hi : plc k (bs.map ky) < bs.length) : M k = some (bs.getD (plc k (bs.map ky)) 0) := by
  have h1 := plc_at (k := k) (L := bs.map ky) (by simpa using hi)
  rw [getD_map ky bs 0 ky0 hi] at h1
  have := h.hit _ (aK (d := 0) hi)
  rwa [h1] at this
theorem PLuF.no_key (h : PLuF w B p room E bm bs ky pv nx M) (hw : (Lit.int .i64 k).wf = true) (hi : ¬ plc k (bs.map ky) < bs.length) : M k = none := by
  cases e : M k with
  | none => rfl
  | some b =>
    obtain ⟨h1, h2⟩ := h.who k b hw e
    have : plc k (bs.map ky) < (bs.map ky).length := plc_mem.2 (by unfold keyL; rw [List.map_map]; exact List.mem_map.2 ⟨b, h1, h2⟩)
    rw [List.length_map] at this
    exact absurd this hi
theorem PLuF.kwf (h : PLuF w B p room E bm bs ky pv nx M) {b : Nat} (hb : b ∈ bs) : (Lit.int .i64 (ky b).n).wf = true := h.ok.wf _ (List.mem_map.2 ⟨b, hb, rfl⟩)
theorem PLuF.inj (h : PLuF w B p room E bm bs ky pv nx M) {b c : Nat} (hb : b ∈ bs) (hc : c ∈ bs) (e : (ky b).n = (ky c).n) : b = c := by
  have h1 := h.hit b hb
  have h2 := h.hit c hc
  rw [e, h2] at h1
  injection h1 with h1
  exact h1.symm
theorem bJ (w : World) (h : PLuF w B p room E bm bs ky pv nx M) : Calls Try.prog 45 #[.pointer (some ⟨p, 0, none⟩)] w fun e w' => e = .returned (.bool true) ∧ w = w' := by
  have c0 := h.c0
  have hr := h.rm
  have hd : decide (0 < room) = true := decide_eq_true (by omega)
  clear h hr
  go_enter Try.func45, Try.ntmps45
  go_wp2_with fail
  go_ret
  exact ⟨rfl, rfl⟩
theorem p_find_hitF (w : World) (h : PLuF w B p room E bm bs ky pv nx M) (hw : (Lit.int .i64 k).wf = true) {b : Nat} (hm : M k = some b) :
    Calls Try.prog 34 #[.pointer (some ⟨p, 0, none⟩), .int .i64 k] w fun e w' => e = .returned (.tuple #[.pointer (some ⟨b, 0, none⟩), .int .i64 0]) ∧ w = w' := by
  have HL := Lib.hid h
  have HK : Hid ((Instr.lookup 61 (.map (some bm)) (.int .i64 k) false).run Try.prog w = .ok (.pointer (some ⟨b, 0, none⟩)) w) := Lib.hid (by have := h.map.look hw; rw [hm] at this; exact this)
  clear h hw hm
  go_enter Try.func34, Try.ntmps34
  go_wp2_with fail
  refine (bJ _ HL.out).mono ?_
  rintro e w1 ⟨rfl, rfl⟩
  go_upto_region 3 with fail
  refine wp_region_lit ?_
  refine af rfl (ah rfl (ev rfl)) ?_
  simp only [Act.put, aa, ac, ae]
  refine af rfl (ao rfl (ev rfl)) ?_
  simp only [Act.put, aa, ac, ae]
  refine af rfl (ai rfl (ev rfl) faLs2) ?_
  simp only [Act.put, aa, ac, ae]
  refine af rfl (aq rfl (ev rfl) (ldMp (HL.out).c2)) ?_
  simp only [Act.put, aa, ac, ae]
  refine af rfl (ah rfl (ev rfl)) ?_
  simp only [Act.put, aa, ac, ae]
  refine af rfl (aZ rfl (ev rfl) (ev rfl) HK.out) ?_
  simp only [Act.put, aa, ac, ae]
  refine af rfl (al rfl (ev rfl)) ?_
  simp only [Act.put, aa, ac, ae]
  refine wpList_nil ?_
  go_upto_region 4 with fail
  refine wp_region_lit ?_
  refine af rfl (ah rfl (ev rfl)) ?_
  simp only [Act.put, aa, ac, ae]
  refine af (v := .bool false) rfl (bj false Try.underlying58 rfl (ev rfl) evk rfl) ?_
  simp only [Act.put, aa, ac, ae]
  refine wpList_nil ?_
  go_wp2_with fail
  go_ret2
  exact ⟨rfl, rfl⟩
theorem p_find_noF (w : World) (h : PLuF w B p room E bm bs ky pv nx M) (hw : (Lit.int .i64 k).wf = true) (hm : M k = none) :
    Calls Try.prog 34 #[.pointer (some ⟨p, 0, none⟩), .int .i64 k] w fun e w' => e = .returned (.tuple #[.pointer none, .int .i64 7]) ∧ w = w' := by
  have HL := Lib.hid h
  have HK : Hid ((Instr.lookup 61 (.map (some bm)) (.int .i64 k) false).run Try.prog w = .ok (.pointer none) w) := Lib.hid (by have := h.map.look hw; rw [hm] at this; exact this)
  clear h hw hm
  go_enter Try.func34, Try.ntmps34
  go_wp2_with fail
  refine (bJ _ HL.out).mono ?_
  rintro e w1 ⟨rfl, rfl⟩
  go_upto_region 3 with fail
  refine wp_region_lit ?_
  refine af rfl (ah rfl (ev rfl)) ?_
  simp only [Act.put, aa, ac, ae]
  refine af rfl (ao rfl (ev rfl)) ?_
  simp only [Act.put, aa, ac, ae]
  refine af rfl (ai rfl (ev rfl) faLs2) ?_
  simp only [Act.put, aa, ac, ae]
  refine af rfl (aq rfl (ev rfl) (ldMp (HL.out).c2)) ?_
  simp only [Act.put, aa, ac, ae]
  refine af rfl (ah rfl (ev rfl)) ?_
  simp only [Act.put, aa, ac, ae]
  refine af rfl (aZ rfl (ev rfl) (ev rfl) HK.out) ?_
  simp only [Act.put, aa, ac, ae]
  refine af rfl (al rfl (ev rfl)) ?_
  simp only [Act.put, aa, ac, ae]
  refine wpList_nil ?_
  go_upto_region 4 with fail
  refine wp_region_lit ?_
  refine af rfl (ah rfl (ev rfl)) ?_
  simp only [Act.put, aa, ac, ae]
  refine af (v := .bool true) rfl (bj true Try.underlying58 rfl (ev rfl) evk rfl) ?_
  simp only [Act.put, aa, ac, ae]
  refine wpList_nil ?_
  go_wp2_with fail
  go_ret2
  exact ⟨rfl, rfl⟩
set_option maxHeartbeats 1000000 in
theorem plu_looseF (w : World) (h : PLuF w B p room E bm bs ky pv nx M) :
    Calls Try.prog 63 #[.pointer (some ⟨p, 0, none⟩)] w fun e w' => e = .returned (ptO (lsB bs (bs.map ky))) ∧ w = w' := by
  have HL := Lib.hid h
  have HE := Lib.hid (h.lnk E (by simp))
  have HPV : Hid (∀ i, i ≤ bs.length → pv ((bs ++ [E]).getD i 0) = (E :: bs).getD i 0) := Lib.hid (seg_pvi h.seg)
  have HEV : Hid (pv E = (E :: bs).getD bs.length 0) := Lib.hid (by have := HPV.out bs.length (Nat.le_refl _); rw [← this]; simp)
  have HPS : Hid (∀ i, i ≤ bs.length → posn ((E :: bs).getD i 0) (E :: bs) = i) := Lib.hid fun i hi => posn_at h.one (by simp; omega)
  have HNO := Lib.hid (List.nodup_cons.1 h.one).1
  obtain ⟨j0, hj0, hz0⟩ := infNd
  have HJ := Lib.hid hj0
  have HZ := Lib.hid hz0
  have HLK := Lib.hid h.lnk
  clear h hj0 hz0
  go_enter Try.func63, Try.ntmps63
  go_upto_region 1 with fail
  refine wp_region_lit ?_
  refine af rfl (ah rfl (ev rfl)) ?_
  simp only [Act.put, aa, ac, ae]
  refine af rfl (ao rfl (ev rfl)) ?_
  simp only [Act.put, aa, ac, ae]
  refine af rfl (ai rfl (ev rfl) faLs1) ?_
  simp only [Act.put, aa, ac, ae]
  refine af rfl (aq rfl (ev rfl) (ldNd (HL.out).c1)) ?_
  simp only [Act.put, aa, ac, ae]
  refine af rfl (ao rfl (ev rfl)) ?_
  simp only [Act.put, aa, ac, ae]
  refine af rfl (ai rfl (ev rfl) faNd2) ?_
  simp only [Act.put, aa, ac, ae]
  refine af rfl (aq rfl (ev rfl) (ldNd (HE.out).c2)) ?_
  simp only [Act.put, aa, ac, ae]
  refine af rfl (al rfl (ev rfl)) ?_
  simp only [Act.put, aa, ac, ae]
  refine wpList_nil ?_
  rw [HEV.out]
  go_wp2_with fail
  go_loop [3] (fun v => ∃ i, i ≤ bs.length ∧ v = .pointer (some ⟨(E :: bs).getD i 0, 0, none⟩) ∧ Hid (∀ j, i ≤ j → j < bs.length → ((bs.map ky).getD j ky0).pin = true)) (fun v => posn (blkOf v) (E :: bs))
  case atStart => exact ⟨bs.length, Nat.le_refl _, rfl, Lib.hid fun j h1 h2 => absurd h2 (by omega)⟩
  case round =>
    obtain ⟨i, hi, rfl, hpin⟩ := hrel
    cases i with
    | zero =>
      have hlu : lu (bs.map ky) = 0 := lu_none fun j hj => hpin.out j (Nat.zero_le _) (by simpa using hj)
      have HLU := Lib.hid hlu
      clear hlu
      rw [show (E :: bs).getD 0 0 = E from rfl]
      go_upto_region 2 with fail
      refine wp_region_lit ?_
      refine af rfl (ah rfl (ev rfl)) ?_
      simp only [Act.put, aa, ac, ae]
      refine af rfl (ah rfl (ev rfl)) ?_
      simp only [Act.put, aa, ac, ae]
      refine af rfl (ao rfl (ev rfl)) ?_
      simp only [Act.put, aa, ac, ae]
      refine af rfl (ai rfl (ev rfl) faLs1) ?_
      simp only [Act.put, aa, ac, ae]
      refine af rfl (aq rfl (ev rfl) (ldNd (HL.out).c1)) ?_
      simp only [Act.put, aa, ac, ae]
      refine af (v := .bool false) rfl (exec_nePt false Try.underlying58 HJ.out HZ.out rfl (ev rfl) (ev rfl) HE.out HE.out (by simp)) ?_
      simp only [Act.put, aa, ac, ae]
      refine wpList_nil ?_
      go_wp2_with fail
      go_ret
      exact ⟨by rw [lsB_none HLU.out]; rfl, rfl⟩
    | succ i =>
      rw [show (E :: bs).getD (i + 1) 0 = bs.getD i 0 from rfl]
      obtain ⟨b, hb⟩ : ∃ b, bs.getD i 0 = b := ⟨_, rfl⟩
      have hm : b ∈ bs := by rw [← hb]; exact aK hi
      have HN := Lib.hid (HLK.out b (List.mem_cons_of_mem _ hm))
      have HNE : Hid (b ≠ E) := Lib.hid fun e => HNO.out (by rw [← e]; exact hm)
      have HPB : Hid (pv b = (E :: bs).getD i 0) := Lib.hid (by
        have := HPV.out i (by omega)
        rw [← this, ← hb]
        simp [List.getD, List.getElem?_append_left (show i < bs.length from hi)])
      have HKY : Hid ((bs.map ky).getD i ky0 = ky b) := Lib.hid (by rw [getD_map ky bs 0 ky0 hi, hb])
      have HB := Lib.hid hb
      have HM := Lib.hid hm
      clear hb hm
      rw [HB.out]
      go_upto_region 2 with fail
      refine wp_region_lit ?_
      refine af rfl (ah rfl (ev rfl)) ?_
      simp only [Act.put, aa, ac, ae]
      refine af rfl (ah rfl (ev rfl)) ?_
      simp only [Act.put, aa, ac, ae]
      refine af rfl (ao rfl (ev rfl)) ?_
      simp only [Act.put, aa, ac, ae]
      refine af rfl (ai rfl (ev rfl) faLs1) ?_
      simp only [Act.put, aa, ac, ae]
      refine af rfl (aq rfl (ev rfl) (ldNd (HL.out).c1)) ?_
      simp only [Act.put, aa, ac, ae]
      refine af (v := .bool true) rfl (exec_nePt true Try.underlying58 HJ.out HZ.out rfl (ev rfl) (ev rfl) HN.out HE.out (by have := HNE.out; simp [this])) ?_
      simp only [Act.put, aa, ac, ae]
      refine wpList_nil ?_
      cases hp : (ky b).pin
      · have HPI := Lib.hid hp
        have HC1 : Hid (w.cell? ⟨b, 1, none⟩ = some (.bool false)) := Lib.hid (by have := HN.out.c1; rwa [hp] at this)
        have hlu : lu (bs.map ky) = i + 1 := lu_of (by rw [List.length_map]; omega) (by rw [HKY.out]; exact hp) fun j h1 h2 => hpin.out j (by omega) (by simpa using h2)
        have HLU := Lib.hid hlu
        clear hlu hp
        go_upto_region 4 with fail
        refine wp_region_lit ?_
        refine af rfl (ah rfl (ev rfl)) ?_
        simp only [Act.put, aa, ac, ae]
        refine af rfl (ao rfl (ev rfl)) ?_
        simp only [Act.put, aa, ac, ae]
        refine af rfl (ai rfl (ev rfl) faNd1) ?_
        simp only [Act.put, aa, ac, ae]
        refine af (v := .bool false) rfl (aq rfl (ev rfl) (ldBoL HC1.out)) ?_
        simp only [Act.put, aa, ac, ae]
        refine af (v := .bool true) rfl (aG false rfl (ev rfl)) ?_
        simp only [Act.put, aa, ac, ae]
        refine wpList_nil ?_
        go_wp2_with fail
        go_ret
        exact ⟨by rw [lsB_some HLU.out, HB.out]; rfl, rfl⟩
      · have HPI := Lib.hid hp
        have HC1 : Hid (w.cell? ⟨b, 1, none⟩ = some (.bool true)) := Lib.hid (by have := HN.out.c1; rwa [hp] at this)
        clear hp
        go_upto_region 4 with fail
        refine wp_region_lit ?_
        refine af rfl (ah rfl (ev rfl)) ?_
        simp only [Act.put, aa, ac, ae]
        refine af rfl (ao rfl (ev rfl)) ?_
        simp only [Act.put, aa, ac, ae]
        refine af rfl (ai rfl (ev rfl) faNd1) ?_
        simp only [Act.put, aa, ac, ae]
        refine af (v := .bool true) rfl (aq rfl (ev rfl) (ldBoL HC1.out)) ?_
        simp only [Act.put, aa, ac, ae]
        refine af (v := .bool false) rfl (aG true rfl (ev rfl)) ?_
        simp only [Act.put, aa, ac, ae]
        refine wpList_nil ?_
        go_upto_region 3 with fail
        refine wp_region_lit ?_
        refine af rfl (ah rfl (ev rfl)) ?_
        simp only [Act.put, aa, ac, ae]
        refine af rfl (ao rfl (ev rfl)) ?_
        simp only [Act.put, aa, ac, ae]
        refine af rfl (ai rfl (ev rfl) faNd2) ?_
        simp only [Act.put, aa, ac, ae]
        refine af rfl (aq rfl (ev rfl) (ldNd (HN.out).c2)) ?_
        simp only [Act.put, aa, ac, ae]
        refine af rfl (al rfl (ev rfl)) ?_
        simp only [Act.put, aa, ac, ae]
        refine wpList_nil ?_
        rw [HPB.out]
        go_wp2_with fail
        go_round
        case rel =>
          refine ⟨i, by omega, rfl, Lib.hid fun j h1 h2 => ?_⟩
          by_cases e : j = i
          · subst e; rw [HKY.out]; exact HPI.out
          · exact hpin.out j (by omega) h2
        case measure =>
          show posn ((E :: bs).getD i 0) (E :: bs) < posn b (E :: bs)
          have h1 := HPS.out i (by omega)
          have h2 := HPS.out (i + 1) hi
          rw [show (E :: bs).getD (i + 1) 0 = bs.getD i 0 from rfl, HB.out] at h2
          omega
set_option maxHeartbeats 1000000 in
theorem p_removeF (w : World) (h : PLuF w B p room E bm bs ky pv nx M) {b : Nat} (hi : i < bs.length) (hb : bs.getD i 0 = b) :
    Calls Try.prog 64 #[.pointer (some ⟨p, 0, none⟩), .pointer (some ⟨b, 0, none⟩)] w fun e w' => e = .returned (.tuple #[]) ∧ (∃ pv' nx' M', PLuF w' B p room E bm (wo bs i) ky pv' nx' M') ∧ TurnPF B w w' ∧ ∃ u v, a6 w' b (ky b) u v := by
  have hbs : b ∈ bs := by rw [← hb]; exact aK hi
  have hm : b ∈ E :: bs := List.mem_cons_of_mem _ hbs
  have HL := Lib.hid h
  have HLV := Lib.hid (p_leaveF (B := B) w h.lnk hm (h.pvm hm) (h.nxm hm) h.low.2.2)
  have HSG := Lib.hid (seg_wo h.seg h.one hi)
  have HI := Lib.hid hi
  have HB := Lib.hid hb
  have HBS := Lib.hid hbs
  clear h hi hb hm hbs
  go_enter Try.func64, Try.ntmps64
  go_upto_region 0 with fail
  refine wp_region_lit ?_
  refine af rfl (ah rfl (ev rfl)) ?_
  simp only [Act.put, aa, ac, ae]
  refine aj rfl (ar Try.call61 rfl (evc (ev rfl) evn)) ?_
  refine HLV.out.mono ?_
  rintro e w1 ⟨rfl, hl1, ht1⟩
  refine ⟨_, rfl, ?_⟩
  simp only [Act.put, aa, ac, ae]
  refine wpList_nil ?_
  have hat : w1.heap[p]? = some (.cells #[.int .i64 (room : Int), ptB E, .map (some bm)] 63 (0, 0)) := ht1.keep HL.out.at_ (by show ¬ (63 = 60); decide)
  have hmp : a8 w1 bm bs.length M := HL.out.map.kept fun es c hb => ht1.keep hb fun e => e
  have hlen : bs.length = (wo bs i).length + 1 := (wo_len HI.out).symm
  rw [hlen] at hmp
  have HC2 := Lib.hid (cells3 hat).2.2
  have HAT := Lib.hid hat
  have HMP := Lib.hid hmp
  have HN := Lib.hid (hl1 b (List.mem_cons_of_mem _ HBS.out))
  have HLK := Lib.hid hl1
  have HT := Lib.hid (ht1.widen nd_pl)
  have HWF := Lib.hid (HL.out.kwf HBS.out)
  have HSM : Hid ((M (ky b).n).isSome = true) := Lib.hid (by rw [HL.out.hit b HBS.out]; rfl)
  clear hat hmp hlen hl1 ht1
  go_upto_region 1 with fail
  refine wp_region_still_tail 8 (by kernel_rfl) (by kernel_rfl) ?_
  simp only [List.take_succ_cons, List.take_zero, List.drop_succ_cons, List.drop_zero]
  refine aF rfl (ah rfl (ev rfl)) ?_
  simp only [Act.put, aa, ac, ae]
  refine aF rfl (ao rfl (ev rfl)) ?_
  simp only [Act.put, aa, ac, ae]
  refine aF rfl (ai rfl (ev rfl) faLs2) ?_
  simp only [Act.put, aa, ac, ae]
  refine aF rfl (aq rfl (ev rfl) (ldMp HC2.out)) ?_
  simp only [Act.put, aa, ac, ae]
  refine aF rfl (ah rfl (ev rfl)) ?_
  simp only [Act.put, aa, ac, ae]
  refine aF rfl (ao rfl (ev rfl)) ?_
  simp only [Act.put, aa, ac, ae]
  refine aF rfl (ai rfl (ev rfl) faNd0) ?_
  simp only [Act.put, aa, ac, ae]
  refine aF rfl (aq rfl (ev rfl) (bn (HN.out).c0)) ?_
  simp only [Act.put, aa, ac, ae]
  refine wpStill_nil ?_
  change wpList _ _ _ _ _ (World.drew _)
  refine wpList_delP (w := w1.drew) rfl rfl (ev rfl) (ev rfl) (N := (wo bs i).length) HMP.out HWF.out HSM.out ?_
  intro w2 hm2 ht2
  simp only [Act.put]
  refine wpList_nil ?_
  go_end0
  refine ⟨rfl, ⟨aR pv (nx b) (pv b), aR nx (pv b) (nx b), fun j => if j = (ky b).n then none else M j, ?_⟩, turnP_mapF HT.out.drew HL.out.low.2.1 ht2, ⟨_, _, bZ ht2 HN.out fun _ _ e => by cases e⟩⟩
  have hsub := wo_sub bs i
  have hlk : Lnk w2 ky (aR pv (nx b) (pv b)) (aR nx (pv b) (nx b)) (E :: bs) := Lnk.turned (w := w1.drew) HLK.out ht2
  refine ⟨bZ ht2 HAT.out (fun _ _ e => by cases e), hlk.sub fun x hx => ?_, by have := HSG.out; rwa [HB.out] at this, HL.out.one.sublist (hsub.cons_cons _), hm2, fun x hx => ?_, fun j x hj hx => ?_, ⟨HL.out.low.1, HL.out.low.2.1, fun x hx => HL.out.low.2.2 x ?_⟩, by rw [wo_map]; exact HL.out.ok.wo i, HL.out.rm⟩
  · rcases List.mem_cons.1 hx with rfl | hx
    · simp
    · exact List.mem_cons_of_mem _ (hsub.subset hx)
  · try dsimp only
    rw [if_neg, HL.out.hit x (hsub.subset hx)]
    intro e
    have := HL.out.inj (hsub.subset hx) HBS.out e
    have hn := not_wo (List.nodup_cons.1 HL.out.one).2 HI.out
    rw [HB.out, ← this] at hn
    exact hn hx
  · try dsimp only at hx
    split at hx
    · cases hx
    · rename_i hne
      obtain ⟨h1, h2⟩ := HL.out.who j x hj hx
      exact ⟨mem_wo HI.out h1 (fun e => hne (by rw [← h2, e, HB.out])), h2⟩
  · rcases List.mem_cons.1 hx with rfl | hx
    · simp
    · exact List.mem_cons_of_mem _ (hsub.subset hx)
set_option maxHeartbeats 1000000 in
theorem p_addF (w : World) (hsz : B w.heap.size) (h : PLuF w B p room E bm bs ky pv nx M) (hk : ¬ plc k (bs.map ky) < bs.length) (hl : bs.length < room) (hw : (Lit.int .i64 k).wf = true) :
    Calls Try.prog 65 #[.pointer (some ⟨p, 0, none⟩), .int .i64 k] w fun e w' => e = .returned (.tuple #[]) ∧ (∃ n ky' pv' nx' M', PLuF w' B p room E bm (n :: bs) ky' pv' nx' M' ∧ (n :: bs).map ky' = ⟨k, false⟩ :: bs.map ky) ∧ TurnPF B w w' := by
  have hn0 := h.no_key hw hk
  have hnS : w.heap.size ∉ E :: bs := fun e => by have := bN (h.lnk _ e); omega
  obtain ⟨w1, hw1⟩ : ∃ w1, w.alloc (.cells (nodC ⟨k, false⟩ (.pointer none) (.pointer none)).toArray 60) = w1 := ⟨_, rfl⟩
  have hn1 : a6 w1 w.heap.size ⟨k, false⟩ (.pointer none) (.pointer none) := by rw [← hw1]; exact heap_alloc_new w _
  have hb1 : Below w.heap.size w w1 := by rw [← hw1]; exact (Below.refl _ _).alloc (Nat.le_refl _) _
  have h1 := h.keep fun b o ho _ => aw ho hb1
  have HF := Lib.hid (p_followF (B := B) (E := E) w1 ⟨k, false⟩ _ _ h1.lnk hn1 hnS (by simp) (h.nxm (by simp)) h.low.2.2 hsz)
  have HSG := Lib.hid (seg_follow h.seg h.one hnS)
  have HW1 := Lib.hid hw1
  have HL := Lib.hid h1
  have HT1 := Lib.hid (aB.of_below (I := isPl) (F := B) hb1)
  have HN0 := Lib.hid hn0
  have HK := Lib.hid hk
  have HLT := Lib.hid hl
  have HWF := Lib.hid hw
  have HNS := Lib.hid hnS
  have HSZ := Lib.hid hsz
  clear h h1 hk hl hw hn0 hsz hnS hw1 hn1 hb1
  go_enter Try.func65, Try.ntmps65
  go_upto_region 1 with fail
  have hw1 := HW1.out
  unfold nodC at hw1
  rw [hw1]
  clear hw1
  refine wp_region_lit ?_
  refine af rfl (ah rfl (ev rfl)) ?_
  simp only [Act.put, aa, ac, ae]
  refine af rfl (ah rfl (ev rfl)) ?_
  simp only [Act.put, aa, ac, ae]
  refine af rfl (ao rfl (ev rfl)) ?_
  simp only [Act.put, aa, ac, ae]
  refine af rfl (ai rfl (ev rfl) faLs1) ?_
  simp only [Act.put, aa, ac, ae]
  refine af rfl (aq rfl (ev rfl) (ldNd (HL.out).c1)) ?_
  simp only [Act.put, aa, ac, ae]
  refine aj rfl (ar Try.call62 rfl (evc (ev rfl) (evc (ev rfl) evn))) ?_
  refine HF.out.mono ?_
  rintro e w2 ⟨rfl, hl2, ht2⟩
  refine ⟨_, rfl, ?_⟩
  simp only [Act.put, aa, ac, ae]
  refine wpList_nil ?_
  have hat : w2.heap[p]? = some (.cells #[.int .i64 (room : Int), ptB E, .map (some bm)] 63 (0, 0)) := ht2.keep HL.out.at_ (by show ¬ (63 = 60); decide)
  have hmp : a8 w2 bm bs.length M := HL.out.map.kept fun es c hb => ht2.keep hb fun e => e
  have HC2 := Lib.hid (cells3 hat).2.2
  have HAT := Lib.hid hat
  obtain ⟨w3, hr3, hm3, ht3⟩ := hmp.store HWF.out HN0.out (by unfold maxLen; have := HLT.out; have := HL.out.rm; omega) w.heap.size
  have HR3 := Lib.hid hr3
  have HM3 := Lib.hid hm3
  have HT3 := Lib.hid ht3
  have HLK := Lib.hid hl2
  have HT := Lib.hid (HT1.out.trans (ht2.widen nd_pl))
  clear hat hmp hr3 hm3 ht3 hl2 ht2
  go_upto_region 2 with fail
  refine wp_region_lit ?_
  refine af rfl (ah rfl (ev rfl)) ?_
  simp only [Act.put, aa, ac, ae]
  refine af rfl (ao rfl (ev rfl)) ?_
  simp only [Act.put, aa, ac, ae]
  refine af rfl (ai rfl (ev rfl) faLs2) ?_
  simp only [Act.put, aa, ac, ae]
  refine af rfl (aq rfl (ev rfl) (ldMp HC2.out)) ?_
  simp only [Act.put, aa, ac, ae]
  refine af rfl (ah rfl (ev rfl)) ?_
  simp only [Act.put, aa, ac, ae]
  refine af rfl (ah rfl (ev rfl)) ?_
  simp only [Act.put, aa, ac, ae]
  refine aA rfl (exec_mupd rfl (ev rfl) (ev rfl) (ev rfl) HR3.out) ?_
  simp only [Act.put]
  refine wpList_nil ?_
  go_end0
  have hne : ∀ b ∈ bs, b ≠ w.heap.size := fun b hb e => HNS.out (by rw [← e]; exact List.mem_cons_of_mem _ hb)
  have hmap : (w.heap.size :: bs).map (aR ky w.heap.size ⟨k, false⟩) = ⟨k, false⟩ :: bs.map ky := by
    rw [List.map_cons, aQ]
    congr 1
    exact List.map_congr_left fun b hb => aD _ _ (hne b hb)
  have hkn : k ∉ keyL (bs.map ky) := fun e => HK.out (by have := plc_mem.2 e; simpa using this)
  refine ⟨rfl, ⟨w.heap.size, aR ky w.heap.size ⟨k, false⟩, aR (aR pv w.heap.size E) (nx E) w.heap.size, aR (aR nx w.heap.size (nx E)) E w.heap.size, fun j => if j = k then some w.heap.size else M j, ?_, hmap⟩, turnP_mapF HT.out HL.out.low.2.1 HT3.out⟩
  have hlk := Lnk.turned HLK.out HT3.out
  refine ⟨bZ HT3.out HAT.out (fun _ _ e => by cases e), hlk.sub fun x hx => ?_, HSG.out, ?_, HM3.out, fun x hx => ?_, fun j x hj hx => ?_, ⟨HL.out.low.1, HL.out.low.2.1, fun x hx => ?_⟩, by rw [hmap]; exact HL.out.ok.cons hkn (by rw [List.length_map]; exact HLT.out) HWF.out, HL.out.rm⟩
  · rcases List.mem_cons.1 hx with rfl | hx
    · simp
    · rcases List.mem_cons.1 hx with rfl | hx
      · simp
      · simp [hx]
  · have hd := List.nodup_cons.1 HL.out.one
    refine List.nodup_cons.2 ⟨fun e => ?_, List.nodup_cons.2 ⟨fun e => HNS.out (List.mem_cons_of_mem _ e), hd.2⟩⟩
    rcases List.mem_cons.1 e with e | e
    · exact HNS.out (by rw [← e]; simp)
    · exact hd.1 e
  · try dsimp only
    rcases List.mem_cons.1 hx with rfl | hx
    · rw [aQ, if_pos rfl]
    · rw [aD _ _ (hne x hx), if_neg (fun e => hkn (by rw [← e]; exact List.mem_map.2 ⟨ky x, List.mem_map.2 ⟨x, hx, rfl⟩, rfl⟩)), HL.out.hit x hx]
  · try dsimp only at hx
    split at hx
    · rename_i e
      injection hx with hx
      subst hx e
      exact ⟨by simp, by rw [aQ]⟩
    · obtain ⟨h1, h2⟩ := HL.out.who j x hj hx
      exact ⟨List.mem_cons_of_mem _ h1, by rw [aD _ _ (hne x h1)]; exact h2⟩
  · rcases List.mem_cons.1 hx with rfl | hx
    · exact HL.out.low.2.2 _ (by simp)
    · rcases List.mem_cons.1 hx with rfl | hx
      · exact HSZ.out
      · exact HL.out.low.2.2 _ (List.mem_cons_of_mem _ hx)
end
section
variable {w w' : World} {B p room E bm i : Nat} {bs : List Nat} {ky : Nat → Ky} {pv nx : Nat → Nat} {M : Int → Option Nat} {L : List Ky} {k : Int}
theorem bX {x : Nat} (hi : i < bs.length) : x ∈ bs.getD i 0 :: wo bs i ↔ x ∈ bs := by
  constructor
  · intro h
    rcases List.mem_cons.1 h with rfl | h
    · exact aK hi
    · exact (wo_sub bs i).subset h
  · intro h
    by_cases e : x = bs.getD i 0
    · rw [e]; simp
    · exact List.mem_cons_of_mem _ (mem_wo hi h e)
theorem fndE_hit {i : Nat} (hp : plc k L = i) (hi : i < L.length) : fndE k L = 0 := by unfold fndE; rw [hp, if_pos hi]
theorem fndE_no (hi : ¬ plc k L < L.length) : fndE k L = 7 := if_neg hi
theorem map_put1 {x : Ky} (hd : bs.Nodup) (hi : i < bs.length) : bs.map (aR ky (bs.getD i 0) x) = (bs.map ky).set i x := by
  apply List.ext_getElem (by simp)
  intro j h1 h2
  have hj : j < bs.length := by simpa using h1
  rw [List.getElem_map, List.getElem_set]
  by_cases e : i = j
  · subst e
    have e0 : bs.getD i 0 = bs[i] := by simp [List.getD, hi]
    rw [if_pos rfl]
    exact (congrArg (aR ky (bs.getD i 0) x) e0.symm).trans (aQ _ _ _)
  · rw [if_neg e, List.getElem_map, aD]
    intro e2
    have e3 : posn (bs.getD j 0) bs = j := posn_at hd hj
    rw [show bs.getD j 0 = bs[j] from by simp [List.getD, hj], e2, posn_at hd hi] at e3
    exact e e3
end
theorem pl_new_no (n : Int) (w : World) (h : ¬ (1 ≤ n ∧ n ≤ 64)) : Calls Try.prog 8 #[.int .i64 n] w fun e w' => e = .returned (.tuple #[.pointer none, .int .i64 2]) ∧ w = w' := by
  by_cases h1 : n < 1
  · have hd : decide (n < 1) = true := decide_eq_true h1
    go_enter Try.func8, Try.ntmps8
    go_wp2_with fail
    go_ret2
    exact ⟨rfl, rfl⟩
  · have hd : decide (n < 1) = false := decide_eq_false h1
    have hd2 : decide (64 < n) = true := decide_eq_true (by omega)
    go_enter Try.func8, Try.ntmps8
    go_wp2_with fail
    go_ret2
    exact ⟨rfl, rfl⟩
end Go.Proofs.Ytdmhelalbemlcaa
