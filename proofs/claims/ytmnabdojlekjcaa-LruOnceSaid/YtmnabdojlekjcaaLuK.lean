/-
  LruOnce: no key is there twice; what went is there no more.
-/
import Derived.Test.YtmnabdojlekjcaaLuJ
import Derived.Test.YtmnabdojlekjcaaLuO
namespace Go.Proofs.Ytmnabdojlekjcaa
open Go.RowKit
set_option linter.unusedVariables false
set_option linter.unusedSimpArgs false
set_option maxRecDepth 100000

theorem rng2 {w wr w' : World} {B b o : Nat} {cs : List Value} (h : wr.rangeAt b o cs) (hb : b < B) (h1 : Below B w wr) (h2 : Below B w w') : w'.rangeAt b o cs := fun j v hj => by
  rw [h2.cell (p := ⟨b, o + j, none⟩) hb, ← h1.cell (p := ⟨b, o + j, none⟩) hb]
  exact h j v hj
section
variable {b off : Nat} {w : World}
theorem faAo0 : (Instr.fieldAt 33 (.pointer (some ⟨b, off, none⟩)) 0).run Try.prog w = .ok (.pointer (some ⟨b, off, none⟩)) w := by kernel_rfl
theorem faAo1 : (Instr.fieldAt 33 (.pointer (some ⟨b, off, none⟩)) 1).run Try.prog w = .ok (.pointer (some ⟨b, off + 1, none⟩)) w := by kernel_rfl
theorem faAo3 : (Instr.fieldAt 33 (.pointer (some ⟨b, off, none⟩)) 3).run Try.prog w = .ok (.pointer (some ⟨b, off + 3, none⟩)) w := by kernel_rfl
theorem exec_neBo {ρ : Operand → Value} {o : Oper} {x y : Operand} {r : TypeId} {a b : Bool} (c : Bool) (ho : o.op = .binOp .neq 4 x y r) (hx : ρ x = .bool a) (hy : ρ y = .bool b) (h : (a != b) = c) : (execOp ρ o).run Try.prog w = .ok (.value (.bool c)) w := by
  have he := run_equalIn_bool' (P := Try.prog) w 9999 4 a b Try.underlying4
  unfold execOp
  simp only [ho, hx, hy, eqGuard, binOp]
  simp [Op.equal, Op.maxDepth, he]
  cases a <;> cases b <;> simp_all
end
theorem tmod20 (z : Int) : (Lit.int .i64 (z.tmod 20)).wf = true := by
  have h1 := Int.tmod_lt_of_pos z (b := 20) (by omega)
  have h2 := Int.lt_tmod_of_pos z (b := 20) (by omega)
  exact wf_i (by omega)
/-- Behind a touch that was OK: the first, as many as said, none twice. -/
theorem tch_first {room : Nat} {k : Int} {L : List Ky} (he : tchE room k L = 0) : ∃ x L', tchS room k L = x :: L' ∧ x.n = k := by
  unfold tchE at he
  unfold tchS
  split
  · rename_i hp
    exact ⟨_, _, rfl, plc_at hp⟩
  · rename_i hp
    rw [if_neg hp] at he
    split
    · exact ⟨_, _, rfl, rfl⟩
    · rename_i hl
      rw [if_neg hl] at he
      split
      · rename_i hu; rw [if_pos hu] at he; cases he
      · exact ⟨_, _, rfl, rfl⟩
theorem nodup_getD {K : List Int} (hd : K.Nodup) {i j : Nat} (hi : i < K.length) (hj : j < K.length) (h : K.getD i 0 = K.getD j 0) : i = j := by
  rw [List.getD, List.getD, List.getElem?_eq_getElem hi, List.getElem?_eq_getElem hj] at h
  exact (List.getElem_inj hd).1 (by simpa using h)
structure OnceT (room : Nat) (k : Int) (L : List Ky) : Prop where
  len : (keyL (tchS room k L)).length = if (hasK k L || tchW room k L) = true then (keyL L).length else (keyL L).length + 1
  fst : (keyL (tchS room k L)).getD 0 0 = k
  pos : 0 < (keyL (tchS room k L)).length
  not2 : (hasK k L && tchW room k L) = false
  gone : tchW room k L = true → hasK (tchG room k L) (tchS room k L) = false ∧ tchG room k L ≠ k
theorem hasK_mem {k : Int} {L : List Ky} : hasK k L = false ↔ k ∉ keyL L := by
  unfold hasK
  rw [decide_eq_false_iff_not, plc_mem]
theorem onceT {room : Nat} {k : Int} {L : List Ky} (hok : LOk room L) (he : tchE room k L = 0) : OnceT room k L := by
  have hlen : ∀ M : List Ky, (keyL M).length = M.length := fun M => by unfold keyL; rw [List.length_map]
  obtain ⟨x, L', hL', hx⟩ := tch_first he
  have h1 : (keyL (tchS room k L)).getD 0 0 = k := by rw [hL']; exact hx
  have h2 : 0 < (keyL (tchS room k L)).length := by rw [hL']; simp [keyL]
  by_cases hp : plc k L < L.length
  · have hs : tchS room k L = L.getD (plc k L) ky0 :: wo L (plc k L) := if_pos hp
    have hW : tchW room k L = false := if_pos hp
    have hh : hasK k L = true := decide_eq_true hp
    refine ⟨?_, h1, h2, by rw [hW]; simp, fun e => by rw [hW] at e; cases e⟩
    rw [hh, hlen, hlen, hs, List.length_cons, wo_len hp]
    rfl
  · have hh : hasK k L = false := decide_eq_false hp
    by_cases hl : L.length < room
    · have hs : tchS room k L = ⟨k, false⟩ :: L := by unfold tchS; rw [if_neg hp, if_pos hl]
      have hW : tchW room k L = false := by unfold tchW; rw [if_neg hp, if_pos hl]
      refine ⟨?_, h1, h2, by rw [hW]; simp, fun e => by rw [hW] at e; cases e⟩
      rw [hh, hW, hlen, hlen, hs]
      rfl
    · by_cases hu : lu L = 0
      · unfold tchE at he
        rw [if_neg hp, if_neg hl, if_pos hu] at he
        cases he
      · have hi : lu L - 1 < L.length := by have := lu_le L; omega
        have hs : tchS room k L = ⟨k, false⟩ :: wo L (lu L - 1) := by unfold tchS; rw [if_neg hp, if_neg hl, if_neg hu]
        have hW : tchW room k L = true := by unfold tchW; rw [if_neg hp, if_neg hl, if_neg hu]
        have hG : tchG room k L = (L.getD (lu L - 1) ky0).n := by unfold tchG; rw [if_neg hp, if_neg hl, if_neg hu]
        have hne : tchG room k L ≠ k := fun e => hp (plc_mem.2 (by rw [← e, hG]; exact List.mem_map.2 ⟨_, getD_mem hi, rfl⟩))
        refine ⟨?_, h1, h2, by rw [hh]; rfl, fun _ => ⟨?_, hne⟩⟩
        · rw [hh, hW, hlen, hlen, hs, List.length_cons, wo_len hi]
          rfl
        · rw [hasK_mem, hs]
          intro e
          rcases List.mem_cons.1 e with e | e
          · exact hne e
          · rw [hG] at e
            exact wo_not hok.one hi e
theorem tchE_cases {room : Nat} {k : Int} {L : List Ky} (he : ¬ tchE room k L = 0) : tchE room k L = 10 ∧ hasK k L = false ∧ tchS room k L = L := by
  unfold tchE at he ⊢
  unfold hasK tchS
  by_cases hp : plc k L < L.length
  · rw [if_pos hp] at he; exact absurd rfl he
  · rw [if_neg hp] at he ⊢
    by_cases hl : L.length < room
    · rw [if_pos hl] at he; exact absurd rfl he
    · rw [if_neg hl] at he ⊢
      by_cases hu : lu L = 0
      · rw [if_pos hu, if_neg hp, if_neg hl, if_pos hu, decide_eq_false hp]; exact ⟨rfl, rfl, rfl⟩
      · rw [if_neg hu] at he; exact absurd rfl he
theorem fnd_has {k : Int} {L : List Ky} : (fndE k L == 0) = hasK k L := by
  unfold fndE hasK
  by_cases hp : plc k L < L.length
  · rw [if_pos hp, decide_eq_true hp]; rfl
  · rw [if_neg hp, decide_eq_false hp]; rfl
theorem drp_has {k : Int} {L : List Ky} (hd : (keyL L).Nodup) : hasK k (drpS k L) = false := by
  rw [hasK_mem]
  unfold drpS
  by_cases hp : plc k L < L.length
  · rw [if_pos hp]
    have := wo_not hd hp
    rwa [plc_at hp] at this
  · rw [if_neg hp]
    exact fun e => hp (plc_mem.2 e)
set_option maxHeartbeats 4000000 in
theorem wlruOnce (r : Nat) (hr256 : r < 256) (A : Option Addr) (n c : Nat) (l : List Act15) (w : World) (hr : RdE Act15E w w.heap.size A n l) (hn : n ≤ maxLen) :
    Calls Try.prog 6 #[.int .u8 (r : Int), .slice A n c] w fun e w' => e = .returned (.bool true) ∧ Below w.heap.size w w' := by
  unfold maxLen at hn
  obtain ⟨r8, hr8⟩ : ∃ r8, r % 8 = r8 := ⟨_, rfl⟩
  obtain ⟨room, hroom⟩ : ∃ room, 1 + r8 = room := ⟨_, rfl⟩
  have HRD : Hid (∀ w', Below w.heap.size w w' → RdE Act15E w' w.heap.size A n l) := Lib.hid fun w' hb => hr.below hb
  have HNM := Lib.hid hn
  have HRO : Hid (1 ≤ room ∧ room ≤ 64) := Lib.hid (by omega)
  have HCV : Hid (IntKind.i64.wrap (r : Int) = (r : Int)) := Lib.hid (IntWalk.i64_in _ ⟨by omega, by omega⟩)
  have HTM : Hid ((r : Int).tmod 8 = (r8 : Int)) := Lib.hid (by rw [← hr8]; rfl)
  have HAD : Hid (IntKind.i64.wrap (1 + (r8 : Int)) = (room : Int)) := Lib.hid (by rw [IntWalk.i64_in _ ⟨by omega, by omega⟩]; omega)
  clear hr hn hroom hr256 hr8
  go_enter Try.func6, Try.ntmps6
  go_upto_region 1 with fail
  refine wp_region_lit ?_
  refine wpList_valn rfl (exec_mv rfl (ev rfl)) ?_
  simp only [Act.put, List.setIfInBounds_toArray, List.set_cons_succ, List.set_cons_zero]
  refine wpList_valn rfl (exec_cv8 rfl (ev rfl) HCV.out) ?_
  simp only [Act.put, List.setIfInBounds_toArray, List.set_cons_succ, List.set_cons_zero]
  refine wpList_valn rfl (exec_remT rfl (ev rfl) evk (by decide) HTM.out) ?_
  simp only [Act.put, List.setIfInBounds_toArray, List.set_cons_succ, List.set_cons_zero]
  refine wpList_valn rfl (exec_add rfl evk (ev rfl) HAD.out) ?_
  simp only [Act.put, List.setIfInBounds_toArray, List.set_cons_succ, List.set_cons_zero]
  refine wpList_call rfl (exec_cl Try.call8 rfl (evc (ev rfl) evn)) ?_
  refine (pl_new room w HRO.out.1 HRO.out.2).mono ?_
  rintro e w1 ⟨p, rfl, hp1, hb1⟩
  have HP1 := Lib.hid hp1
  have HB1 := Lib.hid hb1
  clear hp1 hb1
  refine ⟨_, rfl, ?_⟩
  simp only [Act.put, List.setIfInBounds_toArray, List.set_cons_succ, List.set_cons_zero]
  refine wpList_valn rfl (exec_mv rfl (ev rfl)) ?_
  simp only [Act.put, List.setIfInBounds_toArray, List.set_cons_succ, List.set_cons_zero]
  refine wpList_valn rfl (exec_ext rfl (ev rfl) rfl) ?_
  simp only [Act.put, List.setIfInBounds_toArray, List.set_cons_succ, List.set_cons_zero]
  refine wpList_valn rfl (exec_ext rfl (ev rfl) rfl) ?_
  simp only [Act.put, List.setIfInBounds_toArray, List.set_cons_succ, List.set_cons_zero]
  refine wpList_valn rfl (exec_as rfl (ev rfl)) ?_
  simp only [Act.put, List.setIfInBounds_toArray, List.set_cons_succ, List.set_cons_zero]
  refine wpList_valn rfl (exec_as rfl (ev rfl)) ?_
  simp only [Act.put, List.setIfInBounds_toArray, List.set_cons_succ, List.set_cons_zero]
  refine wpList_nil ?_
  go_wp2_with fail
  go_loopw [7] (fun i wr => ∃ (j : Nat) (L : List Ky), j ≤ n ∧ i = .int .i64 j ∧ PL wr w.heap.size p room L ∧ Below w.heap.size w wr) (fun i _ => n - (intOf i).toNat)
  case atStart => exact ⟨0, [], Nat.zero_le _, rfl, HP1.out, HB1.out⟩
  case round =>
    obtain ⟨j, L, hj, rfl, hP, hbl⟩ := hrel
    have HP := Lib.hid hP
    have HB := Lib.hid hbl
    clear hP hbl HP1 HB1
    by_cases hlt : j < n ∧ j < 150
    · obtain ⟨hlt, h150⟩ := hlt
      have HL1 : Hid (decide ((j : Int) < (n : Int)) = true) := Lib.hid (decide_eq_true (by omega))
      have HL2 : Hid (decide ((j : Int) < (150 : Int)) = true) := Lib.hid (decide_eq_true (by omega))
      obtain ⟨b, off, hA, hbN, hc⟩ := (HRD.out wr HB.out).2 j hlt
      obtain ⟨a, ha⟩ : ∃ a, l.getD j Act15.zero = a := ⟨_, rfl⟩
      rw [show l.getD j Act15E.d = a from ha] at hc
      have HC : Hid (∀ w', Below w.heap.size w w' → w'.rangeAt b (off + j * Act15E.n) a.C) := Lib.hid fun w' hb => rng2 hc hbN HB.out hb
      have HA := Lib.hid hA
      have HJ := Lib.hid hlt
      obtain ⟨k, hk⟩ : ∃ k, a.Key.tmod 20 = k := ⟨_, rfl⟩
      have HK := Lib.hid hk
      have HWK : Hid ((Lit.int .i64 k).wf = true) := Lib.hid (by rw [← hk]; exact tmod20 _)
      have HLK : Hid ((keyL L).length ≤ 64) := Lib.hid (by have := HP.out.ok.len; have := HP.out.rm.2; unfold keyL; rw [List.length_map]; omega)
      clear hA hbN hc ha hlt h150 hk
      go_upto_region 5 with fail
      refine wp_region_lit ?_
      refine wpList_valn rfl (exec_mv rfl (ev rfl)) ?_
      simp only [Act.put, List.setIfInBounds_toArray, List.set_cons_succ, List.set_cons_zero]
      refine wpList_valn rfl (exec_mv rfl (ev rfl)) ?_
      simp only [Act.put, List.setIfInBounds_toArray, List.set_cons_succ, List.set_cons_zero]
      refine wpList_valn rfl (exec_lenE Act15E rfl (ev rfl)) ?_
      simp only [Act.put, List.setIfInBounds_toArray, List.set_cons_succ, List.set_cons_zero]
      refine wpList_valn (v := .bool true) rfl (exec_lss true rfl (ev rfl) (ev rfl) HL1.out) ?_
      simp only [Act.put, List.setIfInBounds_toArray, List.set_cons_succ, List.set_cons_zero]
      refine wpList_valn (v := .bool true) rfl (exec_mv rfl (ev rfl)) ?_
      simp only [Act.put, List.setIfInBounds_toArray, List.set_cons_succ, List.set_cons_zero]
      refine wpList_val (wanted_of rfl rfl rfl rfl) (exec_mv rfl (ev rfl)) ?_
      simp only [Act.put, List.setIfInBounds_toArray, List.set_cons_succ, List.set_cons_zero]
      refine wpList_val (v := .bool true) (wanted_of rfl rfl rfl rfl) (exec_lss true rfl (ev rfl) evk HL2.out) ?_
      simp only [Act.put, List.setIfInBounds_toArray, List.set_cons_succ, List.set_cons_zero]
      refine wpList_valn (v := .bool true) rfl (exec_pt rfl (ev rfl) (ev rfl)) ?_
      simp only [Act.put, List.setIfInBounds_toArray, List.set_cons_succ, List.set_cons_zero]
      refine wpList_nil ?_
      go_upto_region 7 with fail
      refine wp_region_lit ?_
      refine wpList_valn rfl (exec_mv rfl (ev rfl)) ?_
      simp only [Act.put, List.setIfInBounds_toArray, List.set_cons_succ, List.set_cons_zero]
      refine wpList_call rfl (exec_cl Try.call13 rfl (evc (ev rfl) evn)) ?_
      refine (pl_keys wr HP.out).mono ?_
      rintro e w2 ⟨v2, rfl, hm2, hb2⟩
      obtain ⟨A2, c2, hv2, hc21, hc22⟩ := hm2.form
      subst hv2
      have HM2 := Lib.hid (hm2.base HB.out.size)
      have HP2 := Lib.hid (HP.out.below hb2)
      have HB2 := Lib.hid (HB.out.trans (hb2.mono HB.out.size))
      clear hm2 hb2 hc21 hc22
      refine ⟨_, rfl, ?_⟩
      simp only [Act.put, List.setIfInBounds_toArray, List.set_cons_succ, List.set_cons_zero]
      refine wpList_valn rfl (exec_as rfl (ev rfl)) ?_
      simp only [Act.put, List.setIfInBounds_toArray, List.set_cons_succ, List.set_cons_zero]
      refine wpList_nil ?_
      go_upto_region 8 with fail
      refine wp_region_lit ?_
      refine wpList_valn rfl (exec_mv rfl (ev rfl)) ?_
      simp only [Act.put, List.setIfInBounds_toArray, List.set_cons_succ, List.set_cons_zero]
      refine wpList_valn rfl (exec_mv rfl (ev rfl)) ?_
      simp only [Act.put, List.setIfInBounds_toArray, List.set_cons_succ, List.set_cons_zero]
      refine wpList_valn rfl (exec_indexE (E := Act15E) (b := b) (off := off) (j := j) rfl ((ev rfl).trans (by rw [HA.out])) (ev rfl) HJ.out) ?_
      simp only [Act.put, List.setIfInBounds_toArray, List.set_cons_succ, List.set_cons_zero]
      refine wpList_valn rfl (exec_faddr rfl (ev rfl) faAo1) ?_
      simp only [Act.put, List.setIfInBounds_toArray, List.set_cons_succ, List.set_cons_zero]
      refine wpList_valn rfl (exec_ld rfl (ev rfl) (ldInt (HC.out w2 HB2.out 1 _ rfl))) ?_
      simp only [Act.put, List.setIfInBounds_toArray, List.set_cons_succ, List.set_cons_zero]
      refine wpList_valn rfl (exec_remT rfl (ev rfl) evk (by decide) HK.out) ?_
      simp only [Act.put, List.setIfInBounds_toArray, List.set_cons_succ, List.set_cons_zero]
      refine wpList_valn rfl (exec_as rfl (ev rfl)) ?_
      simp only [Act.put, List.setIfInBounds_toArray, List.set_cons_succ, List.set_cons_zero]
      refine wpList_nil ?_
      cases hd1 : (a.Do == 1)
      · have HD1 := Lib.hid hd1
        clear hd1
        go_upto_region 9 with fail
        refine wp_region_lit ?_
        refine wpList_valn rfl (exec_mv rfl (ev rfl)) ?_
        simp only [Act.put, List.setIfInBounds_toArray, List.set_cons_succ, List.set_cons_zero]
        refine wpList_valn rfl (exec_mv rfl (ev rfl)) ?_
        simp only [Act.put, List.setIfInBounds_toArray, List.set_cons_succ, List.set_cons_zero]
        refine wpList_valn rfl (exec_indexE (E := Act15E) (b := b) (off := off) (j := j) rfl ((ev rfl).trans (by rw [HA.out])) (ev rfl) HJ.out) ?_
        simp only [Act.put, List.setIfInBounds_toArray, List.set_cons_succ, List.set_cons_zero]
        refine wpList_valn rfl (exec_faddr rfl (ev rfl) faAo0) ?_
        simp only [Act.put, List.setIfInBounds_toArray, List.set_cons_succ, List.set_cons_zero]
        refine wpList_valn rfl (exec_ld rfl (ev rfl) (ldInt (HC.out w2 HB2.out 0 _ rfl))) ?_
        simp only [Act.put, List.setIfInBounds_toArray, List.set_cons_succ, List.set_cons_zero]
        refine wpList_valn (v := .bool false) rfl (exec_eqInt false rfl (ev rfl) evk HD1.out) ?_
        simp only [Act.put, List.setIfInBounds_toArray, List.set_cons_succ, List.set_cons_zero]
        refine wpList_nil ?_
        cases hd2 : (a.Do == 2)
        · have HD2 := Lib.hid hd2
          clear hd2
          go_upto_region 11 with fail
          refine wp_region_lit ?_
          refine wpList_valn rfl (exec_mv rfl (ev rfl)) ?_
          simp only [Act.put, List.setIfInBounds_toArray, List.set_cons_succ, List.set_cons_zero]
          refine wpList_valn rfl (exec_mv rfl (ev rfl)) ?_
          simp only [Act.put, List.setIfInBounds_toArray, List.set_cons_succ, List.set_cons_zero]
          refine wpList_valn rfl (exec_indexE (E := Act15E) (b := b) (off := off) (j := j) rfl ((ev rfl).trans (by rw [HA.out])) (ev rfl) HJ.out) ?_
          simp only [Act.put, List.setIfInBounds_toArray, List.set_cons_succ, List.set_cons_zero]
          refine wpList_valn rfl (exec_faddr rfl (ev rfl) faAo0) ?_
          simp only [Act.put, List.setIfInBounds_toArray, List.set_cons_succ, List.set_cons_zero]
          refine wpList_valn rfl (exec_ld rfl (ev rfl) (ldInt (HC.out w2 HB2.out 0 _ rfl))) ?_
          simp only [Act.put, List.setIfInBounds_toArray, List.set_cons_succ, List.set_cons_zero]
          refine wpList_valn (v := .bool false) rfl (exec_eqInt false rfl (ev rfl) evk HD2.out) ?_
          simp only [Act.put, List.setIfInBounds_toArray, List.set_cons_succ, List.set_cons_zero]
          refine wpList_nil ?_
          go_upto_region 15 with fail
          refine wp_region_lit ?_
          refine wpList_valn rfl (exec_mv rfl (ev rfl)) ?_
          simp only [Act.put, List.setIfInBounds_toArray, List.set_cons_succ, List.set_cons_zero]
          refine wpList_valn rfl (exec_mv rfl (ev rfl)) ?_
          simp only [Act.put, List.setIfInBounds_toArray, List.set_cons_succ, List.set_cons_zero]
          refine wpList_call rfl (exec_cl Try.call18 rfl (evc (ev rfl) (evc (ev rfl) evn))) ?_
          refine (pl_has w2 HP2.out HWK.out).mono ?_
          rintro e w3 ⟨rfl, rfl⟩
          refine ⟨_, rfl, ?_⟩
          simp only [Act.put, List.setIfInBounds_toArray, List.set_cons_succ, List.set_cons_zero]
          refine wpList_valn rfl (exec_as rfl (ev rfl)) ?_
          simp only [Act.put, List.setIfInBounds_toArray, List.set_cons_succ, List.set_cons_zero]
          refine wpList_nil ?_
          obtain ⟨th, hth⟩ : ∃ th, hasK k L = th := ⟨_, rfl⟩
          have HTH := Lib.hid hth
          rw [hth]
          clear hth
          by_cases he : tchE room k L = 0
          · obtain ⟨g, hg⟩ : ∃ g, tchG room k L = g := ⟨_, rfl⟩
            obtain ⟨t, ht⟩ : ∃ t, tchW room k L = t := ⟨_, rfl⟩
            obtain ⟨L3, hL3⟩ : ∃ L3, tchS room k L = L3 := ⟨_, rfl⟩
            obtain ⟨NK, hNK⟩ : ∃ NK, keyL L3 = NK := ⟨_, rfl⟩
            have ho := onceT HP.out.ok he
            have q1 := ho.len
            have q2 := ho.fst
            have q3 := ho.pos
            have q4 := ho.not2
            have q5 := ho.gone
            rw [HTH.out, ht, hL3, hNK] at q1
            rw [hL3, hNK] at q2
            rw [hL3, hNK] at q3
            rw [HTH.out, ht] at q4
            rw [ht, hg, hL3] at q5
            have HO1 := Lib.hid q1
            have HO2 := Lib.hid q2
            have HO3 := Lib.hid q3
            have HO4 := Lib.hid q4
            have HO5 := Lib.hid q5
            have HNK := Lib.hid hNK
            clear ho q1 q2 q3 q4 q5 hNK
            have HV := Lib.hid (And.intro hg (And.intro ht (And.intro he hL3)))
            have HWG : Hid ((Lit.int .i64 g).wf = true) := Lib.hid (by
              rw [← hg]
              unfold tchG
              split
              · rfl
              · split
                · rfl
                · split
                  · rfl
                  · rename_i hu
                    exact HP.out.ok.wf _ (getD_mem (by have := lu_le L; omega)))
            clear he hg ht hL3
            go_upto_region 16 with fail
            refine wp_region_lit ?_
            refine wpList_valn rfl (exec_mv rfl (ev rfl)) ?_
            simp only [Act.put, List.setIfInBounds_toArray, List.set_cons_succ, List.set_cons_zero]
            refine wpList_valn rfl (exec_mv rfl (ev rfl)) ?_
            simp only [Act.put, List.setIfInBounds_toArray, List.set_cons_succ, List.set_cons_zero]
            refine wpList_call rfl (exec_cl Try.call16 rfl (evc (ev rfl) (evc (ev rfl) evn))) ?_
            refine (pl_touch_v w2 HP2.out HWK.out HV.out.1 HV.out.2.1 HV.out.2.2.1 HV.out.2.2.2).mono ?_
            rintro e w3 ⟨rfl, hp3, ht3⟩
            have HP3 := Lib.hid hp3
            have HM3 := Lib.hid (made_turnP HM2.out ht3)
            have HB3 := Lib.hid (Turn.below HB2.out ht3 HB2.out.size)
            clear hp3 ht3
            refine ⟨_, rfl, ?_⟩
            simp only [Act.put, List.setIfInBounds_toArray, List.set_cons_succ, List.set_cons_zero]
            refine wpList_valn rfl (exec_mv rfl (ev rfl)) ?_
            simp only [Act.put, List.setIfInBounds_toArray, List.set_cons_succ, List.set_cons_zero]
            refine wpList_valn rfl (exec_ext rfl (ev rfl) rfl) ?_
            simp only [Act.put, List.setIfInBounds_toArray, List.set_cons_succ, List.set_cons_zero]
            refine wpList_valn rfl (exec_ext rfl (ev rfl) rfl) ?_
            simp only [Act.put, List.setIfInBounds_toArray, List.set_cons_succ, List.set_cons_zero]
            refine wpList_valn rfl (exec_ext rfl (ev rfl) rfl) ?_
            simp only [Act.put, List.setIfInBounds_toArray, List.set_cons_succ, List.set_cons_zero]
            refine wpList_valn rfl (exec_as rfl (ev rfl)) ?_
            simp only [Act.put, List.setIfInBounds_toArray, List.set_cons_succ, List.set_cons_zero]
            refine wpList_valn rfl (exec_as rfl (ev rfl)) ?_
            simp only [Act.put, List.setIfInBounds_toArray, List.set_cons_succ, List.set_cons_zero]
            refine wpList_valn rfl (exec_as rfl (ev rfl)) ?_
            simp only [Act.put, List.setIfInBounds_toArray, List.set_cons_succ, List.set_cons_zero]
            refine wpList_nil ?_
            go_upto_region 17 with fail
            refine wp_region_lit ?_
            refine wpList_valn rfl (exec_mv rfl (ev rfl)) ?_
            simp only [Act.put, List.setIfInBounds_toArray, List.set_cons_succ, List.set_cons_zero]
            refine wpList_call rfl (exec_cl Try.call13 rfl (evc (ev rfl) evn)) ?_
            refine (pl_keys w3 HP3.out).mono ?_
            rintro e w4 ⟨v4, rfl, hm4, hb4⟩
            obtain ⟨A4, c4, hv4, hc41, hc42⟩ := hm4.form
            subst hv4
            have HM4 := Lib.hid (hm4.base HB3.out.size)
            have HP4 := Lib.hid (HP3.out.below hb4)
            have HB4 := Lib.hid (HB3.out.trans (hb4.mono HB3.out.size))
            clear hm4 hb4 hc41 hc42
            refine ⟨_, rfl, ?_⟩
            simp only [Act.put, List.setIfInBounds_toArray, List.set_cons_succ, List.set_cons_zero]
            refine wpList_valn rfl (exec_as rfl (ev rfl)) ?_
            simp only [Act.put, List.setIfInBounds_toArray, List.set_cons_succ, List.set_cons_zero]
            refine wpList_nil ?_
            have HRK := Lib.hid HM4.out.rd
            have HND := Lib.hid HP4.out.ok.one
            have hnk := HNK.out
            rw [hnk] at HRK HND
            rw [hnk]
            obtain ⟨bk, ok, hAk, _, hCk⟩ := HRK.out.int1' HO3.out
            have HAK := Lib.hid hAk
            have HCK := Lib.hid hCk
            have HNL : Hid (NK.length ≤ 64) := Lib.hid (by rw [← hnk]; have := HP4.out.ok.len; have := HRO.out.2; unfold keyL; rw [List.length_map]; omega)
            have HE0 : Hid (((NK.length : Int) == (0 : Int)) = false) := Lib.hid (by have := HO3.out; rw [beq_eq_false_iff_ne]; omega)
            have HF0 : Hid ((NK.getD 0 0 != k) = false) := Lib.hid (by rw [HO2.out]; simp)
            have HW5 : Hid (IntKind.i64.wrap (((keyL L).length : Int) + 1) = (((keyL L).length + 1 : Nat) : Int)) := Lib.hid (by have := HLK.out; rw [IntWalk.i64_in _ ⟨by omega, by omega⟩]; omega)
            clear hnk hAk hCk
            cases th
            · cases t
              · have HMR : Hid (((NK.length : Int) != (((keyL L).length + 1 : Nat) : Int)) = false) := Lib.hid (by rw [HO1.out]; simp)
                go_upto_region 18 with fail
                refine wp_region_lit ?_
                refine wpList_valn rfl (exec_mv rfl (ev rfl)) ?_
                simp only [Act.put, List.setIfInBounds_toArray, List.set_cons_succ, List.set_cons_zero]
                refine wpList_valn (v := .bool false) rfl (exec_neInt false rfl (ev rfl) evk rfl) ?_
                simp only [Act.put, List.setIfInBounds_toArray, List.set_cons_succ, List.set_cons_zero]
                refine wpList_nil ?_
                go_upto_region 21 with fail
                refine wp_region_lit ?_
                refine wpList_valn rfl (exec_mv rfl (ev rfl)) ?_
                simp only [Act.put, List.setIfInBounds_toArray, List.set_cons_succ, List.set_cons_zero]
                refine wpList_valn rfl (exec_lenE IntE rfl (ev rfl)) ?_
                simp only [Act.put, List.setIfInBounds_toArray, List.set_cons_succ, List.set_cons_zero]
                refine wpList_valn rfl (exec_add rfl (ev rfl) evk HW5.out) ?_
                simp only [Act.put, List.setIfInBounds_toArray, List.set_cons_succ, List.set_cons_zero]
                refine wpList_valn rfl (exec_as rfl (ev rfl)) ?_
                simp only [Act.put, List.setIfInBounds_toArray, List.set_cons_succ, List.set_cons_zero]
                refine wpList_nil ?_
                go_upto_region 22 with fail
                refine wp_region_lit ?_
                refine wpList_valn (v := .bool false) rfl (exec_mv rfl (ev rfl)) ?_
                simp only [Act.put, List.setIfInBounds_toArray, List.set_cons_succ, List.set_cons_zero]
                refine wpList_valn (v := .bool false) rfl (exec_mv rfl (ev rfl)) ?_
                simp only [Act.put, List.setIfInBounds_toArray, List.set_cons_succ, List.set_cons_zero]
                refine wpList_val (v := .bool false) (wanted_of rfl rfl rfl rfl) (exec_mv rfl (ev rfl)) ?_
                simp only [Act.put, List.setIfInBounds_toArray, List.set_cons_succ, List.set_cons_zero]
                refine wpList_valn (v := .bool false) rfl (exec_pf rfl (ev rfl) (ev rfl)) ?_
                simp only [Act.put, List.setIfInBounds_toArray, List.set_cons_succ, List.set_cons_zero]
                refine wpList_nil ?_
                go_upto_region 24 with fail
                refine wp_region_lit ?_
                refine wpList_valn (v := .bool false) rfl (exec_mv rfl (ev rfl)) ?_
                simp only [Act.put, List.setIfInBounds_toArray, List.set_cons_succ, List.set_cons_zero]
                refine wpList_skips 1 (v := .bool false) rfl (exec_mv rfl (ev rfl)) (by kernel_rfl) ?_
                simp only [skipAct, List.take_succ_cons, List.take_zero, List.drop_succ_cons, List.drop_zero, Act.put, List.setIfInBounds_toArray, List.set_cons_succ, List.set_cons_zero]
                refine wpList_valn (v := .bool false) rfl (exec_pf rfl (ev rfl) evk) ?_
                simp only [Act.put, List.setIfInBounds_toArray, List.set_cons_succ, List.set_cons_zero]
                refine wpList_valn (v := .bool false) rfl (exec_mv rfl (ev rfl)) ?_
                simp only [Act.put, List.setIfInBounds_toArray, List.set_cons_succ, List.set_cons_zero]
                refine wpList_val (wanted_of rfl rfl rfl rfl) (exec_mv rfl (ev rfl)) ?_
                simp only [Act.put, List.setIfInBounds_toArray, List.set_cons_succ, List.set_cons_zero]
                refine wpList_val (wanted_of rfl rfl rfl rfl) (exec_lenE IntE rfl (ev rfl)) ?_
                simp only [Act.put, List.setIfInBounds_toArray, List.set_cons_succ, List.set_cons_zero]
                refine wpList_val (wanted_of rfl rfl rfl rfl) (exec_mv rfl (ev rfl)) ?_
                simp only [Act.put, List.setIfInBounds_toArray, List.set_cons_succ, List.set_cons_zero]
                refine wpList_val (v := .bool false) (wanted_of rfl rfl rfl rfl) (exec_neInt false rfl (ev rfl) (ev rfl) HMR.out) ?_
                simp only [Act.put, List.setIfInBounds_toArray, List.set_cons_succ, List.set_cons_zero]
                refine wpList_valn (v := .bool false) rfl (exec_pf rfl (ev rfl) (ev rfl)) ?_
                simp only [Act.put, List.setIfInBounds_toArray, List.set_cons_succ, List.set_cons_zero]
                refine wpList_valn (v := .bool false) rfl (exec_mv rfl (ev rfl)) ?_
                simp only [Act.put, List.setIfInBounds_toArray, List.set_cons_succ, List.set_cons_zero]
                refine wpList_val (wanted_of rfl rfl rfl rfl) (exec_mv rfl (ev rfl)) ?_
                simp only [Act.put, List.setIfInBounds_toArray, List.set_cons_succ, List.set_cons_zero]
                refine wpList_val (wanted_of rfl rfl rfl rfl) (exec_lenE IntE rfl (ev rfl)) ?_
                simp only [Act.put, List.setIfInBounds_toArray, List.set_cons_succ, List.set_cons_zero]
                refine wpList_val (v := .bool false) (wanted_of rfl rfl rfl rfl) (exec_eqInt false rfl (ev rfl) evk HE0.out) ?_
                simp only [Act.put, List.setIfInBounds_toArray, List.set_cons_succ, List.set_cons_zero]
                refine wpList_valn (v := .bool false) rfl (exec_pf rfl (ev rfl) (ev rfl)) ?_
                simp only [Act.put, List.setIfInBounds_toArray, List.set_cons_succ, List.set_cons_zero]
                refine wpList_valn (v := .bool false) rfl (exec_mv rfl (ev rfl)) ?_
                simp only [Act.put, List.setIfInBounds_toArray, List.set_cons_succ, List.set_cons_zero]
                refine wpList_val (wanted_of rfl rfl rfl rfl) (exec_mv rfl (ev rfl)) ?_
                simp only [Act.put, List.setIfInBounds_toArray, List.set_cons_succ, List.set_cons_zero]
                refine wpList_val (wanted_of rfl rfl rfl rfl) (exec_indexE (E := IntE) (b := bk) (off := ok) (j := 0) rfl ((ev rfl).trans (by rw [HAK.out])) evk HO3.out) ?_
                simp only [Act.put, List.setIfInBounds_toArray, List.set_cons_succ, List.set_cons_zero]
                refine wpList_val (wanted_of rfl rfl rfl rfl) (exec_ld rfl (ev rfl) (ldInt HCK.out)) ?_
                simp only [Act.put, List.setIfInBounds_toArray, List.set_cons_succ, List.set_cons_zero]
                refine wpList_val (wanted_of rfl rfl rfl rfl) (exec_mv rfl (ev rfl)) ?_
                simp only [Act.put, List.setIfInBounds_toArray, List.set_cons_succ, List.set_cons_zero]
                refine wpList_val (v := .bool false) (wanted_of rfl rfl rfl rfl) (exec_neInt false rfl (ev rfl) (ev rfl) HF0.out) ?_
                simp only [Act.put, List.setIfInBounds_toArray, List.set_cons_succ, List.set_cons_zero]
                refine wpList_valn (v := .bool false) rfl (exec_pf rfl (ev rfl) (ev rfl)) ?_
                simp only [Act.put, List.setIfInBounds_toArray, List.set_cons_succ, List.set_cons_zero]
                refine wpList_valn (v := .bool false) rfl (exec_mv rfl (ev rfl)) ?_
                simp only [Act.put, List.setIfInBounds_toArray, List.set_cons_succ, List.set_cons_zero]
                refine wpList_val (v := .bool false) (wanted_of rfl rfl rfl rfl) (exec_mv rfl (ev rfl)) ?_
                simp only [Act.put, List.setIfInBounds_toArray, List.set_cons_succ, List.set_cons_zero]
                refine wpList_skips 8 (v := .bool false) (wanted_of rfl rfl rfl rfl) (exec_mv rfl (ev rfl)) (by kernel_rfl) ?_
                simp only [skipAct, List.take_succ_cons, List.take_zero, List.drop_succ_cons, List.drop_zero, Act.put, List.setIfInBounds_toArray, List.set_cons_succ, List.set_cons_zero]
                refine wpList_val (v := .bool false) (wanted_of rfl rfl rfl rfl) (exec_pf rfl (ev rfl) evk) ?_
                simp only [Act.put, List.setIfInBounds_toArray, List.set_cons_succ, List.set_cons_zero]
                refine wpList_valn (v := .bool false) rfl (exec_pf rfl (ev rfl) (ev rfl)) ?_
                simp only [Act.put, List.setIfInBounds_toArray, List.set_cons_succ, List.set_cons_zero]
                refine wpList_nil ?_
                go_wp2_with fail
                go_loopw [17] (fun i wr => ∃ a : Nat, a ≤ NK.length ∧ i = .int .i64 a ∧ Below w4.heap.size w4 wr) (fun i _ => NK.length - (intOf i).toNat)
                case atStart => exact ⟨0, Nat.zero_le _, rfl, Below.refl _ _⟩
                case round =>
                  obtain ⟨x, hx, rfl, hbx⟩ := hrel
                  have HBX := Lib.hid hbx
                  clear hbx
                  by_cases hlx : x < NK.length
                  · have HLX : Hid (decide ((x : Int) < (NK.length : Int)) = true) := Lib.hid (decide_eq_true (by omega))
                    have HX := Lib.hid hlx
                    have HRX := Lib.hid (HRK.out.step HBX.out)
                    clear hlx
                    obtain ⟨wB, rfl⟩ : ∃ x, x = wr := ⟨_, rfl⟩
                    go_upto_region 27 with fail
                    refine wp_region_lit ?_
                    refine wpList_valn rfl (exec_mv rfl (ev rfl)) ?_
                    simp only [Act.put, List.setIfInBounds_toArray, List.set_cons_succ, List.set_cons_zero]
                    refine wpList_valn rfl (exec_mv rfl (ev rfl)) ?_
                    simp only [Act.put, List.setIfInBounds_toArray, List.set_cons_succ, List.set_cons_zero]
                    refine wpList_valn rfl (exec_lenE IntE rfl (ev rfl)) ?_
                    simp only [Act.put, List.setIfInBounds_toArray, List.set_cons_succ, List.set_cons_zero]
                    refine wpList_valn (v := .bool true) rfl (exec_lss true rfl (ev rfl) (ev rfl) HLX.out) ?_
                    simp only [Act.put, List.setIfInBounds_toArray, List.set_cons_succ, List.set_cons_zero]
                    refine wpList_nil ?_
                    go_wp2_with fail
                    go_loopw [18] (fun i wr => ∃ b : Nat, b ≤ x ∧ i = .int .i64 b ∧ Below wB.heap.size wB wr) (fun i _ => x - (intOf i).toNat)
                    case atStart => exact ⟨0, Nat.zero_le _, rfl, Below.refl _ _⟩
                    case round =>
                      obtain ⟨y, hy, rfl, hby⟩ := hrel
                      have HBY := Lib.hid hby
                      clear hby
                      by_cases hly : y < x
                      · have HLY : Hid (decide ((y : Int) < (x : Int)) = true) := Lib.hid (decide_eq_true (by omega))
                        have HY := Lib.hid hly
                        have HYN : Hid (y < NK.length) := Lib.hid (by have := HX.out; omega)
                        obtain ⟨bk1, ok1, hA1, hb1, hC1⟩ := HRX.out.int1' HX.out
                        obtain ⟨bk2, ok2, hA2, hb2, hC2⟩ := HRX.out.int1' HYN.out
                        have HA1 := Lib.hid hA1
                        have HA2 := Lib.hid hA2
                        have HC1 : Hid (∀ w', Below wB.heap.size wB w' → w'.cell? ⟨bk1, ok1 + x * IntE.n, none⟩ = some (.int .i64 (NK.getD x 0))) := Lib.hid fun w' hb => by
                          rw [hb.cell (p := ⟨bk1, ok1 + x * IntE.n, none⟩) hb1]; exact hC1
                        have HC2 : Hid (∀ w', Below wB.heap.size wB w' → w'.cell? ⟨bk2, ok2 + y * IntE.n, none⟩ = some (.int .i64 (NK.getD y 0))) := Lib.hid fun w' hb => by
                          rw [hb.cell (p := ⟨bk2, ok2 + y * IntE.n, none⟩) hb2]; exact hC2
                        have HNQ : Hid ((NK.getD x 0 == NK.getD y 0) = false) := Lib.hid (by
                          rw [beq_eq_false_iff_ne]
                          exact fun e => absurd (nodup_getD HND.out HX.out HYN.out e) (by omega))
                        clear hA1 hb1 hC1 hA2 hb2 hC2 hly
                        go_upto_region 30 with fail
                        refine wp_region_lit ?_
                        refine wpList_valn rfl (exec_mv rfl (ev rfl)) ?_
                        simp only [Act.put, List.setIfInBounds_toArray, List.set_cons_succ, List.set_cons_zero]
                        refine wpList_valn rfl (exec_mv rfl (ev rfl)) ?_
                        simp only [Act.put, List.setIfInBounds_toArray, List.set_cons_succ, List.set_cons_zero]
                        refine wpList_valn (v := .bool true) rfl (exec_lss true rfl (ev rfl) (ev rfl) HLY.out) ?_
                        simp only [Act.put, List.setIfInBounds_toArray, List.set_cons_succ, List.set_cons_zero]
                        refine wpList_nil ?_
                        go_upto_region 32 with fail
                        refine wp_region_above (B := wr.heap.size) (by kernel_rfl) ?_
                        refine qv_val rfl (fun w' hw => exec_mv rfl (ev rfl)) ?_
                        simp only [Act.put, List.setIfInBounds_toArray, List.set_cons_succ, List.set_cons_zero]
                        refine qv_val rfl (fun w' hw => exec_mv rfl (ev rfl)) ?_
                        simp only [Act.put, List.setIfInBounds_toArray, List.set_cons_succ, List.set_cons_zero]
                        refine qv_val rfl (fun w' hw => exec_indexE (E := IntE) (b := bk1) (off := ok1) (j := x) rfl ((ev rfl).trans (by rw [HA1.out])) (ev rfl) HX.out) ?_
                        simp only [Act.put, List.setIfInBounds_toArray, List.set_cons_succ, List.set_cons_zero]
                        refine qv_val rfl (fun w' hw => exec_ld rfl (ev rfl) (ldInt (HC1.out w' (HBY.out.trans (hw.mono HBY.out.size))))) ?_
                        simp only [Act.put, List.setIfInBounds_toArray, List.set_cons_succ, List.set_cons_zero]
                        refine qv_val rfl (fun w' hw => exec_mv rfl (ev rfl)) ?_
                        simp only [Act.put, List.setIfInBounds_toArray, List.set_cons_succ, List.set_cons_zero]
                        refine qv_val rfl (fun w' hw => exec_mv rfl (ev rfl)) ?_
                        simp only [Act.put, List.setIfInBounds_toArray, List.set_cons_succ, List.set_cons_zero]
                        refine qv_val rfl (fun w' hw => exec_indexE (E := IntE) (b := bk2) (off := ok2) (j := y) rfl ((ev rfl).trans (by rw [HA2.out])) (ev rfl) HYN.out) ?_
                        simp only [Act.put, List.setIfInBounds_toArray, List.set_cons_succ, List.set_cons_zero]
                        refine qv_val rfl (fun w' hw => exec_ld rfl (ev rfl) (ldInt (HC2.out w' (HBY.out.trans (hw.mono HBY.out.size))))) ?_
                        simp only [Act.put, List.setIfInBounds_toArray, List.set_cons_succ, List.set_cons_zero]
                        refine qv_val (v := .bool false) rfl (fun w' hw => exec_eqInt false rfl (ev rfl) (ev rfl) HNQ.out) ?_
                        simp only [Act.put, List.setIfInBounds_toArray, List.set_cons_succ, List.set_cons_zero]
                        refine wpQuiet_nil ?_
                        intro w5 hw5
                        have HB5 := Lib.hid (HBY.out.trans (hw5.mono HBY.out.size))
                        have hly := HY.out
                        have hnl := HNL.out
                        have hxl := HX.out
                        clear hw5
                        go_wp2_with fail
                        go_roundw
                        case rel => exact ⟨y + 1, HY.out, by go_num, HB5.out⟩
                        case measure => have := HY.out; simp [intOf]; omega
                      · have HLY : Hid (decide ((y : Int) < (x : Int)) = false) := Lib.hid (decide_eq_false (by omega))
                        clear hly
                        go_upto_region 30 with fail
                        refine wp_region_lit ?_
                        refine wpList_valn rfl (exec_mv rfl (ev rfl)) ?_
                        simp only [Act.put, List.setIfInBounds_toArray, List.set_cons_succ, List.set_cons_zero]
                        refine wpList_valn rfl (exec_mv rfl (ev rfl)) ?_
                        simp only [Act.put, List.setIfInBounds_toArray, List.set_cons_succ, List.set_cons_zero]
                        refine wpList_valn (v := .bool false) rfl (exec_lss false rfl (ev rfl) (ev rfl) HLY.out) ?_
                        simp only [Act.put, List.setIfInBounds_toArray, List.set_cons_succ, List.set_cons_zero]
                        refine wpList_nil ?_
                        have HB6 := Lib.hid (HBX.out.trans (HBY.out.mono HBX.out.size))
                        have hnl := HNL.out
                        have hxl := HX.out
                        go_wp2_with fail
                        go_roundw
                        case rel => exact ⟨x + 1, HX.out, by go_num, HB6.out⟩
                        case measure => have := HX.out; simp [intOf]; omega
                  · have HLX : Hid (decide ((x : Int) < (NK.length : Int)) = false) := Lib.hid (decide_eq_false (by omega))
                    clear hlx
                    go_upto_region 27 with fail
                    refine wp_region_lit ?_
                    refine wpList_valn rfl (exec_mv rfl (ev rfl)) ?_
                    simp only [Act.put, List.setIfInBounds_toArray, List.set_cons_succ, List.set_cons_zero]
                    refine wpList_valn rfl (exec_mv rfl (ev rfl)) ?_
                    simp only [Act.put, List.setIfInBounds_toArray, List.set_cons_succ, List.set_cons_zero]
                    refine wpList_valn rfl (exec_lenE IntE rfl (ev rfl)) ?_
                    simp only [Act.put, List.setIfInBounds_toArray, List.set_cons_succ, List.set_cons_zero]
                    refine wpList_valn (v := .bool false) rfl (exec_lss false rfl (ev rfl) (ev rfl) HLX.out) ?_
                    simp only [Act.put, List.setIfInBounds_toArray, List.set_cons_succ, List.set_cons_zero]
                    refine wpList_nil ?_
                    have HPE := Lib.hid (HP4.out.below HBX.out)
                    have HBE := Lib.hid (HB4.out.trans (HBX.out.mono HB4.out.size))
                    have hlt := HJ.out
                    have hn := HNM.out
                    go_wp2_with fail
                    go_roundw
                    case rel => exact ⟨j + 1, L3, HJ.out, by go_num, HPE.out, HBE.out⟩
                    case measure => have := HJ.out; simp [intOf]; omega
              · have HMR : Hid (((NK.length : Int) != (((keyL L).length : Nat) : Int)) = false) := Lib.hid (by rw [HO1.out]; simp)
                have HGK : Hid ((g == k) = false) := Lib.hid (by rw [beq_eq_false_iff_ne]; exact (HO5.out rfl).2)
                have HGH := Lib.hid (HO5.out rfl).1
                go_upto_region 18 with fail
                refine wp_region_lit ?_
                refine wpList_valn rfl (exec_mv rfl (ev rfl)) ?_
                simp only [Act.put, List.setIfInBounds_toArray, List.set_cons_succ, List.set_cons_zero]
                refine wpList_valn (v := .bool false) rfl (exec_neInt false rfl (ev rfl) evk rfl) ?_
                simp only [Act.put, List.setIfInBounds_toArray, List.set_cons_succ, List.set_cons_zero]
                refine wpList_nil ?_
                go_upto_region 21 with fail
                refine wp_region_lit ?_
                refine wpList_valn rfl (exec_mv rfl (ev rfl)) ?_
                simp only [Act.put, List.setIfInBounds_toArray, List.set_cons_succ, List.set_cons_zero]
                refine wpList_valn rfl (exec_lenE IntE rfl (ev rfl)) ?_
                simp only [Act.put, List.setIfInBounds_toArray, List.set_cons_succ, List.set_cons_zero]
                refine wpList_valn rfl (exec_add rfl (ev rfl) evk HW5.out) ?_
                simp only [Act.put, List.setIfInBounds_toArray, List.set_cons_succ, List.set_cons_zero]
                refine wpList_valn rfl (exec_as rfl (ev rfl)) ?_
                simp only [Act.put, List.setIfInBounds_toArray, List.set_cons_succ, List.set_cons_zero]
                refine wpList_nil ?_
                go_upto_region 22 with fail
                refine wp_region_lit ?_
                refine wpList_valn (v := .bool false) rfl (exec_mv rfl (ev rfl)) ?_
                simp only [Act.put, List.setIfInBounds_toArray, List.set_cons_succ, List.set_cons_zero]
                refine wpList_valn (v := .bool false) rfl (exec_mv rfl (ev rfl)) ?_
                simp only [Act.put, List.setIfInBounds_toArray, List.set_cons_succ, List.set_cons_zero]
                refine wpList_val (v := .bool true) (wanted_of rfl rfl rfl rfl) (exec_mv rfl (ev rfl)) ?_
                simp only [Act.put, List.setIfInBounds_toArray, List.set_cons_succ, List.set_cons_zero]
                refine wpList_valn (v := .bool true) rfl (exec_pf rfl (ev rfl) (ev rfl)) ?_
                simp only [Act.put, List.setIfInBounds_toArray, List.set_cons_succ, List.set_cons_zero]
                refine wpList_nil ?_
                go_upto_region 23 with fail
                refine wp_region_lit ?_
                refine wpList_valn rfl (exec_mv rfl (ev rfl)) ?_
                simp only [Act.put, List.setIfInBounds_toArray, List.set_cons_succ, List.set_cons_zero]
                refine wpList_valn rfl (exec_lenE IntE rfl (ev rfl)) ?_
                simp only [Act.put, List.setIfInBounds_toArray, List.set_cons_succ, List.set_cons_zero]
                refine wpList_valn rfl (exec_as rfl (ev rfl)) ?_
                simp only [Act.put, List.setIfInBounds_toArray, List.set_cons_succ, List.set_cons_zero]
                refine wpList_nil ?_
                go_upto_region 24 with fail
                refine wp_region_lit ?_
                refine wpList_valn (v := .bool false) rfl (exec_mv rfl (ev rfl)) ?_
                simp only [Act.put, List.setIfInBounds_toArray, List.set_cons_succ, List.set_cons_zero]
                refine wpList_skips 1 (v := .bool false) rfl (exec_mv rfl (ev rfl)) (by kernel_rfl) ?_
                simp only [skipAct, List.take_succ_cons, List.take_zero, List.drop_succ_cons, List.drop_zero, Act.put, List.setIfInBounds_toArray, List.set_cons_succ, List.set_cons_zero]
                refine wpList_valn (v := .bool false) rfl (exec_pf rfl (ev rfl) evk) ?_
                simp only [Act.put, List.setIfInBounds_toArray, List.set_cons_succ, List.set_cons_zero]
                refine wpList_valn (v := .bool false) rfl (exec_mv rfl (ev rfl)) ?_
                simp only [Act.put, List.setIfInBounds_toArray, List.set_cons_succ, List.set_cons_zero]
                refine wpList_val (wanted_of rfl rfl rfl rfl) (exec_mv rfl (ev rfl)) ?_
                simp only [Act.put, List.setIfInBounds_toArray, List.set_cons_succ, List.set_cons_zero]
                refine wpList_val (wanted_of rfl rfl rfl rfl) (exec_lenE IntE rfl (ev rfl)) ?_
                simp only [Act.put, List.setIfInBounds_toArray, List.set_cons_succ, List.set_cons_zero]
                refine wpList_val (wanted_of rfl rfl rfl rfl) (exec_mv rfl (ev rfl)) ?_
                simp only [Act.put, List.setIfInBounds_toArray, List.set_cons_succ, List.set_cons_zero]
                refine wpList_val (v := .bool false) (wanted_of rfl rfl rfl rfl) (exec_neInt false rfl (ev rfl) (ev rfl) HMR.out) ?_
                simp only [Act.put, List.setIfInBounds_toArray, List.set_cons_succ, List.set_cons_zero]
                refine wpList_valn (v := .bool false) rfl (exec_pf rfl (ev rfl) (ev rfl)) ?_
                simp only [Act.put, List.setIfInBounds_toArray, List.set_cons_succ, List.set_cons_zero]
                refine wpList_valn (v := .bool false) rfl (exec_mv rfl (ev rfl)) ?_
                simp only [Act.put, List.setIfInBounds_toArray, List.set_cons_succ, List.set_cons_zero]
                refine wpList_val (wanted_of rfl rfl rfl rfl) (exec_mv rfl (ev rfl)) ?_
                simp only [Act.put, List.setIfInBounds_toArray, List.set_cons_succ, List.set_cons_zero]
                refine wpList_val (wanted_of rfl rfl rfl rfl) (exec_lenE IntE rfl (ev rfl)) ?_
                simp only [Act.put, List.setIfInBounds_toArray, List.set_cons_succ, List.set_cons_zero]
                refine wpList_val (v := .bool false) (wanted_of rfl rfl rfl rfl) (exec_eqInt false rfl (ev rfl) evk HE0.out) ?_
                simp only [Act.put, List.setIfInBounds_toArray, List.set_cons_succ, List.set_cons_zero]
                refine wpList_valn (v := .bool false) rfl (exec_pf rfl (ev rfl) (ev rfl)) ?_
                simp only [Act.put, List.setIfInBounds_toArray, List.set_cons_succ, List.set_cons_zero]
                refine wpList_valn (v := .bool false) rfl (exec_mv rfl (ev rfl)) ?_
                simp only [Act.put, List.setIfInBounds_toArray, List.set_cons_succ, List.set_cons_zero]
                refine wpList_val (wanted_of rfl rfl rfl rfl) (exec_mv rfl (ev rfl)) ?_
                simp only [Act.put, List.setIfInBounds_toArray, List.set_cons_succ, List.set_cons_zero]
                refine wpList_val (wanted_of rfl rfl rfl rfl) (exec_indexE (E := IntE) (b := bk) (off := ok) (j := 0) rfl ((ev rfl).trans (by rw [HAK.out])) evk HO3.out) ?_
                simp only [Act.put, List.setIfInBounds_toArray, List.set_cons_succ, List.set_cons_zero]
                refine wpList_val (wanted_of rfl rfl rfl rfl) (exec_ld rfl (ev rfl) (ldInt HCK.out)) ?_
                simp only [Act.put, List.setIfInBounds_toArray, List.set_cons_succ, List.set_cons_zero]
                refine wpList_val (wanted_of rfl rfl rfl rfl) (exec_mv rfl (ev rfl)) ?_
                simp only [Act.put, List.setIfInBounds_toArray, List.set_cons_succ, List.set_cons_zero]
                refine wpList_val (v := .bool false) (wanted_of rfl rfl rfl rfl) (exec_neInt false rfl (ev rfl) (ev rfl) HF0.out) ?_
                simp only [Act.put, List.setIfInBounds_toArray, List.set_cons_succ, List.set_cons_zero]
                refine wpList_valn (v := .bool false) rfl (exec_pf rfl (ev rfl) (ev rfl)) ?_
                simp only [Act.put, List.setIfInBounds_toArray, List.set_cons_succ, List.set_cons_zero]
                refine wpList_valn (v := .bool false) rfl (exec_mv rfl (ev rfl)) ?_
                simp only [Act.put, List.setIfInBounds_toArray, List.set_cons_succ, List.set_cons_zero]
                refine wpList_val (v := .bool true) (wanted_of rfl rfl rfl rfl) (exec_mv rfl (ev rfl)) ?_
                simp only [Act.put, List.setIfInBounds_toArray, List.set_cons_succ, List.set_cons_zero]
                refine wpList_val (v := .bool true) (wanted_of rfl rfl rfl rfl) (exec_mv rfl (ev rfl)) ?_
                simp only [Act.put, List.setIfInBounds_toArray, List.set_cons_succ, List.set_cons_zero]
                refine wpList_val (wanted_of rfl rfl rfl rfl) (exec_mv rfl (ev rfl)) ?_
                simp only [Act.put, List.setIfInBounds_toArray, List.set_cons_succ, List.set_cons_zero]
                refine wpList_val (wanted_of rfl rfl rfl rfl) (exec_mv rfl (ev rfl)) ?_
                simp only [Act.put, List.setIfInBounds_toArray, List.set_cons_succ, List.set_cons_zero]
                refine wpList_call (wanted_of rfl rfl rfl rfl) (exec_cl Try.call18 rfl (evc (ev rfl) (evc (ev rfl) evn))) ?_
                refine (pl_has_v w4 HP4.out HWG.out (t := false) HGH.out).mono ?_
                rintro e w5 ⟨rfl, rfl⟩
                refine ⟨_, rfl, ?_⟩
                simp only [Act.put, List.setIfInBounds_toArray, List.set_cons_succ, List.set_cons_zero]
                refine wpList_val (v := .bool false) (wanted_of rfl rfl rfl rfl) (exec_mv rfl (ev rfl)) ?_
                simp only [Act.put, List.setIfInBounds_toArray, List.set_cons_succ, List.set_cons_zero]
                refine wpList_val (wanted_of rfl rfl rfl rfl) (exec_mv rfl (ev rfl)) ?_
                simp only [Act.put, List.setIfInBounds_toArray, List.set_cons_succ, List.set_cons_zero]
                refine wpList_val (wanted_of rfl rfl rfl rfl) (exec_mv rfl (ev rfl)) ?_
                simp only [Act.put, List.setIfInBounds_toArray, List.set_cons_succ, List.set_cons_zero]
                refine wpList_val (v := .bool false) (wanted_of rfl rfl rfl rfl) (exec_eqInt false rfl (ev rfl) (ev rfl) HGK.out) ?_
                simp only [Act.put, List.setIfInBounds_toArray, List.set_cons_succ, List.set_cons_zero]
                refine wpList_val (v := .bool false) (wanted_of rfl rfl rfl rfl) (exec_pf rfl (ev rfl) (ev rfl)) ?_
                simp only [Act.put, List.setIfInBounds_toArray, List.set_cons_succ, List.set_cons_zero]
                refine wpList_val (v := .bool false) (wanted_of rfl rfl rfl rfl) (exec_pt rfl (ev rfl) (ev rfl)) ?_
                simp only [Act.put, List.setIfInBounds_toArray, List.set_cons_succ, List.set_cons_zero]
                refine wpList_valn (v := .bool false) rfl (exec_pf rfl (ev rfl) (ev rfl)) ?_
                simp only [Act.put, List.setIfInBounds_toArray, List.set_cons_succ, List.set_cons_zero]
                refine wpList_nil ?_
                go_wp2_with fail
                go_loopw [17] (fun i wr => ∃ a : Nat, a ≤ NK.length ∧ i = .int .i64 a ∧ Below w4.heap.size w4 wr) (fun i _ => NK.length - (intOf i).toNat)
                case atStart => exact ⟨0, Nat.zero_le _, rfl, Below.refl _ _⟩
                case round =>
                  obtain ⟨x, hx, rfl, hbx⟩ := hrel
                  have HBX := Lib.hid hbx
                  clear hbx
                  by_cases hlx : x < NK.length
                  · have HLX : Hid (decide ((x : Int) < (NK.length : Int)) = true) := Lib.hid (decide_eq_true (by omega))
                    have HX := Lib.hid hlx
                    have HRX := Lib.hid (HRK.out.step HBX.out)
                    clear hlx
                    obtain ⟨wB, rfl⟩ : ∃ x, x = wr := ⟨_, rfl⟩
                    go_upto_region 27 with fail
                    refine wp_region_lit ?_
                    refine wpList_valn rfl (exec_mv rfl (ev rfl)) ?_
                    simp only [Act.put, List.setIfInBounds_toArray, List.set_cons_succ, List.set_cons_zero]
                    refine wpList_valn rfl (exec_mv rfl (ev rfl)) ?_
                    simp only [Act.put, List.setIfInBounds_toArray, List.set_cons_succ, List.set_cons_zero]
                    refine wpList_valn rfl (exec_lenE IntE rfl (ev rfl)) ?_
                    simp only [Act.put, List.setIfInBounds_toArray, List.set_cons_succ, List.set_cons_zero]
                    refine wpList_valn (v := .bool true) rfl (exec_lss true rfl (ev rfl) (ev rfl) HLX.out) ?_
                    simp only [Act.put, List.setIfInBounds_toArray, List.set_cons_succ, List.set_cons_zero]
                    refine wpList_nil ?_
                    go_wp2_with fail
                    go_loopw [18] (fun i wr => ∃ b : Nat, b ≤ x ∧ i = .int .i64 b ∧ Below wB.heap.size wB wr) (fun i _ => x - (intOf i).toNat)
                    case atStart => exact ⟨0, Nat.zero_le _, rfl, Below.refl _ _⟩
                    case round =>
                      obtain ⟨y, hy, rfl, hby⟩ := hrel
                      have HBY := Lib.hid hby
                      clear hby
                      by_cases hly : y < x
                      · have HLY : Hid (decide ((y : Int) < (x : Int)) = true) := Lib.hid (decide_eq_true (by omega))
                        have HY := Lib.hid hly
                        have HYN : Hid (y < NK.length) := Lib.hid (by have := HX.out; omega)
                        obtain ⟨bk1, ok1, hA1, hb1, hC1⟩ := HRX.out.int1' HX.out
                        obtain ⟨bk2, ok2, hA2, hb2, hC2⟩ := HRX.out.int1' HYN.out
                        have HA1 := Lib.hid hA1
                        have HA2 := Lib.hid hA2
                        have HC1 : Hid (∀ w', Below wB.heap.size wB w' → w'.cell? ⟨bk1, ok1 + x * IntE.n, none⟩ = some (.int .i64 (NK.getD x 0))) := Lib.hid fun w' hb => by
                          rw [hb.cell (p := ⟨bk1, ok1 + x * IntE.n, none⟩) hb1]; exact hC1
                        have HC2 : Hid (∀ w', Below wB.heap.size wB w' → w'.cell? ⟨bk2, ok2 + y * IntE.n, none⟩ = some (.int .i64 (NK.getD y 0))) := Lib.hid fun w' hb => by
                          rw [hb.cell (p := ⟨bk2, ok2 + y * IntE.n, none⟩) hb2]; exact hC2
                        have HNQ : Hid ((NK.getD x 0 == NK.getD y 0) = false) := Lib.hid (by
                          rw [beq_eq_false_iff_ne]
                          exact fun e => absurd (nodup_getD HND.out HX.out HYN.out e) (by omega))
                        clear hA1 hb1 hC1 hA2 hb2 hC2 hly
                        go_upto_region 30 with fail
                        refine wp_region_lit ?_
                        refine wpList_valn rfl (exec_mv rfl (ev rfl)) ?_
                        simp only [Act.put, List.setIfInBounds_toArray, List.set_cons_succ, List.set_cons_zero]
                        refine wpList_valn rfl (exec_mv rfl (ev rfl)) ?_
                        simp only [Act.put, List.setIfInBounds_toArray, List.set_cons_succ, List.set_cons_zero]
                        refine wpList_valn (v := .bool true) rfl (exec_lss true rfl (ev rfl) (ev rfl) HLY.out) ?_
                        simp only [Act.put, List.setIfInBounds_toArray, List.set_cons_succ, List.set_cons_zero]
                        refine wpList_nil ?_
                        go_upto_region 32 with fail
                        refine wp_region_above (B := wr.heap.size) (by kernel_rfl) ?_
                        refine qv_val rfl (fun w' hw => exec_mv rfl (ev rfl)) ?_
                        simp only [Act.put, List.setIfInBounds_toArray, List.set_cons_succ, List.set_cons_zero]
                        refine qv_val rfl (fun w' hw => exec_mv rfl (ev rfl)) ?_
                        simp only [Act.put, List.setIfInBounds_toArray, List.set_cons_succ, List.set_cons_zero]
                        refine qv_val rfl (fun w' hw => exec_indexE (E := IntE) (b := bk1) (off := ok1) (j := x) rfl ((ev rfl).trans (by rw [HA1.out])) (ev rfl) HX.out) ?_
                        simp only [Act.put, List.setIfInBounds_toArray, List.set_cons_succ, List.set_cons_zero]
                        refine qv_val rfl (fun w' hw => exec_ld rfl (ev rfl) (ldInt (HC1.out w' (HBY.out.trans (hw.mono HBY.out.size))))) ?_
                        simp only [Act.put, List.setIfInBounds_toArray, List.set_cons_succ, List.set_cons_zero]
                        refine qv_val rfl (fun w' hw => exec_mv rfl (ev rfl)) ?_
                        simp only [Act.put, List.setIfInBounds_toArray, List.set_cons_succ, List.set_cons_zero]
                        refine qv_val rfl (fun w' hw => exec_mv rfl (ev rfl)) ?_
                        simp only [Act.put, List.setIfInBounds_toArray, List.set_cons_succ, List.set_cons_zero]
                        refine qv_val rfl (fun w' hw => exec_indexE (E := IntE) (b := bk2) (off := ok2) (j := y) rfl ((ev rfl).trans (by rw [HA2.out])) (ev rfl) HYN.out) ?_
                        simp only [Act.put, List.setIfInBounds_toArray, List.set_cons_succ, List.set_cons_zero]
                        refine qv_val rfl (fun w' hw => exec_ld rfl (ev rfl) (ldInt (HC2.out w' (HBY.out.trans (hw.mono HBY.out.size))))) ?_
                        simp only [Act.put, List.setIfInBounds_toArray, List.set_cons_succ, List.set_cons_zero]
                        refine qv_val (v := .bool false) rfl (fun w' hw => exec_eqInt false rfl (ev rfl) (ev rfl) HNQ.out) ?_
                        simp only [Act.put, List.setIfInBounds_toArray, List.set_cons_succ, List.set_cons_zero]
                        refine wpQuiet_nil ?_
                        intro w5 hw5
                        have HB5 := Lib.hid (HBY.out.trans (hw5.mono HBY.out.size))
                        have hly := HY.out
                        have hnl := HNL.out
                        have hxl := HX.out
                        clear hw5
                        go_wp2_with fail
                        go_roundw
                        case rel => exact ⟨y + 1, HY.out, by go_num, HB5.out⟩
                        case measure => have := HY.out; simp [intOf]; omega
                      · have HLY : Hid (decide ((y : Int) < (x : Int)) = false) := Lib.hid (decide_eq_false (by omega))
                        clear hly
                        go_upto_region 30 with fail
                        refine wp_region_lit ?_
                        refine wpList_valn rfl (exec_mv rfl (ev rfl)) ?_
                        simp only [Act.put, List.setIfInBounds_toArray, List.set_cons_succ, List.set_cons_zero]
                        refine wpList_valn rfl (exec_mv rfl (ev rfl)) ?_
                        simp only [Act.put, List.setIfInBounds_toArray, List.set_cons_succ, List.set_cons_zero]
                        refine wpList_valn (v := .bool false) rfl (exec_lss false rfl (ev rfl) (ev rfl) HLY.out) ?_
                        simp only [Act.put, List.setIfInBounds_toArray, List.set_cons_succ, List.set_cons_zero]
                        refine wpList_nil ?_
                        have HB6 := Lib.hid (HBX.out.trans (HBY.out.mono HBX.out.size))
                        have hnl := HNL.out
                        have hxl := HX.out
                        go_wp2_with fail
                        go_roundw
                        case rel => exact ⟨x + 1, HX.out, by go_num, HB6.out⟩
                        case measure => have := HX.out; simp [intOf]; omega
                  · have HLX : Hid (decide ((x : Int) < (NK.length : Int)) = false) := Lib.hid (decide_eq_false (by omega))
                    clear hlx
                    go_upto_region 27 with fail
                    refine wp_region_lit ?_
                    refine wpList_valn rfl (exec_mv rfl (ev rfl)) ?_
                    simp only [Act.put, List.setIfInBounds_toArray, List.set_cons_succ, List.set_cons_zero]
                    refine wpList_valn rfl (exec_mv rfl (ev rfl)) ?_
                    simp only [Act.put, List.setIfInBounds_toArray, List.set_cons_succ, List.set_cons_zero]
                    refine wpList_valn rfl (exec_lenE IntE rfl (ev rfl)) ?_
                    simp only [Act.put, List.setIfInBounds_toArray, List.set_cons_succ, List.set_cons_zero]
                    refine wpList_valn (v := .bool false) rfl (exec_lss false rfl (ev rfl) (ev rfl) HLX.out) ?_
                    simp only [Act.put, List.setIfInBounds_toArray, List.set_cons_succ, List.set_cons_zero]
                    refine wpList_nil ?_
                    have HPE := Lib.hid (HP4.out.below HBX.out)
                    have HBE := Lib.hid (HB4.out.trans (HBX.out.mono HB4.out.size))
                    have hlt := HJ.out
                    have hn := HNM.out
                    go_wp2_with fail
                    go_roundw
                    case rel => exact ⟨j + 1, L3, HJ.out, by go_num, HPE.out, HBE.out⟩
                    case measure => have := HJ.out; simp [intOf]; omega
            · cases t
              · have HMR : Hid (((NK.length : Int) != (((keyL L).length : Nat) : Int)) = false) := Lib.hid (by rw [HO1.out]; simp)
                go_upto_region 18 with fail
                refine wp_region_lit ?_
                refine wpList_valn rfl (exec_mv rfl (ev rfl)) ?_
                simp only [Act.put, List.setIfInBounds_toArray, List.set_cons_succ, List.set_cons_zero]
                refine wpList_valn (v := .bool false) rfl (exec_neInt false rfl (ev rfl) evk rfl) ?_
                simp only [Act.put, List.setIfInBounds_toArray, List.set_cons_succ, List.set_cons_zero]
                refine wpList_nil ?_
                go_upto_region 21 with fail
                refine wp_region_lit ?_
                refine wpList_valn rfl (exec_mv rfl (ev rfl)) ?_
                simp only [Act.put, List.setIfInBounds_toArray, List.set_cons_succ, List.set_cons_zero]
                refine wpList_valn rfl (exec_lenE IntE rfl (ev rfl)) ?_
                simp only [Act.put, List.setIfInBounds_toArray, List.set_cons_succ, List.set_cons_zero]
                refine wpList_valn rfl (exec_add rfl (ev rfl) evk HW5.out) ?_
                simp only [Act.put, List.setIfInBounds_toArray, List.set_cons_succ, List.set_cons_zero]
                refine wpList_valn rfl (exec_as rfl (ev rfl)) ?_
                simp only [Act.put, List.setIfInBounds_toArray, List.set_cons_succ, List.set_cons_zero]
                refine wpList_nil ?_
                go_upto_region 22 with fail
                refine wp_region_lit ?_
                refine wpList_valn (v := .bool true) rfl (exec_mv rfl (ev rfl)) ?_
                simp only [Act.put, List.setIfInBounds_toArray, List.set_cons_succ, List.set_cons_zero]
                refine wpList_skips 1 (v := .bool true) rfl (exec_mv rfl (ev rfl)) (by kernel_rfl) ?_
                simp only [skipAct, List.take_succ_cons, List.take_zero, List.drop_succ_cons, List.drop_zero, Act.put, List.setIfInBounds_toArray, List.set_cons_succ, List.set_cons_zero]
                refine wpList_valn (v := .bool true) rfl (exec_pt rfl (ev rfl) evk) ?_
                simp only [Act.put, List.setIfInBounds_toArray, List.set_cons_succ, List.set_cons_zero]
                refine wpList_nil ?_
                go_upto_region 23 with fail
                refine wp_region_lit ?_
                refine wpList_valn rfl (exec_mv rfl (ev rfl)) ?_
                simp only [Act.put, List.setIfInBounds_toArray, List.set_cons_succ, List.set_cons_zero]
                refine wpList_valn rfl (exec_lenE IntE rfl (ev rfl)) ?_
                simp only [Act.put, List.setIfInBounds_toArray, List.set_cons_succ, List.set_cons_zero]
                refine wpList_valn rfl (exec_as rfl (ev rfl)) ?_
                simp only [Act.put, List.setIfInBounds_toArray, List.set_cons_succ, List.set_cons_zero]
                refine wpList_nil ?_
                go_upto_region 24 with fail
                refine wp_region_lit ?_
                refine wpList_valn (v := .bool true) rfl (exec_mv rfl (ev rfl)) ?_
                simp only [Act.put, List.setIfInBounds_toArray, List.set_cons_succ, List.set_cons_zero]
                refine wpList_valn (v := .bool true) rfl (exec_mv rfl (ev rfl)) ?_
                simp only [Act.put, List.setIfInBounds_toArray, List.set_cons_succ, List.set_cons_zero]
                refine wpList_val (v := .bool false) (wanted_of rfl rfl rfl rfl) (exec_mv rfl (ev rfl)) ?_
                simp only [Act.put, List.setIfInBounds_toArray, List.set_cons_succ, List.set_cons_zero]
                refine wpList_valn (v := .bool false) rfl (exec_pt rfl (ev rfl) (ev rfl)) ?_
                simp only [Act.put, List.setIfInBounds_toArray, List.set_cons_succ, List.set_cons_zero]
                refine wpList_valn (v := .bool false) rfl (exec_mv rfl (ev rfl)) ?_
                simp only [Act.put, List.setIfInBounds_toArray, List.set_cons_succ, List.set_cons_zero]
                refine wpList_val (wanted_of rfl rfl rfl rfl) (exec_mv rfl (ev rfl)) ?_
                simp only [Act.put, List.setIfInBounds_toArray, List.set_cons_succ, List.set_cons_zero]
                refine wpList_val (wanted_of rfl rfl rfl rfl) (exec_lenE IntE rfl (ev rfl)) ?_
                simp only [Act.put, List.setIfInBounds_toArray, List.set_cons_succ, List.set_cons_zero]
                refine wpList_val (wanted_of rfl rfl rfl rfl) (exec_mv rfl (ev rfl)) ?_
                simp only [Act.put, List.setIfInBounds_toArray, List.set_cons_succ, List.set_cons_zero]
                refine wpList_val (v := .bool false) (wanted_of rfl rfl rfl rfl) (exec_neInt false rfl (ev rfl) (ev rfl) HMR.out) ?_
                simp only [Act.put, List.setIfInBounds_toArray, List.set_cons_succ, List.set_cons_zero]
                refine wpList_valn (v := .bool false) rfl (exec_pf rfl (ev rfl) (ev rfl)) ?_
                simp only [Act.put, List.setIfInBounds_toArray, List.set_cons_succ, List.set_cons_zero]
                refine wpList_valn (v := .bool false) rfl (exec_mv rfl (ev rfl)) ?_
                simp only [Act.put, List.setIfInBounds_toArray, List.set_cons_succ, List.set_cons_zero]
                refine wpList_val (wanted_of rfl rfl rfl rfl) (exec_mv rfl (ev rfl)) ?_
                simp only [Act.put, List.setIfInBounds_toArray, List.set_cons_succ, List.set_cons_zero]
                refine wpList_val (wanted_of rfl rfl rfl rfl) (exec_lenE IntE rfl (ev rfl)) ?_
                simp only [Act.put, List.setIfInBounds_toArray, List.set_cons_succ, List.set_cons_zero]
                refine wpList_val (v := .bool false) (wanted_of rfl rfl rfl rfl) (exec_eqInt false rfl (ev rfl) evk HE0.out) ?_
                simp only [Act.put, List.setIfInBounds_toArray, List.set_cons_succ, List.set_cons_zero]
                refine wpList_valn (v := .bool false) rfl (exec_pf rfl (ev rfl) (ev rfl)) ?_
                simp only [Act.put, List.setIfInBounds_toArray, List.set_cons_succ, List.set_cons_zero]
                refine wpList_valn (v := .bool false) rfl (exec_mv rfl (ev rfl)) ?_
                simp only [Act.put, List.setIfInBounds_toArray, List.set_cons_succ, List.set_cons_zero]
                refine wpList_val (wanted_of rfl rfl rfl rfl) (exec_mv rfl (ev rfl)) ?_
                simp only [Act.put, List.setIfInBounds_toArray, List.set_cons_succ, List.set_cons_zero]
                refine wpList_val (wanted_of rfl rfl rfl rfl) (exec_indexE (E := IntE) (b := bk) (off := ok) (j := 0) rfl ((ev rfl).trans (by rw [HAK.out])) evk HO3.out) ?_
                simp only [Act.put, List.setIfInBounds_toArray, List.set_cons_succ, List.set_cons_zero]
                refine wpList_val (wanted_of rfl rfl rfl rfl) (exec_ld rfl (ev rfl) (ldInt HCK.out)) ?_
                simp only [Act.put, List.setIfInBounds_toArray, List.set_cons_succ, List.set_cons_zero]
                refine wpList_val (wanted_of rfl rfl rfl rfl) (exec_mv rfl (ev rfl)) ?_
                simp only [Act.put, List.setIfInBounds_toArray, List.set_cons_succ, List.set_cons_zero]
                refine wpList_val (v := .bool false) (wanted_of rfl rfl rfl rfl) (exec_neInt false rfl (ev rfl) (ev rfl) HF0.out) ?_
                simp only [Act.put, List.setIfInBounds_toArray, List.set_cons_succ, List.set_cons_zero]
                refine wpList_valn (v := .bool false) rfl (exec_pf rfl (ev rfl) (ev rfl)) ?_
                simp only [Act.put, List.setIfInBounds_toArray, List.set_cons_succ, List.set_cons_zero]
                refine wpList_valn (v := .bool false) rfl (exec_mv rfl (ev rfl)) ?_
                simp only [Act.put, List.setIfInBounds_toArray, List.set_cons_succ, List.set_cons_zero]
                refine wpList_val (v := .bool false) (wanted_of rfl rfl rfl rfl) (exec_mv rfl (ev rfl)) ?_
                simp only [Act.put, List.setIfInBounds_toArray, List.set_cons_succ, List.set_cons_zero]
                refine wpList_skips 8 (v := .bool false) (wanted_of rfl rfl rfl rfl) (exec_mv rfl (ev rfl)) (by kernel_rfl) ?_
                simp only [skipAct, List.take_succ_cons, List.take_zero, List.drop_succ_cons, List.drop_zero, Act.put, List.setIfInBounds_toArray, List.set_cons_succ, List.set_cons_zero]
                refine wpList_val (v := .bool false) (wanted_of rfl rfl rfl rfl) (exec_pf rfl (ev rfl) evk) ?_
                simp only [Act.put, List.setIfInBounds_toArray, List.set_cons_succ, List.set_cons_zero]
                refine wpList_valn (v := .bool false) rfl (exec_pf rfl (ev rfl) (ev rfl)) ?_
                simp only [Act.put, List.setIfInBounds_toArray, List.set_cons_succ, List.set_cons_zero]
                refine wpList_nil ?_
                go_wp2_with fail
                go_loopw [17] (fun i wr => ∃ a : Nat, a ≤ NK.length ∧ i = .int .i64 a ∧ Below w4.heap.size w4 wr) (fun i _ => NK.length - (intOf i).toNat)
                case atStart => exact ⟨0, Nat.zero_le _, rfl, Below.refl _ _⟩
                case round =>
                  obtain ⟨x, hx, rfl, hbx⟩ := hrel
                  have HBX := Lib.hid hbx
                  clear hbx
                  by_cases hlx : x < NK.length
                  · have HLX : Hid (decide ((x : Int) < (NK.length : Int)) = true) := Lib.hid (decide_eq_true (by omega))
                    have HX := Lib.hid hlx
                    have HRX := Lib.hid (HRK.out.step HBX.out)
                    clear hlx
                    obtain ⟨wB, rfl⟩ : ∃ x, x = wr := ⟨_, rfl⟩
                    go_upto_region 27 with fail
                    refine wp_region_lit ?_
                    refine wpList_valn rfl (exec_mv rfl (ev rfl)) ?_
                    simp only [Act.put, List.setIfInBounds_toArray, List.set_cons_succ, List.set_cons_zero]
                    refine wpList_valn rfl (exec_mv rfl (ev rfl)) ?_
                    simp only [Act.put, List.setIfInBounds_toArray, List.set_cons_succ, List.set_cons_zero]
                    refine wpList_valn rfl (exec_lenE IntE rfl (ev rfl)) ?_
                    simp only [Act.put, List.setIfInBounds_toArray, List.set_cons_succ, List.set_cons_zero]
                    refine wpList_valn (v := .bool true) rfl (exec_lss true rfl (ev rfl) (ev rfl) HLX.out) ?_
                    simp only [Act.put, List.setIfInBounds_toArray, List.set_cons_succ, List.set_cons_zero]
                    refine wpList_nil ?_
                    go_wp2_with fail
                    go_loopw [18] (fun i wr => ∃ b : Nat, b ≤ x ∧ i = .int .i64 b ∧ Below wB.heap.size wB wr) (fun i _ => x - (intOf i).toNat)
                    case atStart => exact ⟨0, Nat.zero_le _, rfl, Below.refl _ _⟩
                    case round =>
                      obtain ⟨y, hy, rfl, hby⟩ := hrel
                      have HBY := Lib.hid hby
                      clear hby
                      by_cases hly : y < x
                      · have HLY : Hid (decide ((y : Int) < (x : Int)) = true) := Lib.hid (decide_eq_true (by omega))
                        have HY := Lib.hid hly
                        have HYN : Hid (y < NK.length) := Lib.hid (by have := HX.out; omega)
                        obtain ⟨bk1, ok1, hA1, hb1, hC1⟩ := HRX.out.int1' HX.out
                        obtain ⟨bk2, ok2, hA2, hb2, hC2⟩ := HRX.out.int1' HYN.out
                        have HA1 := Lib.hid hA1
                        have HA2 := Lib.hid hA2
                        have HC1 : Hid (∀ w', Below wB.heap.size wB w' → w'.cell? ⟨bk1, ok1 + x * IntE.n, none⟩ = some (.int .i64 (NK.getD x 0))) := Lib.hid fun w' hb => by
                          rw [hb.cell (p := ⟨bk1, ok1 + x * IntE.n, none⟩) hb1]; exact hC1
                        have HC2 : Hid (∀ w', Below wB.heap.size wB w' → w'.cell? ⟨bk2, ok2 + y * IntE.n, none⟩ = some (.int .i64 (NK.getD y 0))) := Lib.hid fun w' hb => by
                          rw [hb.cell (p := ⟨bk2, ok2 + y * IntE.n, none⟩) hb2]; exact hC2
                        have HNQ : Hid ((NK.getD x 0 == NK.getD y 0) = false) := Lib.hid (by
                          rw [beq_eq_false_iff_ne]
                          exact fun e => absurd (nodup_getD HND.out HX.out HYN.out e) (by omega))
                        clear hA1 hb1 hC1 hA2 hb2 hC2 hly
                        go_upto_region 30 with fail
                        refine wp_region_lit ?_
                        refine wpList_valn rfl (exec_mv rfl (ev rfl)) ?_
                        simp only [Act.put, List.setIfInBounds_toArray, List.set_cons_succ, List.set_cons_zero]
                        refine wpList_valn rfl (exec_mv rfl (ev rfl)) ?_
                        simp only [Act.put, List.setIfInBounds_toArray, List.set_cons_succ, List.set_cons_zero]
                        refine wpList_valn (v := .bool true) rfl (exec_lss true rfl (ev rfl) (ev rfl) HLY.out) ?_
                        simp only [Act.put, List.setIfInBounds_toArray, List.set_cons_succ, List.set_cons_zero]
                        refine wpList_nil ?_
                        go_upto_region 32 with fail
                        refine wp_region_above (B := wr.heap.size) (by kernel_rfl) ?_
                        refine qv_val rfl (fun w' hw => exec_mv rfl (ev rfl)) ?_
                        simp only [Act.put, List.setIfInBounds_toArray, List.set_cons_succ, List.set_cons_zero]
                        refine qv_val rfl (fun w' hw => exec_mv rfl (ev rfl)) ?_
                        simp only [Act.put, List.setIfInBounds_toArray, List.set_cons_succ, List.set_cons_zero]
                        refine qv_val rfl (fun w' hw => exec_indexE (E := IntE) (b := bk1) (off := ok1) (j := x) rfl ((ev rfl).trans (by rw [HA1.out])) (ev rfl) HX.out) ?_
                        simp only [Act.put, List.setIfInBounds_toArray, List.set_cons_succ, List.set_cons_zero]
                        refine qv_val rfl (fun w' hw => exec_ld rfl (ev rfl) (ldInt (HC1.out w' (HBY.out.trans (hw.mono HBY.out.size))))) ?_
                        simp only [Act.put, List.setIfInBounds_toArray, List.set_cons_succ, List.set_cons_zero]
                        refine qv_val rfl (fun w' hw => exec_mv rfl (ev rfl)) ?_
                        simp only [Act.put, List.setIfInBounds_toArray, List.set_cons_succ, List.set_cons_zero]
                        refine qv_val rfl (fun w' hw => exec_mv rfl (ev rfl)) ?_
                        simp only [Act.put, List.setIfInBounds_toArray, List.set_cons_succ, List.set_cons_zero]
                        refine qv_val rfl (fun w' hw => exec_indexE (E := IntE) (b := bk2) (off := ok2) (j := y) rfl ((ev rfl).trans (by rw [HA2.out])) (ev rfl) HYN.out) ?_
                        simp only [Act.put, List.setIfInBounds_toArray, List.set_cons_succ, List.set_cons_zero]
                        refine qv_val rfl (fun w' hw => exec_ld rfl (ev rfl) (ldInt (HC2.out w' (HBY.out.trans (hw.mono HBY.out.size))))) ?_
                        simp only [Act.put, List.setIfInBounds_toArray, List.set_cons_succ, List.set_cons_zero]
                        refine qv_val (v := .bool false) rfl (fun w' hw => exec_eqInt false rfl (ev rfl) (ev rfl) HNQ.out) ?_
                        simp only [Act.put, List.setIfInBounds_toArray, List.set_cons_succ, List.set_cons_zero]
                        refine wpQuiet_nil ?_
                        intro w5 hw5
                        have HB5 := Lib.hid (HBY.out.trans (hw5.mono HBY.out.size))
                        have hly := HY.out
                        have hnl := HNL.out
                        have hxl := HX.out
                        clear hw5
                        go_wp2_with fail
                        go_roundw
                        case rel => exact ⟨y + 1, HY.out, by go_num, HB5.out⟩
                        case measure => have := HY.out; simp [intOf]; omega
                      · have HLY : Hid (decide ((y : Int) < (x : Int)) = false) := Lib.hid (decide_eq_false (by omega))
                        clear hly
                        go_upto_region 30 with fail
                        refine wp_region_lit ?_
                        refine wpList_valn rfl (exec_mv rfl (ev rfl)) ?_
                        simp only [Act.put, List.setIfInBounds_toArray, List.set_cons_succ, List.set_cons_zero]
                        refine wpList_valn rfl (exec_mv rfl (ev rfl)) ?_
                        simp only [Act.put, List.setIfInBounds_toArray, List.set_cons_succ, List.set_cons_zero]
                        refine wpList_valn (v := .bool false) rfl (exec_lss false rfl (ev rfl) (ev rfl) HLY.out) ?_
                        simp only [Act.put, List.setIfInBounds_toArray, List.set_cons_succ, List.set_cons_zero]
                        refine wpList_nil ?_
                        have HB6 := Lib.hid (HBX.out.trans (HBY.out.mono HBX.out.size))
                        have hnl := HNL.out
                        have hxl := HX.out
                        go_wp2_with fail
                        go_roundw
                        case rel => exact ⟨x + 1, HX.out, by go_num, HB6.out⟩
                        case measure => have := HX.out; simp [intOf]; omega
                  · have HLX : Hid (decide ((x : Int) < (NK.length : Int)) = false) := Lib.hid (decide_eq_false (by omega))
                    clear hlx
                    go_upto_region 27 with fail
                    refine wp_region_lit ?_
                    refine wpList_valn rfl (exec_mv rfl (ev rfl)) ?_
                    simp only [Act.put, List.setIfInBounds_toArray, List.set_cons_succ, List.set_cons_zero]
                    refine wpList_valn rfl (exec_mv rfl (ev rfl)) ?_
                    simp only [Act.put, List.setIfInBounds_toArray, List.set_cons_succ, List.set_cons_zero]
                    refine wpList_valn rfl (exec_lenE IntE rfl (ev rfl)) ?_
                    simp only [Act.put, List.setIfInBounds_toArray, List.set_cons_succ, List.set_cons_zero]
                    refine wpList_valn (v := .bool false) rfl (exec_lss false rfl (ev rfl) (ev rfl) HLX.out) ?_
                    simp only [Act.put, List.setIfInBounds_toArray, List.set_cons_succ, List.set_cons_zero]
                    refine wpList_nil ?_
                    have HPE := Lib.hid (HP4.out.below HBX.out)
                    have HBE := Lib.hid (HB4.out.trans (HBX.out.mono HB4.out.size))
                    have hlt := HJ.out
                    have hn := HNM.out
                    go_wp2_with fail
                    go_roundw
                    case rel => exact ⟨j + 1, L3, HJ.out, by go_num, HPE.out, HBE.out⟩
                    case measure => have := HJ.out; simp [intOf]; omega
              · exact absurd HO4.out (by decide)
          · obtain ⟨e1, e2, e3⟩ := tchE_cases he
            have ht : tchW room k L = false := by
              cases hq : tchW room k L
              · rfl
              · exfalso
                unfold tchW at hq
                unfold tchE at e1
                split at e1
                · cases e1
                · rename_i hp
                  rw [if_neg hp] at hq
                  split at e1
                  · cases e1
                  · rename_i hl
                    rw [if_neg hl] at hq
                    split at e1
                    · rename_i hu
                      rw [if_pos hu] at hq
                      cases hq
                    · cases e1
            obtain ⟨g, hg⟩ : ∃ g, tchG room k L = g := ⟨_, rfl⟩
            have HV := Lib.hid (And.intro hg (And.intro ht (And.intro e1 e3)))
            have HTF : Hid (th = false) := Lib.hid (by rw [← HTH.out]; exact e2)
            rw [HTF.out]
            clear he e1 e2 e3 ht hg
            go_upto_region 16 with fail
            refine wp_region_lit ?_
            refine wpList_valn rfl (exec_mv rfl (ev rfl)) ?_
            simp only [Act.put, List.setIfInBounds_toArray, List.set_cons_succ, List.set_cons_zero]
            refine wpList_valn rfl (exec_mv rfl (ev rfl)) ?_
            simp only [Act.put, List.setIfInBounds_toArray, List.set_cons_succ, List.set_cons_zero]
            refine wpList_call rfl (exec_cl Try.call16 rfl (evc (ev rfl) (evc (ev rfl) evn))) ?_
            refine (pl_touch_v w2 HP2.out HWK.out HV.out.1 HV.out.2.1 HV.out.2.2.1 HV.out.2.2.2).mono ?_
            rintro e w3 ⟨rfl, hp3, ht3⟩
            have HP3 := Lib.hid hp3
            have HM3 := Lib.hid (made_turnP HM2.out ht3)
            have HB3 := Lib.hid (Turn.below HB2.out ht3 HB2.out.size)
            clear hp3 ht3
            refine ⟨_, rfl, ?_⟩
            simp only [Act.put, List.setIfInBounds_toArray, List.set_cons_succ, List.set_cons_zero]
            refine wpList_valn rfl (exec_mv rfl (ev rfl)) ?_
            simp only [Act.put, List.setIfInBounds_toArray, List.set_cons_succ, List.set_cons_zero]
            refine wpList_valn rfl (exec_ext rfl (ev rfl) rfl) ?_
            simp only [Act.put, List.setIfInBounds_toArray, List.set_cons_succ, List.set_cons_zero]
            refine wpList_valn rfl (exec_ext rfl (ev rfl) rfl) ?_
            simp only [Act.put, List.setIfInBounds_toArray, List.set_cons_succ, List.set_cons_zero]
            refine wpList_valn rfl (exec_ext rfl (ev rfl) rfl) ?_
            simp only [Act.put, List.setIfInBounds_toArray, List.set_cons_succ, List.set_cons_zero]
            refine wpList_valn rfl (exec_as rfl (ev rfl)) ?_
            simp only [Act.put, List.setIfInBounds_toArray, List.set_cons_succ, List.set_cons_zero]
            refine wpList_valn rfl (exec_as rfl (ev rfl)) ?_
            simp only [Act.put, List.setIfInBounds_toArray, List.set_cons_succ, List.set_cons_zero]
            refine wpList_valn rfl (exec_as rfl (ev rfl)) ?_
            simp only [Act.put, List.setIfInBounds_toArray, List.set_cons_succ, List.set_cons_zero]
            refine wpList_nil ?_
            go_upto_region 17 with fail
            refine wp_region_lit ?_
            refine wpList_valn rfl (exec_mv rfl (ev rfl)) ?_
            simp only [Act.put, List.setIfInBounds_toArray, List.set_cons_succ, List.set_cons_zero]
            refine wpList_call rfl (exec_cl Try.call13 rfl (evc (ev rfl) evn)) ?_
            refine (pl_keys w3 HP3.out).mono ?_
            rintro e w4 ⟨v4, rfl, hm4, hb4⟩
            obtain ⟨A4, c4, hv4, hc41, hc42⟩ := hm4.form
            subst hv4
            have HR4 := Lib.hid hm4.rd
            have HQ4 := Lib.hid (HM3.out.rd.step hb4)
            have HP4 := Lib.hid (HP3.out.below hb4)
            have HB4 := Lib.hid (HB3.out.trans (hb4.mono HB3.out.size))
            clear hm4 hb4 hc41 hc42
            refine ⟨_, rfl, ?_⟩
            simp only [Act.put, List.setIfInBounds_toArray, List.set_cons_succ, List.set_cons_zero]
            refine wpList_valn rfl (exec_as rfl (ev rfl)) ?_
            simp only [Act.put, List.setIfInBounds_toArray, List.set_cons_succ, List.set_cons_zero]
            refine wpList_nil ?_
            go_upto_region 18 with fail
            refine wp_region_lit ?_
            refine wpList_valn rfl (exec_mv rfl (ev rfl)) ?_
            simp only [Act.put, List.setIfInBounds_toArray, List.set_cons_succ, List.set_cons_zero]
            refine wpList_valn (v := .bool true) rfl (exec_neInt true rfl (ev rfl) evk rfl) ?_
            simp only [Act.put, List.setIfInBounds_toArray, List.set_cons_succ, List.set_cons_zero]
            refine wpList_nil ?_
            go_upto_region 19 with fail
            refine wp_region_lit ?_
            refine wpList_valn rfl (exec_mv rfl (ev rfl)) ?_
            simp only [Act.put, List.setIfInBounds_toArray, List.set_cons_succ, List.set_cons_zero]
            refine wpList_valn (v := .bool false) rfl (exec_neInt false rfl (ev rfl) evk rfl) ?_
            simp only [Act.put, List.setIfInBounds_toArray, List.set_cons_succ, List.set_cons_zero]
            refine wpList_valn (v := .bool false) rfl (exec_mv rfl (ev rfl)) ?_
            simp only [Act.put, List.setIfInBounds_toArray, List.set_cons_succ, List.set_cons_zero]
            refine wpList_val (v := .bool false) (wanted_of rfl rfl rfl rfl) (exec_mv rfl (ev rfl)) ?_
            simp only [Act.put, List.setIfInBounds_toArray, List.set_cons_succ, List.set_cons_zero]
            refine wpList_valn (v := .bool false) rfl (exec_pf rfl (ev rfl) (ev rfl)) ?_
            simp only [Act.put, List.setIfInBounds_toArray, List.set_cons_succ, List.set_cons_zero]
            refine wpList_valn (v := .bool false) rfl (exec_mv rfl (ev rfl)) ?_
            simp only [Act.put, List.setIfInBounds_toArray, List.set_cons_succ, List.set_cons_zero]
            refine wpList_val (wanted_of rfl rfl rfl rfl) (exec_mv rfl (ev rfl)) ?_
            simp only [Act.put, List.setIfInBounds_toArray, List.set_cons_succ, List.set_cons_zero]
            refine wpList_val (wanted_of rfl rfl rfl rfl) (exec_mv rfl (ev rfl)) ?_
            simp only [Act.put, List.setIfInBounds_toArray, List.set_cons_succ, List.set_cons_zero]
            refine wpList_call (wanted_of rfl rfl rfl rfl) (exec_cl Try.call12 rfl (evc (ev rfl) (evc (ev rfl) evn))) ?_
            refine (ints_any _ _ _ _ _ _ w4.heap.size _ _ w4 HQ4.out HR4.out (Nat.le_refl _) (by have := HLK.out; unfold maxLen; omega)).mono ?_
            rintro e w5 ⟨rfl, hb5⟩
            have HP5 := Lib.hid (HP4.out.below hb5)
            have HB5 := Lib.hid (HB4.out.trans (hb5.mono HB4.out.size))
            clear hb5
            rw [show sameI (keyL L) (keyL L) = true from by unfold sameI; simp]
            refine ⟨_, rfl, ?_⟩
            simp only [Act.put, List.setIfInBounds_toArray, List.set_cons_succ, List.set_cons_zero]
            refine wpList_val (v := .bool false) (wanted_of rfl rfl rfl rfl) (exec_not true rfl (ev rfl)) ?_
            simp only [Act.put, List.setIfInBounds_toArray, List.set_cons_succ, List.set_cons_zero]
            refine wpList_valn (v := .bool false) rfl (exec_pf rfl (ev rfl) (ev rfl)) ?_
            simp only [Act.put, List.setIfInBounds_toArray, List.set_cons_succ, List.set_cons_zero]
            refine wpList_nil ?_
            have hlt := HJ.out
            have hn := HNM.out
            go_wp2_with fail
            go_roundw
            case rel => exact ⟨j + 1, L, HJ.out, by go_num, HP5.out, HB5.out⟩
            case measure => have := HJ.out; simp [intOf]; omega
        · have HD2 := Lib.hid hd2
          clear hd2
          go_upto_region 11 with fail
          refine wp_region_lit ?_
          refine wpList_valn rfl (exec_mv rfl (ev rfl)) ?_
          simp only [Act.put, List.setIfInBounds_toArray, List.set_cons_succ, List.set_cons_zero]
          refine wpList_valn rfl (exec_mv rfl (ev rfl)) ?_
          simp only [Act.put, List.setIfInBounds_toArray, List.set_cons_succ, List.set_cons_zero]
          refine wpList_valn rfl (exec_indexE (E := Act15E) (b := b) (off := off) (j := j) rfl ((ev rfl).trans (by rw [HA.out])) (ev rfl) HJ.out) ?_
          simp only [Act.put, List.setIfInBounds_toArray, List.set_cons_succ, List.set_cons_zero]
          refine wpList_valn rfl (exec_faddr rfl (ev rfl) faAo0) ?_
          simp only [Act.put, List.setIfInBounds_toArray, List.set_cons_succ, List.set_cons_zero]
          refine wpList_valn rfl (exec_ld rfl (ev rfl) (ldInt (HC.out w2 HB2.out 0 _ rfl))) ?_
          simp only [Act.put, List.setIfInBounds_toArray, List.set_cons_succ, List.set_cons_zero]
          refine wpList_valn (v := .bool true) rfl (exec_eqInt true rfl (ev rfl) evk HD2.out) ?_
          simp only [Act.put, List.setIfInBounds_toArray, List.set_cons_succ, List.set_cons_zero]
          refine wpList_nil ?_
          go_upto_region 12 with fail
          refine wp_region_lit ?_
          refine wpList_valn rfl (exec_mv rfl (ev rfl)) ?_
          simp only [Act.put, List.setIfInBounds_toArray, List.set_cons_succ, List.set_cons_zero]
          refine wpList_valn rfl (exec_mv rfl (ev rfl)) ?_
          simp only [Act.put, List.setIfInBounds_toArray, List.set_cons_succ, List.set_cons_zero]
          refine wpList_call rfl (exec_cl Try.call18 rfl (evc (ev rfl) (evc (ev rfl) evn))) ?_
          refine (pl_has w2 HP2.out HWK.out).mono ?_
          rintro e w3 ⟨rfl, rfl⟩
          refine ⟨_, rfl, ?_⟩
          simp only [Act.put, List.setIfInBounds_toArray, List.set_cons_succ, List.set_cons_zero]
          refine wpList_valn rfl (exec_as rfl (ev rfl)) ?_
          simp only [Act.put, List.setIfInBounds_toArray, List.set_cons_succ, List.set_cons_zero]
          refine wpList_nil ?_
          have HFH := Lib.hid (fnd_has (k := k) (L := L))
          have HNB : Hid ((hasK k L != hasK k L) = false) := Lib.hid (by simp)
          have HDH := Lib.hid (drp_has (k := k) HP2.out.ok.one)
          go_upto_region 13 with fail
          refine wp_region_lit ?_
          refine wpList_valn rfl (exec_mv rfl (ev rfl)) ?_
          simp only [Act.put, List.setIfInBounds_toArray, List.set_cons_succ, List.set_cons_zero]
          refine wpList_valn rfl (exec_mv rfl (ev rfl)) ?_
          simp only [Act.put, List.setIfInBounds_toArray, List.set_cons_succ, List.set_cons_zero]
          refine wpList_call rfl (exec_cl Try.call20 rfl (evc (ev rfl) (evc (ev rfl) evn))) ?_
          refine (pl_drop w2 HP2.out HWK.out).mono ?_
          rintro e w3 ⟨rfl, hp3, ht3⟩
          have HP3 := Lib.hid hp3
          have HB3 := Lib.hid (Turn.below HB2.out ht3 HB2.out.size)
          clear hp3 ht3
          refine ⟨_, rfl, ?_⟩
          simp only [Act.put, List.setIfInBounds_toArray, List.set_cons_succ, List.set_cons_zero]
          refine wpList_valn rfl (exec_eqInt (hasK k L) rfl (ev rfl) evk HFH.out) ?_
          simp only [Act.put, List.setIfInBounds_toArray, List.set_cons_succ, List.set_cons_zero]
          refine wpList_valn rfl (exec_mv rfl (ev rfl)) ?_
          simp only [Act.put, List.setIfInBounds_toArray, List.set_cons_succ, List.set_cons_zero]
          refine wpList_valn (v := .bool false) rfl (exec_neBo false rfl (ev rfl) (ev rfl) HNB.out) ?_
          simp only [Act.put, List.setIfInBounds_toArray, List.set_cons_succ, List.set_cons_zero]
          refine wpList_valn (v := .bool false) rfl (exec_mv rfl (ev rfl)) ?_
          simp only [Act.put, List.setIfInBounds_toArray, List.set_cons_succ, List.set_cons_zero]
          refine wpList_val (wanted_of rfl rfl rfl rfl) (exec_mv rfl (ev rfl)) ?_
          simp only [Act.put, List.setIfInBounds_toArray, List.set_cons_succ, List.set_cons_zero]
          refine wpList_val (wanted_of rfl rfl rfl rfl) (exec_mv rfl (ev rfl)) ?_
          simp only [Act.put, List.setIfInBounds_toArray, List.set_cons_succ, List.set_cons_zero]
          refine wpList_call (wanted_of rfl rfl rfl rfl) (exec_cl Try.call18 rfl (evc (ev rfl) (evc (ev rfl) evn))) ?_
          refine (pl_has_v w3 HP3.out HWK.out (t := false) HDH.out).mono ?_
          rintro e w4 ⟨rfl, rfl⟩
          refine ⟨_, rfl, ?_⟩
          simp only [Act.put, List.setIfInBounds_toArray, List.set_cons_succ, List.set_cons_zero]
          refine wpList_valn (v := .bool false) rfl (exec_pf rfl (ev rfl) (ev rfl)) ?_
          simp only [Act.put, List.setIfInBounds_toArray, List.set_cons_succ, List.set_cons_zero]
          refine wpList_nil ?_
          have hlt := HJ.out
          have hn := HNM.out
          go_wp2_with fail
          go_roundw
          case rel => exact ⟨j + 1, _, HJ.out, by go_num, HP3.out, HB3.out⟩
          case measure => have := HJ.out; simp [intOf]; omega
      · have HD1 := Lib.hid hd1
        clear hd1
        go_upto_region 9 with fail
        refine wp_region_lit ?_
        refine wpList_valn rfl (exec_mv rfl (ev rfl)) ?_
        simp only [Act.put, List.setIfInBounds_toArray, List.set_cons_succ, List.set_cons_zero]
        refine wpList_valn rfl (exec_mv rfl (ev rfl)) ?_
        simp only [Act.put, List.setIfInBounds_toArray, List.set_cons_succ, List.set_cons_zero]
        refine wpList_valn rfl (exec_indexE (E := Act15E) (b := b) (off := off) (j := j) rfl ((ev rfl).trans (by rw [HA.out])) (ev rfl) HJ.out) ?_
        simp only [Act.put, List.setIfInBounds_toArray, List.set_cons_succ, List.set_cons_zero]
        refine wpList_valn rfl (exec_faddr rfl (ev rfl) faAo0) ?_
        simp only [Act.put, List.setIfInBounds_toArray, List.set_cons_succ, List.set_cons_zero]
        refine wpList_valn rfl (exec_ld rfl (ev rfl) (ldInt (HC.out w2 HB2.out 0 _ rfl))) ?_
        simp only [Act.put, List.setIfInBounds_toArray, List.set_cons_succ, List.set_cons_zero]
        refine wpList_valn (v := .bool true) rfl (exec_eqInt true rfl (ev rfl) evk HD1.out) ?_
        simp only [Act.put, List.setIfInBounds_toArray, List.set_cons_succ, List.set_cons_zero]
        refine wpList_nil ?_
        go_upto_region 10 with fail
        refine wp_region_lit ?_
        refine wpList_valn rfl (exec_mv rfl (ev rfl)) ?_
        simp only [Act.put, List.setIfInBounds_toArray, List.set_cons_succ, List.set_cons_zero]
        refine wpList_valn rfl (exec_mv rfl (ev rfl)) ?_
        simp only [Act.put, List.setIfInBounds_toArray, List.set_cons_succ, List.set_cons_zero]
        refine wpList_valn rfl (exec_mv rfl (ev rfl)) ?_
        simp only [Act.put, List.setIfInBounds_toArray, List.set_cons_succ, List.set_cons_zero]
        refine wpList_valn rfl (exec_mv rfl (ev rfl)) ?_
        simp only [Act.put, List.setIfInBounds_toArray, List.set_cons_succ, List.set_cons_zero]
        refine wpList_valn rfl (exec_indexE (E := Act15E) (b := b) (off := off) (j := j) rfl ((ev rfl).trans (by rw [HA.out])) (ev rfl) HJ.out) ?_
        simp only [Act.put, List.setIfInBounds_toArray, List.set_cons_succ, List.set_cons_zero]
        refine wpList_valn rfl (exec_faddr rfl (ev rfl) faAo3) ?_
        simp only [Act.put, List.setIfInBounds_toArray, List.set_cons_succ, List.set_cons_zero]
        refine wpList_valn rfl (exec_ld rfl (ev rfl) (ldBo (HC.out w2 HB2.out 3 _ rfl))) ?_
        simp only [Act.put, List.setIfInBounds_toArray, List.set_cons_succ, List.set_cons_zero]
        refine wpList_call rfl (exec_cl Try.call17 rfl (evc (ev rfl) (evc (ev rfl) (evc (ev rfl) evn)))) ?_
        refine (pl_pin w2 HP2.out HWK.out a.Is).mono ?_
        rintro e w3 ⟨rfl, hp3, ht3⟩
        have HP3 := Lib.hid hp3
        have HB3 := Lib.hid (Turn.below HB2.out ht3 HB2.out.size)
        clear hp3 ht3
        refine ⟨_, rfl, ?_⟩
        simp only [Act.put, List.setIfInBounds_toArray, List.set_cons_succ, List.set_cons_zero]
        refine wpList_nil ?_
        have hlt := HJ.out
        have hn := HNM.out
        go_wp2_with fail
        go_roundw
        case rel => exact ⟨j + 1, _, HJ.out, by go_num, HP3.out, HB3.out⟩
        case measure => have := HJ.out; simp [intOf]; omega
    · by_cases hjn : j < n
      · have HL1 : Hid (decide ((j : Int) < (n : Int)) = true) := Lib.hid (decide_eq_true (by omega))
        have HL2 : Hid (decide ((j : Int) < (150 : Int)) = false) := Lib.hid (decide_eq_false (by omega))
        clear hlt hjn
        go_upto_region 5 with fail
        refine wp_region_lit ?_
        refine wpList_valn rfl (exec_mv rfl (ev rfl)) ?_
        simp only [Act.put, List.setIfInBounds_toArray, List.set_cons_succ, List.set_cons_zero]
        refine wpList_valn rfl (exec_mv rfl (ev rfl)) ?_
        simp only [Act.put, List.setIfInBounds_toArray, List.set_cons_succ, List.set_cons_zero]
        refine wpList_valn rfl (exec_lenE Act15E rfl (ev rfl)) ?_
        simp only [Act.put, List.setIfInBounds_toArray, List.set_cons_succ, List.set_cons_zero]
        refine wpList_valn (v := .bool true) rfl (exec_lss true rfl (ev rfl) (ev rfl) HL1.out) ?_
        simp only [Act.put, List.setIfInBounds_toArray, List.set_cons_succ, List.set_cons_zero]
        refine wpList_valn (v := .bool true) rfl (exec_mv rfl (ev rfl)) ?_
        simp only [Act.put, List.setIfInBounds_toArray, List.set_cons_succ, List.set_cons_zero]
        refine wpList_val (wanted_of rfl rfl rfl rfl) (exec_mv rfl (ev rfl)) ?_
        simp only [Act.put, List.setIfInBounds_toArray, List.set_cons_succ, List.set_cons_zero]
        refine wpList_val (v := .bool false) (wanted_of rfl rfl rfl rfl) (exec_lss false rfl (ev rfl) evk HL2.out) ?_
        simp only [Act.put, List.setIfInBounds_toArray, List.set_cons_succ, List.set_cons_zero]
        refine wpList_valn (v := .bool false) rfl (exec_pt rfl (ev rfl) (ev rfl)) ?_
        simp only [Act.put, List.setIfInBounds_toArray, List.set_cons_succ, List.set_cons_zero]
        refine wpList_nil ?_
        go_wp2_with fail
        refine (l_lives wr).mono ?_
        rintro e w8 ⟨rfl, hb8⟩
        go_wp2_with fail
        go_ret
        exact ⟨rfl, HB.out.trans (hb8.mono HB.out.size)⟩
      · have HL1 : Hid (decide ((j : Int) < (n : Int)) = false) := Lib.hid (decide_eq_false (by omega))
        clear hlt hjn
        go_upto_region 5 with fail
        refine wp_region_lit ?_
        refine wpList_valn rfl (exec_mv rfl (ev rfl)) ?_
        simp only [Act.put, List.setIfInBounds_toArray, List.set_cons_succ, List.set_cons_zero]
        refine wpList_valn rfl (exec_mv rfl (ev rfl)) ?_
        simp only [Act.put, List.setIfInBounds_toArray, List.set_cons_succ, List.set_cons_zero]
        refine wpList_valn rfl (exec_lenE Act15E rfl (ev rfl)) ?_
        simp only [Act.put, List.setIfInBounds_toArray, List.set_cons_succ, List.set_cons_zero]
        refine wpList_valn (v := .bool false) rfl (exec_lss false rfl (ev rfl) (ev rfl) HL1.out) ?_
        simp only [Act.put, List.setIfInBounds_toArray, List.set_cons_succ, List.set_cons_zero]
        refine wpList_skips 2 (v := .bool false) rfl (exec_mv rfl (ev rfl)) (by kernel_rfl) ?_
        simp only [skipAct, List.take_succ_cons, List.take_zero, List.drop_succ_cons, List.drop_zero, Act.put, List.setIfInBounds_toArray, List.set_cons_succ, List.set_cons_zero]
        refine wpList_valn (v := .bool false) rfl (exec_pf rfl (ev rfl) evk) ?_
        simp only [Act.put, List.setIfInBounds_toArray, List.set_cons_succ, List.set_cons_zero]
        refine wpList_nil ?_
        go_wp2_with fail
        refine (l_lives wr).mono ?_
        rintro e w8 ⟨rfl, hb8⟩
        go_wp2_with fail
        go_ret
        exact ⟨rfl, HB.out.trans (hb8.mono HB.out.size)⟩
end Go.Proofs.Ytmnabdojlekjcaa
