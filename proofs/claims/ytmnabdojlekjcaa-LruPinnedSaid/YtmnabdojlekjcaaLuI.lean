/-
  LruLast: what was touched last, as many as there is room for.
-/
import Derived.Test.YtmnabdojlekjcaaLuG
import Derived.Test.YtmnabdojlekjcaaLuE
import Derived.Test.YtmnabdojlekjcaaLuN
import Derived.Test.YtmnabdojlekjcaaCvI
import Derived.Test.YtmnabdojlekjcaaSkq
namespace Go.Proofs.Ytmnabdojlekjcaa
open Go.RowKit
set_option linter.unusedVariables false
set_option linter.unusedSimpArgs false
set_option maxRecDepth 100000

section
variable {ρ : Operand → Value} {o : Oper} {x y : Operand} {w : World}
theorem exec_minN {n m c : Nat} (ho : o.op = .call { callee := .builtin .min, args := #[x, y], argTypes := #[3, 3] }) (hx : ρ x = .int .i64 (n : Int)) (hy : ρ y = .int .i64 (m : Int)) (h : min n m = c) : (execOp ρ o).run Try.prog w = .ok (.value (.int .i64 (c : Int))) w := by
  subst h
  simp [execOp, ho, resolve, invoke, builtin, hx, hy, go_sem, Result.andThen]
  omega
theorem exec_remT {t r : TypeId} {a b c : Int} (ho : o.op = .binOp .rem t x y r) (hx : ρ x = .int .i64 a) (hy : ρ y = .int .i64 b) (h0 : b ≠ 0) (h : a.tmod b = c) : (execOp ρ o).run Try.prog w = .ok (.value (.int .i64 c)) w := exec_rem ho hx hy h0 h
theorem RdE.int1' {w : World} {N n : Nat} {A : Option Addr} {l : List Int} (h : RdE IntE w N A n l) {j : Nat} (hj : j < n) : ∃ b off, A = some ⟨b, off, none⟩ ∧ b < N ∧ w.cell? ⟨b, off + j * IntE.n, none⟩ = some (.int .i64 (l.getD j 0)) := by
  obtain ⟨b, off, e, hb, hc⟩ := h.2 j hj
  exact ⟨b, off, e, hb, hc 0 _ rfl⟩
theorem pl_touch_u {B p room : Nat} {L : List Ky} {k : Int} (w : World) (h : PL w B p room L) (hw : (Lit.int .i64 k).wf = true) (he : tchE room k L = 0) :
    Calls Try.prog 16 #[.pointer (some ⟨p, 0, none⟩), .int .i64 k] w fun e w' => ∃ (g : Int) (t : Bool), e = .returned (.tuple #[.int .i64 g, .bool t, .int .i64 0]) ∧ PL w' B p room (tchS room k L) ∧ TurnP B w w' :=
  (pl_touch w h hw).mono fun e w' hh => ⟨_, _, by rw [← he]; exact hh.1, hh.2⟩
end
set_option maxHeartbeats 4000000 in
theorem wlruLast (r : Nat) (hr256 : r < 256) (A : Option Addr) (n c : Nat) (l : List Int) (w : World) (hr : RdE IntE w w.heap.size A n l) (hn : n ≤ c) (hc : c ≤ maxLen) (hwf : ∀ k, k < n → (Lit.int .i64 (l.getD k 0)).wf = true) :
    Calls Try.prog 4 #[.int .u8 (r : Int), .slice A n c] w fun e w' => e = .returned (.bool true) ∧ Below w.heap.size w w' := by
  unfold maxLen at hc
  obtain ⟨m, hm⟩ : ∃ m, min n 200 = m := ⟨_, rfl⟩
  obtain ⟨room, hroom⟩ : ∃ room, 1 + r % 64 = room := ⟨_, rfl⟩
  have hmn : m ≤ n := by omega
  obtain ⟨l', hl'⟩ : ∃ l', l.take m = l' := ⟨_, rfl⟩
  have hlen : l'.length = m := by rw [← hl', List.length_take, hr.1]; omega
  have hget : ∀ j, j < m → l'.getD j 0 = l.getD j 0 := fun j hj => by rw [← hl', List.getD, List.getElem?_take_of_lt hj]; rfl
  have HRD : Hid (∀ w', Below w.heap.size w w' → RdE IntE w' w.heap.size A m l') := Lib.hid fun w' hb => by rw [← hl']; exact (hr.below hb).headE hmn
  have HWF : Hid (∀ j, j < m → (Lit.int .i64 (l'.getD j 0)).wf = true) := Lib.hid fun j hj => by rw [hget j hj]; exact hwf j (by omega)
  have HTK : Hid (∀ j, j < m → dK (l'.getD j 0 :: (l'.take j).reverse) = dK (l'.take (j + 1)).reverse) := Lib.hid fun j hj => by
    have e0 : l'.getD j 0 = l'[j] := by simp [List.getD, hlen, hj]
    rw [List.take_succ_eq_append_getElem (by omega), List.reverse_append, e0]
    rfl
  have HDR : Hid (∀ j, j < m → (l'.drop j).reverse = (l'.drop (j + 1)).reverse ++ [l'.getD j 0]) := Lib.hid fun j hj => by
    have e0 : l'.getD j 0 = l'[j]'(by omega) := by simp [List.getD, hlen, hj]
    rw [List.drop_eq_getElem_cons (by omega), List.reverse_cons, e0]
  have HLN := Lib.hid hlen
  have HM2 : Hid (m ≤ 200) := Lib.hid (by omega)
  have HMC : Hid (m ≤ c) := Lib.hid (by omega)
  have HMM := Lib.hid hm
  have HRO : Hid (1 ≤ room ∧ room ≤ 64) := Lib.hid (by omega)
  have HCV : Hid (IntKind.i64.wrap (r : Int) = (r : Int)) := Lib.hid (IntWalk.i64_in _ ⟨by omega, by omega⟩)
  have HTM : Hid ((r : Int).tmod 64 = ((r % 64 : Nat) : Int)) := Lib.hid rfl
  have HAD : Hid (IntKind.i64.wrap (1 + ((r % 64 : Nat) : Int)) = (room : Int)) := Lib.hid (by rw [IntWalk.i64_in _ ⟨by omega, by omega⟩]; omega)
  clear hr hn hc hwf hm hroom hmn hl' hlen hget hr256
  go_enter Try.func4, Try.ntmps4
  go_upto_region 1 with fail
  refine wp_region_lit ?_
  refine wpList_valn rfl (exec_mv rfl (ev rfl)) ?_
  simp only [Act.put, List.setIfInBounds_toArray, List.set_cons_succ, List.set_cons_zero]
  refine wpList_valn rfl (exec_cv8 rfl (ev rfl) HCV.out) ?_
  simp only [Act.put, List.setIfInBounds_toArray, List.set_cons_succ, List.set_cons_zero]
  refine wpList_valn rfl (exec_remT rfl (ev rfl) evk (by decide) HTM.out) ?_
  simp only [Act.put, List.setIfInBounds_toArray, List.set_cons_succ, List.set_cons_zero]
  refine wpList_valn rfl (exec_add rfl evk (ev rfl) HAD.out) ?_
  simp only [Act.put, List.setIfInBounds_toArray, List.set_cons_succ, List.set_cons_zero]
  refine wpList_valn rfl (exec_as rfl (ev rfl)) ?_
  simp only [Act.put, List.setIfInBounds_toArray, List.set_cons_succ, List.set_cons_zero]
  refine wpList_nil ?_
  go_wp2_with fail
  refine (pl_new room w HRO.out.1 HRO.out.2).mono ?_
  rintro e w1 ⟨p, rfl, hp1, hb1⟩
  have HP1 := Lib.hid hp1
  have HB1 := Lib.hid hb1
  clear hp1 hb1
  go_upto_region 5 with fail
  refine wp_region_lit ?_
  refine wpList_valn rfl (exec_mv rfl (ev rfl)) ?_
  simp only [Act.put, List.setIfInBounds_toArray, List.set_cons_succ, List.set_cons_zero]
  refine wpList_valn rfl (exec_mv rfl (ev rfl)) ?_
  simp only [Act.put, List.setIfInBounds_toArray, List.set_cons_succ, List.set_cons_zero]
  refine wpList_valn rfl (exec_lenE IntE rfl (ev rfl)) ?_
  simp only [Act.put, List.setIfInBounds_toArray, List.set_cons_succ, List.set_cons_zero]
  refine wpList_valn rfl (exec_minN rfl (ev rfl) evk HMM.out) ?_
  simp only [Act.put, List.setIfInBounds_toArray, List.set_cons_succ, List.set_cons_zero]
  refine wpList_valn rfl (exec_headE (E := IntE) rfl (ev rfl) (ev rfl) HMC.out) ?_
  simp only [Act.put, List.setIfInBounds_toArray, List.set_cons_succ, List.set_cons_zero]
  refine wpList_valn rfl (exec_as rfl (ev rfl)) ?_
  simp only [Act.put, List.setIfInBounds_toArray, List.set_cons_succ, List.set_cons_zero]
  refine wpList_nil ?_
  go_wp2_with fail
  go_loopw [8] (fun i wr => ∃ (j : Nat) (L : List Ky), j ≤ m ∧ i = .int .i64 j ∧ PL wr w.heap.size p room L ∧ Hid (AllU L ∧ keyL L = (dK (l'.take j).reverse).take room) ∧ Below w.heap.size w wr) (fun i _ => m - (intOf i).toNat)
  case atStart => exact ⟨0, [], Nat.zero_le _, rfl, HP1.out, Lib.hid ⟨(fun x hx => by simp at hx), by simp [dK, keyL]⟩, HB1.out⟩
  case round =>
    obtain ⟨j, L, hj, rfl, hP, hK, hbl⟩ := hrel
    have HP := Lib.hid hP
    have HB := Lib.hid hbl
    clear hP hbl
    by_cases hlt : j < m
    · have HLS : Hid (decide ((j : Int) < (m : Int)) = true) := Lib.hid (decide_eq_true (by omega))
      obtain ⟨b, off, hA, _, hc⟩ := (HRD.out wr HB.out).int1' hlt
      have HE := Lib.hid (allU_tch (k := l'.getD j 0) hK.out.1 HP.out.ok HRO.out.1 hK.out.2)
      have HU := Lib.hid (hK.out.1.tch (room := room) (k := l'.getD j 0))
      have HA := Lib.hid hA
      have HC := Lib.hid hc
      have HJ := Lib.hid hlt
      clear hA hc hlt
      go_upto_region 7 with fail
      refine wp_region_lit ?_
      refine wpList_valn rfl (exec_mv rfl (ev rfl)) ?_
      simp only [Act.put, List.setIfInBounds_toArray, List.set_cons_succ, List.set_cons_zero]
      refine wpList_valn rfl (exec_mv rfl (ev rfl)) ?_
      simp only [Act.put, List.setIfInBounds_toArray, List.set_cons_succ, List.set_cons_zero]
      refine wpList_valn rfl (exec_lenE IntE rfl (ev rfl)) ?_
      simp only [Act.put, List.setIfInBounds_toArray, List.set_cons_succ, List.set_cons_zero]
      refine wpList_valn (v := .bool true) rfl (exec_lss true rfl (ev rfl) (ev rfl) HLS.out) ?_
      simp only [Act.put, List.setIfInBounds_toArray, List.set_cons_succ, List.set_cons_zero]
      refine wpList_nil ?_
      go_upto_region 9 with fail
      refine wp_region_lit ?_
      refine wpList_valn rfl (exec_mv rfl (ev rfl)) ?_
      simp only [Act.put, List.setIfInBounds_toArray, List.set_cons_succ, List.set_cons_zero]
      refine wpList_valn rfl (exec_mv rfl (ev rfl)) ?_
      simp only [Act.put, List.setIfInBounds_toArray, List.set_cons_succ, List.set_cons_zero]
      refine wpList_valn rfl (exec_mv rfl (ev rfl)) ?_
      simp only [Act.put, List.setIfInBounds_toArray, List.set_cons_succ, List.set_cons_zero]
      refine wpList_valn rfl (exec_indexE (E := IntE) (b := b) (off := off) (j := j) rfl ((ev rfl).trans (by rw [HA.out])) (ev rfl) HJ.out) ?_
      simp only [Act.put, List.setIfInBounds_toArray, List.set_cons_succ, List.set_cons_zero]
      refine wpList_valn rfl (exec_ld rfl (ev rfl) (ldInt HC.out)) ?_
      simp only [Act.put, List.setIfInBounds_toArray, List.set_cons_succ, List.set_cons_zero]
      refine wpList_call rfl (exec_cl Try.call16 rfl (evc (ev rfl) (evc (ev rfl) evn))) ?_
      refine (pl_touch_u wr HP.out (HWF.out j HJ.out) HE.out.1).mono ?_
      rintro e w3 ⟨g3, t3, rfl, hp3, ht3⟩
      have HP3 := Lib.hid hp3
      have HB3 := Lib.hid (Turn.below HB.out ht3 HB.out.size)
      clear hp3 ht3
      refine ⟨_, rfl, ?_⟩
      simp only [Act.put, List.setIfInBounds_toArray, List.set_cons_succ, List.set_cons_zero]
      refine wpList_valn rfl (exec_mv rfl (ev rfl)) ?_
      simp only [Act.put, List.setIfInBounds_toArray, List.set_cons_succ, List.set_cons_zero]
      refine wpList_valn rfl (exec_ext rfl (ev rfl) rfl) ?_
      simp only [Act.put, List.setIfInBounds_toArray, List.set_cons_succ, List.set_cons_zero]
      refine wpList_valn rfl (exec_ext rfl (ev rfl) rfl) ?_
      simp only [Act.put, List.setIfInBounds_toArray, List.set_cons_succ, List.set_cons_zero]
      refine wpList_valn rfl (exec_ext rfl (ev rfl) rfl) ?_
      simp only [Act.put, List.setIfInBounds_toArray, List.set_cons_succ, List.set_cons_zero]
      refine wpList_valn rfl (exec_as rfl (ev rfl)) ?_
      simp only [Act.put, List.setIfInBounds_toArray, List.set_cons_succ, List.set_cons_zero]
      refine wpList_valn rfl (exec_as rfl (ev rfl)) ?_
      simp only [Act.put, List.setIfInBounds_toArray, List.set_cons_succ, List.set_cons_zero]
      refine wpList_valn rfl (exec_as rfl (ev rfl)) ?_
      simp only [Act.put, List.setIfInBounds_toArray, List.set_cons_succ, List.set_cons_zero]
      refine wpList_nil ?_
      have hlt := HJ.out
      have h200 := HM2.out
      go_wp2_with fail
      go_roundw
      case rel => exact ⟨j + 1, _, HJ.out, by go_num, HP3.out, Lib.hid ⟨HU.out, by rw [← HTK.out j HJ.out]; exact HE.out.2⟩, HB3.out⟩
      case measure => have := HJ.out; simp [intOf]; omega
    · have HLS : Hid (decide ((j : Int) < (m : Int)) = false) := Lib.hid (decide_eq_false (by omega))
      have hjm : j = m := by omega
      have HKL : Hid (keyL L = (dK l'.reverse).take room) := Lib.hid (by have := hK.out.2; rwa [hjm, ← HLN.out, List.take_length] at this)
      have HW1 : Hid (IntKind.i64.wrap ((m : Int) - 1) = (m : Int) - 1) := Lib.hid (by have := HM2.out; rw [IntWalk.i64_in _ ⟨by omega, by omega⟩])
      clear hlt hjm hK
      obtain ⟨wA, rfl⟩ : ∃ x, x = wr := ⟨_, rfl⟩
      go_upto_region 7 with fail
      refine wp_region_lit ?_
      refine wpList_valn rfl (exec_mv rfl (ev rfl)) ?_
      simp only [Act.put, List.setIfInBounds_toArray, List.set_cons_succ, List.set_cons_zero]
      refine wpList_valn rfl (exec_mv rfl (ev rfl)) ?_
      simp only [Act.put, List.setIfInBounds_toArray, List.set_cons_succ, List.set_cons_zero]
      refine wpList_valn rfl (exec_lenE IntE rfl (ev rfl)) ?_
      simp only [Act.put, List.setIfInBounds_toArray, List.set_cons_succ, List.set_cons_zero]
      refine wpList_valn (v := .bool false) rfl (exec_lss false rfl (ev rfl) (ev rfl) HLS.out) ?_
      simp only [Act.put, List.setIfInBounds_toArray, List.set_cons_succ, List.set_cons_zero]
      refine wpList_nil ?_
      go_upto_region 13 with fail
      refine wp_region_lit ?_
      refine wpList_valn rfl (exec_mv rfl (ev rfl)) ?_
      simp only [Act.put, List.setIfInBounds_toArray, List.set_cons_succ, List.set_cons_zero]
      refine wpList_valn rfl (exec_lenE IntE rfl (ev rfl)) ?_
      simp only [Act.put, List.setIfInBounds_toArray, List.set_cons_succ, List.set_cons_zero]
      refine wpList_valn rfl (exec_sub rfl (ev rfl) evk HW1.out) ?_
      simp only [Act.put, List.setIfInBounds_toArray, List.set_cons_succ, List.set_cons_zero]
      refine wpList_valn rfl (exec_as rfl (ev rfl)) ?_
      simp only [Act.put, List.setIfInBounds_toArray, List.set_cons_succ, List.set_cons_zero]
      refine wpList_nil ?_
      go_wp2_with fail
      go_loopw [12, 13] (fun v i wr => ∃ s : Nat, s ≤ m ∧ i = .int .i64 ((s : Int) - 1) ∧ MadeE IntE wr w.heap.size v (dK (l'.drop s).reverse) ∧ Hid ((dK (l'.drop s).reverse).length ≤ room) ∧ PL wr w.heap.size p room L ∧ Below w.heap.size w wr) (fun _ i _ => (intOf i + 1).toNat)
      case atStart => exact ⟨m, Nat.le_refl _, rfl, by rw [← HLN.out, List.drop_length]; exact MadeE.nil _ _, Lib.hid (by rw [← HLN.out, List.drop_length]; exact Nat.zero_le _), HP.out, HB.out⟩
      case round =>
        obtain ⟨s, hs, rfl, hm, hle, hP, hbl⟩ := hrel
        obtain ⟨W, hW⟩ : ∃ W, dK (l'.drop s).reverse = W := ⟨_, rfl⟩
        rw [hW] at hm hle
        obtain ⟨AW, cW, rfl, hcW, hcM⟩ := hm.form
        have HWD := Lib.hid hW
        have HMW := Lib.hid hm
        have HPW := Lib.hid hP
        have HBW := Lib.hid hbl
        clear hW hm hP hbl hcW hcM
        by_cases hgo : 0 < s ∧ W.length < room
        · obtain ⟨h0, hlr⟩ := hgo
          obtain ⟨s, rfl⟩ : ∃ t, s = t + 1 := ⟨s - 1, by omega⟩
          have HJ1 : Hid (((s + 1 : Nat) : Int) - 1 = (s : Int)) := Lib.hid (by omega)
          rw [HJ1.out]
          have HG : Hid (decide ((0 : Int) ≤ (s : Int)) = true) := Lib.hid (decide_eq_true (by omega))
          have HLR : Hid (decide ((W.length : Int) < (room : Int)) = true) := Lib.hid (decide_eq_true (by omega))
          have HJ : Hid (s < m) := Lib.hid hs
          have HLX := Lib.hid hlr
          obtain ⟨b, off, hA, hbN, hc⟩ := (HRD.out wr HBW.out).int1' HJ.out
          obtain ⟨x, hx⟩ : ∃ x, l'.getD s 0 = x := ⟨_, rfl⟩
          rw [hx] at hc
          have HX := Lib.hid hx
          have HA := Lib.hid hA
          have HBN := Lib.hid hbN
          have HC : Hid (∀ w', Below wr.heap.size wr w' → w'.cell? ⟨b, off + s * IntE.n, none⟩ = some (.int .i64 x)) := Lib.hid fun w' hb => by
            rw [hb.cell (p := ⟨b, off + s * IntE.n, none⟩) (World.block_lt_of_cell? wr _ hc)]; exact hc
          clear h0 hlr hs hA hbN hc hx hle
          obtain ⟨wB, rfl⟩ : ∃ x, x = wr := ⟨_, rfl⟩
          go_upto_region 14 with fail
          refine wp_region_lit ?_
          refine wpList_valn rfl (exec_mv rfl (ev rfl)) ?_
          simp only [Act.put, List.setIfInBounds_toArray, List.set_cons_succ, List.set_cons_zero]
          refine wpList_valn (v := .bool true) rfl (exec_geq true rfl (ev rfl) evk HG.out) ?_
          simp only [Act.put, List.setIfInBounds_toArray, List.set_cons_succ, List.set_cons_zero]
          refine wpList_valn (v := .bool true) rfl (exec_mv rfl (ev rfl)) ?_
          simp only [Act.put, List.setIfInBounds_toArray, List.set_cons_succ, List.set_cons_zero]
          refine wpList_val (wanted_of rfl rfl rfl rfl) (exec_mv rfl (ev rfl)) ?_
          simp only [Act.put, List.setIfInBounds_toArray, List.set_cons_succ, List.set_cons_zero]
          refine wpList_val (wanted_of rfl rfl rfl rfl) (exec_lenE IntE rfl (ev rfl)) ?_
          simp only [Act.put, List.setIfInBounds_toArray, List.set_cons_succ, List.set_cons_zero]
          refine wpList_val (wanted_of rfl rfl rfl rfl) (exec_mv rfl (ev rfl)) ?_
          simp only [Act.put, List.setIfInBounds_toArray, List.set_cons_succ, List.set_cons_zero]
          refine wpList_val (v := .bool true) (wanted_of rfl rfl rfl rfl) (exec_lss true rfl (ev rfl) (ev rfl) HLR.out) ?_
          simp only [Act.put, List.setIfInBounds_toArray, List.set_cons_succ, List.set_cons_zero]
          refine wpList_valn (v := .bool true) rfl (exec_pt rfl (ev rfl) (ev rfl)) ?_
          simp only [Act.put, List.setIfInBounds_toArray, List.set_cons_succ, List.set_cons_zero]
          refine wpList_nil ?_
          go_wp2_with fail
          go_loopw [14, 15] (fun t i wr => ∃ k : Nat, k ≤ W.length ∧ i = .int .i64 k ∧ t = .bool (decide (x ∈ W.take k)) ∧ Below wB.heap.size wB wr) (fun _ i _ => W.length - (intOf i).toNat)
          case atStart => exact ⟨0, Nat.zero_le _, rfl, by simp, Below.refl _ _⟩
          case round =>
            obtain ⟨k, hk, rfl, rfl, hbl⟩ := hrel
            have HBR := Lib.hid hbl
            clear hbl
            by_cases hlt : k < W.length
            · have HLS : Hid (decide ((k : Int) < (W.length : Int)) = true) := Lib.hid (decide_eq_true (by omega))
              obtain ⟨bk, ok, hAk, hbk, hck⟩ := (HMW.out.rd.below HBR.out).int1' hlt
              have HAK := Lib.hid hAk
              have HCK : Hid (∀ w', Below wr.heap.size wr w' → w'.cell? ⟨bk, ok + k * IntE.n, none⟩ = some (.int .i64 (W.getD k 0))) := Lib.hid fun w' hb => by
                rw [hb.cell (p := ⟨bk, ok + k * IntE.n, none⟩) (World.block_lt_of_cell? wr _ hck)]; exact hck
              have HKL2 := Lib.hid hlt
              have HTK2 : Hid (W.take (k + 1) = W.take k ++ [W.getD k 0]) := Lib.hid (take_getD hlt)
              clear hAk hbk hck hlt
              go_upto_region 18 with fail
              refine wp_region_lit ?_
              refine wpList_valn rfl (exec_mv rfl (ev rfl)) ?_
              simp only [Act.put, List.setIfInBounds_toArray, List.set_cons_succ, List.set_cons_zero]
              refine wpList_valn rfl (exec_mv rfl (ev rfl)) ?_
              simp only [Act.put, List.setIfInBounds_toArray, List.set_cons_succ, List.set_cons_zero]
              refine wpList_valn rfl (exec_lenE IntE rfl (ev rfl)) ?_
              simp only [Act.put, List.setIfInBounds_toArray, List.set_cons_succ, List.set_cons_zero]
              refine wpList_valn (v := .bool true) rfl (exec_lss true rfl (ev rfl) (ev rfl) HLS.out) ?_
              simp only [Act.put, List.setIfInBounds_toArray, List.set_cons_succ, List.set_cons_zero]
              refine wpList_nil ?_
              by_cases ht : x ∈ W.take k
              · have HT := Lib.hid ht
                rw [decide_eq_true ht]
                clear ht
                go_upto_region 20 with fail
                refine wp_region_above (B := wr.heap.size) (by kernel_rfl) ?_
                refine qv_val (v := .bool true) rfl (fun w' hw => exec_mv rfl (ev rfl)) ?_
                simp only [Act.put, List.setIfInBounds_toArray, List.set_cons_succ, List.set_cons_zero]
                refine qv_vals 9 (v := .bool true) rfl (fun w' hw => exec_mv rfl (ev rfl)) (by kernel_rfl) ?_
                simp only [skipAct, List.take_succ_cons, List.take_zero, List.drop_succ_cons, List.drop_zero, Act.put, List.setIfInBounds_toArray, List.set_cons_succ, List.set_cons_zero]
                refine qv_val (v := .bool true) rfl (fun w' hw => exec_pt rfl (ev rfl) evk) ?_
                simp only [Act.put, List.setIfInBounds_toArray, List.set_cons_succ, List.set_cons_zero]
                refine qv_val (v := .bool true) rfl (fun w' hw => exec_as rfl (ev rfl)) ?_
                simp only [Act.put, List.setIfInBounds_toArray, List.set_cons_succ, List.set_cons_zero]
                refine wpQuiet_nil ?_
                intro w2 hw2
                have HB2 := Lib.hid (HBR.out.trans (hw2.mono HBR.out.size))
                have hlt := HKL2.out
                have hlx := HLX.out
                have hro := HRO.out.2
                clear hw2
                go_wp2_with fail
                go_roundw
                case rel => exact ⟨k + 1, HKL2.out, by go_num, by rw [HTK2.out]; congr 1; exact (decide_eq_true (List.mem_append.2 (.inl HT.out))).symm, HB2.out⟩
                case measure => have := HKL2.out; simp [intOf]; omega
              · have HT := Lib.hid ht
                rw [decide_eq_false ht]
                clear ht
                by_cases he : W.getD k 0 = x
                · have HEQ : Hid ((W.getD k 0 == x) = true) := Lib.hid (by simpa using he)
                  have HE2 := Lib.hid he
                  clear he
                  go_upto_region 20 with fail
                  refine wp_region_above (B := wr.heap.size) (by kernel_rfl) ?_
                  refine qv_val (v := .bool false) rfl (fun w' hw => exec_mv rfl (ev rfl)) ?_
                  simp only [Act.put, List.setIfInBounds_toArray, List.set_cons_succ, List.set_cons_zero]
                  refine qv_val (v := .bool false) rfl (fun w' hw => exec_mv rfl (ev rfl)) ?_
                  simp only [Act.put, List.setIfInBounds_toArray, List.set_cons_succ, List.set_cons_zero]
                  refine qv_val (wanted_of rfl rfl rfl rfl) (fun w' hw => exec_mv rfl (ev rfl)) ?_
                  simp only [Act.put, List.setIfInBounds_toArray, List.set_cons_succ, List.set_cons_zero]
                  refine qv_val (wanted_of rfl rfl rfl rfl) (fun w' hw => exec_mv rfl (ev rfl)) ?_
                  simp only [Act.put, List.setIfInBounds_toArray, List.set_cons_succ, List.set_cons_zero]
                  refine qv_val (wanted_of rfl rfl rfl rfl) (fun w' hw => exec_indexE (E := IntE) (b := bk) (off := ok) (j := k) rfl ((ev rfl).trans (by rw [HAK.out])) (ev rfl) HKL2.out) ?_
                  simp only [Act.put, List.setIfInBounds_toArray, List.set_cons_succ, List.set_cons_zero]
                  refine qv_val (wanted_of rfl rfl rfl rfl) (fun w' hw => exec_ld rfl (ev rfl) (ldInt (HCK.out w' hw))) ?_
                  simp only [Act.put, List.setIfInBounds_toArray, List.set_cons_succ, List.set_cons_zero]
                  refine qv_val (wanted_of rfl rfl rfl rfl) (fun w' hw => exec_mv rfl (ev rfl)) ?_
                  simp only [Act.put, List.setIfInBounds_toArray, List.set_cons_succ, List.set_cons_zero]
                  refine qv_val (wanted_of rfl rfl rfl rfl) (fun w' hw => exec_mv rfl (ev rfl)) ?_
                  simp only [Act.put, List.setIfInBounds_toArray, List.set_cons_succ, List.set_cons_zero]
                  refine qv_val (wanted_of rfl rfl rfl rfl) (fun w' hw => exec_indexE (E := IntE) (b := b) (off := off) (j := s) rfl ((ev rfl).trans (by rw [HA.out])) (ev rfl) HJ.out) ?_
                  simp only [Act.put, List.setIfInBounds_toArray, List.set_cons_succ, List.set_cons_zero]
                  refine qv_val (wanted_of rfl rfl rfl rfl) (fun w' hw => exec_ld rfl (ev rfl) (ldInt (HC.out w' (HBR.out.trans (hw.mono HBR.out.size))))) ?_
                  simp only [Act.put, List.setIfInBounds_toArray, List.set_cons_succ, List.set_cons_zero]
                  refine qv_val (v := .bool true) (wanted_of rfl rfl rfl rfl) (fun w' hw => exec_eqInt true rfl (ev rfl) (ev rfl) HEQ.out) ?_
                  simp only [Act.put, List.setIfInBounds_toArray, List.set_cons_succ, List.set_cons_zero]
                  refine qv_val (v := .bool true) rfl (fun w' hw => exec_pf rfl (ev rfl) (ev rfl)) ?_
                  simp only [Act.put, List.setIfInBounds_toArray, List.set_cons_succ, List.set_cons_zero]
                  refine qv_val (v := .bool true) rfl (fun w' hw => exec_as rfl (ev rfl)) ?_
                  simp only [Act.put, List.setIfInBounds_toArray, List.set_cons_succ, List.set_cons_zero]
                  refine wpQuiet_nil ?_
                  intro w2 hw2
                  have HB2 := Lib.hid (HBR.out.trans (hw2.mono HBR.out.size))
                  have hlt := HKL2.out
                  have hlx := HLX.out
                  have hro := HRO.out.2
                  clear hw2
                  go_wp2_with fail
                  go_roundw
                  case rel => exact ⟨k + 1, HKL2.out, by go_num, by rw [HTK2.out]; congr 1; exact (decide_eq_true (List.mem_append.2 (.inr (by rw [HE2.out]; simp)))).symm, HB2.out⟩
                  case measure => have := HKL2.out; simp [intOf]; omega
                · have HEQ : Hid ((W.getD k 0 == x) = false) := Lib.hid (by simpa using he)
                  have HE2 := Lib.hid he
                  clear he
                  go_upto_region 20 with fail
                  refine wp_region_above (B := wr.heap.size) (by kernel_rfl) ?_
                  refine qv_val (v := .bool false) rfl (fun w' hw => exec_mv rfl (ev rfl)) ?_
                  simp only [Act.put, List.setIfInBounds_toArray, List.set_cons_succ, List.set_cons_zero]
                  refine qv_val (v := .bool false) rfl (fun w' hw => exec_mv rfl (ev rfl)) ?_
                  simp only [Act.put, List.setIfInBounds_toArray, List.set_cons_succ, List.set_cons_zero]
                  refine qv_val (wanted_of rfl rfl rfl rfl) (fun w' hw => exec_mv rfl (ev rfl)) ?_
                  simp only [Act.put, List.setIfInBounds_toArray, List.set_cons_succ, List.set_cons_zero]
                  refine qv_val (wanted_of rfl rfl rfl rfl) (fun w' hw => exec_mv rfl (ev rfl)) ?_
                  simp only [Act.put, List.setIfInBounds_toArray, List.set_cons_succ, List.set_cons_zero]
                  refine qv_val (wanted_of rfl rfl rfl rfl) (fun w' hw => exec_indexE (E := IntE) (b := bk) (off := ok) (j := k) rfl ((ev rfl).trans (by rw [HAK.out])) (ev rfl) HKL2.out) ?_
                  simp only [Act.put, List.setIfInBounds_toArray, List.set_cons_succ, List.set_cons_zero]
                  refine qv_val (wanted_of rfl rfl rfl rfl) (fun w' hw => exec_ld rfl (ev rfl) (ldInt (HCK.out w' hw))) ?_
                  simp only [Act.put, List.setIfInBounds_toArray, List.set_cons_succ, List.set_cons_zero]
                  refine qv_val (wanted_of rfl rfl rfl rfl) (fun w' hw => exec_mv rfl (ev rfl)) ?_
                  simp only [Act.put, List.setIfInBounds_toArray, List.set_cons_succ, List.set_cons_zero]
                  refine qv_val (wanted_of rfl rfl rfl rfl) (fun w' hw => exec_mv rfl (ev rfl)) ?_
                  simp only [Act.put, List.setIfInBounds_toArray, List.set_cons_succ, List.set_cons_zero]
                  refine qv_val (wanted_of rfl rfl rfl rfl) (fun w' hw => exec_indexE (E := IntE) (b := b) (off := off) (j := s) rfl ((ev rfl).trans (by rw [HA.out])) (ev rfl) HJ.out) ?_
                  simp only [Act.put, List.setIfInBounds_toArray, List.set_cons_succ, List.set_cons_zero]
                  refine qv_val (wanted_of rfl rfl rfl rfl) (fun w' hw => exec_ld rfl (ev rfl) (ldInt (HC.out w' (HBR.out.trans (hw.mono HBR.out.size))))) ?_
                  simp only [Act.put, List.setIfInBounds_toArray, List.set_cons_succ, List.set_cons_zero]
                  refine qv_val (v := .bool false) (wanted_of rfl rfl rfl rfl) (fun w' hw => exec_eqInt false rfl (ev rfl) (ev rfl) HEQ.out) ?_
                  simp only [Act.put, List.setIfInBounds_toArray, List.set_cons_succ, List.set_cons_zero]
                  refine qv_val (v := .bool false) rfl (fun w' hw => exec_pf rfl (ev rfl) (ev rfl)) ?_
                  simp only [Act.put, List.setIfInBounds_toArray, List.set_cons_succ, List.set_cons_zero]
                  refine qv_val (v := .bool false) rfl (fun w' hw => exec_as rfl (ev rfl)) ?_
                  simp only [Act.put, List.setIfInBounds_toArray, List.set_cons_succ, List.set_cons_zero]
                  refine wpQuiet_nil ?_
                  intro w2 hw2
                  have HB2 := Lib.hid (HBR.out.trans (hw2.mono HBR.out.size))
                  have hlt := HKL2.out
                  have hlx := HLX.out
                  have hro := HRO.out.2
                  clear hw2
                  go_wp2_with fail
                  go_roundw
                  case rel => exact ⟨k + 1, HKL2.out, by go_num, by rw [HTK2.out]; congr 1; exact (decide_eq_false (fun h => by rcases List.mem_append.1 h with h | h; exact HT.out h; simp at h; exact HE2.out h.symm)).symm, HB2.out⟩
                  case measure => have := HKL2.out; simp [intOf]; omega
            · have HLS : Hid (decide ((k : Int) < (W.length : Int)) = false) := Lib.hid (decide_eq_false (by omega))
              have HTK2 : Hid (W.take k = W) := Lib.hid (List.take_of_length_le (by omega))
              clear hlt
              rw [HTK2.out]
              go_upto_region 18 with fail
              refine wp_region_lit ?_
              refine wpList_valn rfl (exec_mv rfl (ev rfl)) ?_
              simp only [Act.put, List.setIfInBounds_toArray, List.set_cons_succ, List.set_cons_zero]
              refine wpList_valn rfl (exec_mv rfl (ev rfl)) ?_
              simp only [Act.put, List.setIfInBounds_toArray, List.set_cons_succ, List.set_cons_zero]
              refine wpList_valn rfl (exec_lenE IntE rfl (ev rfl)) ?_
              simp only [Act.put, List.setIfInBounds_toArray, List.set_cons_succ, List.set_cons_zero]
              refine wpList_valn (v := .bool false) rfl (exec_lss false rfl (ev rfl) (ev rfl) HLS.out) ?_
              simp only [Act.put, List.setIfInBounds_toArray, List.set_cons_succ, List.set_cons_zero]
              refine wpList_nil ?_
              have HW0 : Hid (IntKind.i64.wrap ((s : Int) - 1) = (s : Int) - 1) := Lib.hid (by have := HJ.out; have := HM2.out; rw [IntWalk.i64_in _ ⟨by omega, by omega⟩])
              have HDS : Hid ((l'.drop s).reverse = (l'.drop (s + 1)).reverse ++ [x]) := Lib.hid (by have := HDR.out s HJ.out; rwa [HX.out] at this)
              have HPR := Lib.hid (HPW.out.below HBR.out)
              have HMR := Lib.hid (HMW.out.below HBR.out)
              have HBA := Lib.hid (HBW.out.trans (HBR.out.mono HBW.out.size))
              by_cases ht : x ∈ W
              · have HT := Lib.hid ht
                have HNW : Hid (dK (l'.drop s).reverse = W) := Lib.hid (by rw [HDS.out, dK_snoc, if_pos (mem_dK.1 (by rw [HWD.out]; exact ht)), HWD.out])
                rw [decide_eq_true ht]
                clear ht
                go_upto_region 15 with fail
                refine wp_region_lit ?_
                refine wpList_valn rfl (exec_mv rfl (ev rfl)) ?_
                simp only [Act.put, List.setIfInBounds_toArray, List.set_cons_succ, List.set_cons_zero]
                refine wpList_valn rfl (exec_sub rfl (ev rfl) evk HW0.out) ?_
                simp only [Act.put, List.setIfInBounds_toArray, List.set_cons_succ, List.set_cons_zero]
                refine wpList_valn rfl (exec_as rfl (ev rfl)) ?_
                simp only [Act.put, List.setIfInBounds_toArray, List.set_cons_succ, List.set_cons_zero]
                refine wpList_nil ?_
                go_wp2_with fail
                go_roundw
                case rel => exact ⟨s, Nat.le_of_lt HJ.out, rfl, by rw [HNW.out]; exact HMR.out, Lib.hid (by rw [HNW.out]; exact Nat.le_of_lt HLX.out), HPR.out, HBA.out⟩
                case measure => simp [intOf]
              · have HT := Lib.hid ht
                have HNW : Hid (dK (l'.drop s).reverse = W ++ [x]) := Lib.hid (by rw [HDS.out, dK_snoc, if_neg (fun e => ht (by rw [← HWD.out]; exact mem_dK.2 e)), HWD.out])
                rw [decide_eq_false ht]
                clear ht
                go_upto_region 22 with fail
                refine wp_region_lit ?_
                refine wpList_valn rfl (exec_mv rfl (ev rfl)) ?_
                simp only [Act.put, List.setIfInBounds_toArray, List.set_cons_succ, List.set_cons_zero]
                refine wpList_valn rfl (exec_mv rfl (ev rfl)) ?_
                simp only [Act.put, List.setIfInBounds_toArray, List.set_cons_succ, List.set_cons_zero]
                refine wpList_valn rfl (exec_mv rfl (ev rfl)) ?_
                simp only [Act.put, List.setIfInBounds_toArray, List.set_cons_succ, List.set_cons_zero]
                refine wpList_valn rfl (exec_indexE (E := IntE) (b := b) (off := off) (j := s) rfl ((ev rfl).trans (by rw [HA.out])) (ev rfl) HJ.out) ?_
                simp only [Act.put, List.setIfInBounds_toArray, List.set_cons_succ, List.set_cons_zero]
                refine wpList_valn rfl (exec_ld rfl (ev rfl) (ldInt (HC.out wr HBR.out))) ?_
                simp only [Act.put, List.setIfInBounds_toArray, List.set_cons_succ, List.set_cons_zero]
                refine wpList_valn rfl (exec_mk1E (E := IntE) (a := x) rfl (ev rfl) rfl (by decide)) ?_
                simp only [Act.put, List.setIfInBounds_toArray, List.set_cons_succ, List.set_cons_zero]
                refine wpList_appE IntE rfl _ _ rfl w.heap.size (wr.heap.size + 1) 1 1 _ W [x] (some ⟨wr.heap.size, 0, none⟩) (ev rfl) (ev rfl) (HMR.out.below ((Below.refl _ wr).alloc (Nat.le_refl _) _)) (rdE_new wr _ _ rfl) (by rw [World.size_alloc]; exact Nat.le_succ_of_le HBA.out.size) (by have := HLX.out; have := HRO.out.2; omega) ?_
                intro v' w4 hm4 hg4
                simp only [Act.put, List.setIfInBounds_toArray, List.set_cons_succ, List.set_cons_zero]
                refine wpList_valn rfl (exec_as rfl (ev rfl)) ?_
                simp only [Act.put, List.setIfInBounds_toArray, List.set_cons_succ, List.set_cons_zero]
                refine wpList_nil ?_
                have HM4 := Lib.hid hm4
                have HB4a : Hid (Below w.heap.size wr w4) := Lib.hid (((Below.refl w.heap.size wr).alloc HBA.out.size _).grown hg4 (by have := HBA.out.size; simp; omega) fun j hj => HMR.out.lt_own j hj)
                have HB4 := Lib.hid (HBA.out.trans HB4a.out)
                have HP4 : Hid (PL w4 w.heap.size p room L) := Lib.hid (HPR.out.keep fun b' o ho hp => by
                  have h1 := ho
                  rw [← Below.heap_alloc wr (.cells #[.int .i64 x] 3) b' (blk_lt ho)] at h1
                  refine (hg4.block b' (blk_lt h1) fun e => ?_).trans h1
                  rcases HMR.out.2 with ⟨e2, _⟩ | ⟨g, cap, cur, e2, _, hgg, _⟩
                  · rw [e2] at e; simp [Value.ownBlock] at e
                  · rw [e2] at e
                    simp [Value.ownBlock] at e
                    subst e
                    rw [hgg] at ho
                    cases ho
                    exact absurd hp (by show ¬ (3 = 52 ∨ 3 = 49); decide))
                clear hm4 hg4
                go_upto_region 15 with fail
                refine wp_region_lit ?_
                refine wpList_valn rfl (exec_mv rfl (ev rfl)) ?_
                simp only [Act.put, List.setIfInBounds_toArray, List.set_cons_succ, List.set_cons_zero]
                refine wpList_valn rfl (exec_sub rfl (ev rfl) evk HW0.out) ?_
                simp only [Act.put, List.setIfInBounds_toArray, List.set_cons_succ, List.set_cons_zero]
                refine wpList_valn rfl (exec_as rfl (ev rfl)) ?_
                simp only [Act.put, List.setIfInBounds_toArray, List.set_cons_succ, List.set_cons_zero]
                refine wpList_nil ?_
                go_wp2_with fail
                go_roundw
                case rel => exact ⟨s, Nat.le_of_lt HJ.out, rfl, by rw [HNW.out]; exact HM4.out, Lib.hid (by rw [HNW.out]; have := HLX.out; simp; omega), HP4.out, HB4.out⟩
                case measure => simp [intOf]
        · have HKW : Hid (keyL L = W) := Lib.hid (by
            rw [HKL.out]
            rcases Nat.eq_zero_or_pos s with h0 | h0
            · subst h0
              have e := HWD.out
              rw [List.drop_zero] at e
              rw [e, List.take_of_length_le hle.out]
            · have hlen : W.length = room := by have := hle.out; omega
              refine take_prefix ?_ hlen
              have e : l'.reverse = (l'.drop s).reverse ++ (l'.take s).reverse := by rw [← List.reverse_append, List.take_append_drop]
              rw [e, ← HWD.out]
              exact dK_prefix _ _)
          have HN3 : Hid (W.length ≤ 64) := Lib.hid (by have := hle.out; have := HRO.out.2; omega)
          by_cases h0 : 0 < s
          · have HG : Hid (decide ((0 : Int) ≤ (s : Int) - 1) = true) := Lib.hid (decide_eq_true (by omega))
            have HLR : Hid (decide ((W.length : Int) < (room : Int)) = false) := Lib.hid (decide_eq_false (by omega))
            clear hgo h0
            go_upto_region 14 with fail
            refine wp_region_lit ?_
            refine wpList_valn rfl (exec_mv rfl (ev rfl)) ?_
            simp only [Act.put, List.setIfInBounds_toArray, List.set_cons_succ, List.set_cons_zero]
            refine wpList_valn (v := .bool true) rfl (exec_geq true rfl (ev rfl) evk HG.out) ?_
            simp only [Act.put, List.setIfInBounds_toArray, List.set_cons_succ, List.set_cons_zero]
            refine wpList_valn (v := .bool true) rfl (exec_mv rfl (ev rfl)) ?_
            simp only [Act.put, List.setIfInBounds_toArray, List.set_cons_succ, List.set_cons_zero]
            refine wpList_val (wanted_of rfl rfl rfl rfl) (exec_mv rfl (ev rfl)) ?_
            simp only [Act.put, List.setIfInBounds_toArray, List.set_cons_succ, List.set_cons_zero]
            refine wpList_val (wanted_of rfl rfl rfl rfl) (exec_lenE IntE rfl (ev rfl)) ?_
            simp only [Act.put, List.setIfInBounds_toArray, List.set_cons_succ, List.set_cons_zero]
            refine wpList_val (wanted_of rfl rfl rfl rfl) (exec_mv rfl (ev rfl)) ?_
            simp only [Act.put, List.setIfInBounds_toArray, List.set_cons_succ, List.set_cons_zero]
            refine wpList_val (v := .bool false) (wanted_of rfl rfl rfl rfl) (exec_lss false rfl (ev rfl) (ev rfl) HLR.out) ?_
            simp only [Act.put, List.setIfInBounds_toArray, List.set_cons_succ, List.set_cons_zero]
            refine wpList_valn (v := .bool false) rfl (exec_pt rfl (ev rfl) (ev rfl)) ?_
            simp only [Act.put, List.setIfInBounds_toArray, List.set_cons_succ, List.set_cons_zero]
            refine wpList_nil ?_
            go_wp2_with fail
            refine (pl_keys wr HPW.out).mono ?_
            rintro e w5 ⟨v5, rfl, hm5, hb5⟩
            obtain ⟨A5, c5, rfl, hc51, hc52⟩ := hm5.form
            have HR5 := Lib.hid hm5.rd
            have HW5 := Lib.hid (HMW.out.rd.step hb5)
            have HB5 := Lib.hid (HBW.out.trans (hb5.mono HBW.out.size))
            clear hm5 hb5 hc51 hc52
            go_wp2_with fail
            refine (ints_any _ _ _ _ _ _ w5.heap.size _ _ w5 HR5.out HW5.out (Nat.le_refl _) (by rw [HKW.out]; have := HN3.out; unfold maxLen; omega)).mono ?_
            rintro e w6 ⟨rfl, hb6⟩
            have HB6 := Lib.hid (HB5.out.trans (hb6.mono HB5.out.size))
            clear hb6
            rw [HKW.out, show sameI W W = true from by unfold sameI; simp]
            go_wp2_with fail
            refine (l_lives w6).mono ?_
            rintro e w7 ⟨rfl, hb7⟩
            go_wp2_with fail
            go_ret
            exact ⟨rfl, HB6.out.trans (hb7.mono HB6.out.size)⟩
          · have HG : Hid (decide ((0 : Int) ≤ (s : Int) - 1) = false) := Lib.hid (decide_eq_false (by omega))
            clear hgo h0
            go_upto_region 14 with fail
            refine wp_region_lit ?_
            refine wpList_valn rfl (exec_mv rfl (ev rfl)) ?_
            simp only [Act.put, List.setIfInBounds_toArray, List.set_cons_succ, List.set_cons_zero]
            refine wpList_valn (v := .bool false) rfl (exec_geq false rfl (ev rfl) evk HG.out) ?_
            simp only [Act.put, List.setIfInBounds_toArray, List.set_cons_succ, List.set_cons_zero]
            refine wpList_skips 4 (v := .bool false) rfl (exec_mv rfl (ev rfl)) (by kernel_rfl) ?_
            simp only [skipAct, List.take_succ_cons, List.take_zero, List.drop_succ_cons, List.drop_zero, Act.put, List.setIfInBounds_toArray, List.set_cons_succ, List.set_cons_zero]
            refine wpList_valn (v := .bool false) rfl (exec_pf rfl (ev rfl) evk) ?_
            simp only [Act.put, List.setIfInBounds_toArray, List.set_cons_succ, List.set_cons_zero]
            refine wpList_nil ?_
            go_wp2_with fail
            refine (pl_keys wr HPW.out).mono ?_
            rintro e w5 ⟨v5, rfl, hm5, hb5⟩
            obtain ⟨A5, c5, rfl, hc51, hc52⟩ := hm5.form
            have HR5 := Lib.hid hm5.rd
            have HW5 := Lib.hid (HMW.out.rd.step hb5)
            have HB5 := Lib.hid (HBW.out.trans (hb5.mono HBW.out.size))
            clear hm5 hb5 hc51 hc52
            go_wp2_with fail
            refine (ints_any _ _ _ _ _ _ w5.heap.size _ _ w5 HR5.out HW5.out (Nat.le_refl _) (by rw [HKW.out]; have := HN3.out; unfold maxLen; omega)).mono ?_
            rintro e w6 ⟨rfl, hb6⟩
            have HB6 := Lib.hid (HB5.out.trans (hb6.mono HB5.out.size))
            clear hb6
            rw [HKW.out, show sameI W W = true from by unfold sameI; simp]
            go_wp2_with fail
            refine (l_lives w6).mono ?_
            rintro e w7 ⟨rfl, hb7⟩
            go_wp2_with fail
            go_ret
            exact ⟨rfl, HB6.out.trans (hb7.mono HB6.out.size)⟩
end Go.Proofs.Ytmnabdojlekjcaa
