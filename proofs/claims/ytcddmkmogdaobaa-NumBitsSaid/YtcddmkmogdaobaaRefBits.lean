/-
  The document's Bits over whatever list and width: the same bytes as num.Bits, by a row of bits.
-/
import Derived.Test.YtcddmkmogdaobaaBits
import Derived.Laws.AppendOwn
namespace Go.Proofs.Ytcddmkmogdaobaa
open Go.RowKit
set_option linter.unusedVariables false

theorem rbits_width (A : Option Addr) (n c : Nat) (s : Int) (w : World) (h : ¬ (1 ≤ s ∧ s ≤ 8)) :
    Calls Try.prog 17 #[.slice A n c, .int .i64 s] w fun e w' => e = .returned (.tuple #[.slice none 0 0, .int .i64 2]) ∧ w = w' := by
  by_cases h1 : s < 1
  · clear h
    go_enter Try.func17, Try.ntmps17
    go_wp2
    go_ret2
    exact ⟨rfl, rfl⟩
  · have h2 : 8 < s := by omega
    have h3 : 1 ≤ s := by omega
    clear h h1
    go_enter Try.func17, Try.ntmps17
    go_wp2
    go_ret2
    exact ⟨rfl, rfl⟩

theorem bits_more {l : List UInt8} {j d X : Nat} (hj : j < l.length) (hX : bt l j = (X : Int)) (hall : ∀ k, k < j → bt l k < 2 ^ d) :
    digL 1 (j * d) (val d (l.take j)) ++ digL 1 d X = digL 1 ((j + 1) * d) (val d (l.take (j + 1))) := by
  have e : l[j].toNat = X := by rw [bt_get hj] at hX; omega
  have hlt : val d (l.take j) < 2 ^ (j * d) := by
    have h := val_lt (w := d) (l := l.take j) (narrow_mem (narrow_of fun k hk => ?_))
    · rwa [List.length_take, Nat.min_eq_left (by omega), Nat.mul_comm] at h
    · have hk' : k < j := by rw [List.length_take] at hk; omega
      have := hall k hk'
      have e2 : bt (l.take j) k = bt l k := by
        rw [bt_get hk, bt_get (by omega)]
        simp
      rw [e2]
      exact this
  rw [val_take_succ hj, e, Nat.succ_mul, ← digL_add X (by rw [Nat.one_mul]; exact hlt), Nat.one_mul]
theorem all_more {l : List UInt8} {j d X : Nat} (hX : bt l j = (X : Int)) (hf : X < 2 ^ d) (hall : ∀ k, k < j → bt l k < 2 ^ d) : ∀ k, k < j + 1 → bt l k < 2 ^ d := by
  intro k hk
  by_cases e : k = j
  · subst e
    rw [hX]
    have e : ((2 : Int) ^ d) = ((2 ^ d : Nat) : Int) := by push_cast; rfl
    rw [e]
    omega
  · exact hall k (by omega)
theorem not_narrow {l : List UInt8} {j d X : Nat} (hj : j < l.length) (hX : bt l j = (X : Int)) (hf : ¬ X < 2 ^ d) : narrow d l = true → False := by
  intro h
  have := narrow_mem h _ (List.getElem_mem hj)
  rw [bt_get hj] at hX
  omega

theorem bt_bit {T V k : Nat} (h : k < T) : bt (digL 1 T V) k = ((V / 2 ^ k % 2 : Nat) : Int) := by
  have hl : k < (digL 1 T V).length := by rw [length_digL]; exact h
  rw [bt_get hl, getElem_digL (by omega) hl, Nat.one_mul, Nat.pow_one]
theorem no_bit {T V k : Nat} (hV : V < 2 ^ T) (h : ¬ k < T) : V / 2 ^ k = 0 := Nat.div_eq_of_lt (Nat.lt_of_lt_of_le hV (Nat.pow_le_pow_right (by omega) (by omega)))
theorem half_lt {V a p : Nat} (hp : p < 8) : V / 2 ^ a % 2 ^ (8 - (p + 1)) ≤ 127 := by
  have h1 : V / 2 ^ a % 2 ^ (8 - (p + 1)) < 2 ^ (8 - (p + 1)) := Nat.mod_lt _ (Nat.pow_pos (by omega))
  have h2 : 2 ^ (8 - (p + 1)) ≤ 2 ^ 7 := Nat.pow_le_pow_right (by omega) (by omega)
  omega
theorem half_step (V a p : Nat) (hp : p < 8) : V / 2 ^ (a + p) % 2 ^ (8 - p) = 2 * (V / 2 ^ (a + (p + 1)) % 2 ^ (8 - (p + 1))) + V / 2 ^ (a + p) % 2 := by
  have := bit_step V (a + p) (8 - (p + 1))
  rwa [show 8 - (p + 1) + 1 = 8 - p from by omega] at this

set_option maxHeartbeats 2000000 in
theorem rbits_any (A : Option Addr) (n c N d B : Nat) (l : List UInt8) (w : World) (HB : Hid (B = w.heap.size)) (hl : Rd w N A n l) (hN : N ≤ B) (hn : n ≤ 3000) (h1 : 1 ≤ d) (h2 : d ≤ 8) :
    Calls Try.prog 17 #[.slice A n c, .int .i64 d] w fun e w' =>
      ((narrow d l = true → ∃ v, e = .returned (.tuple #[v, .int .i64 0]) ∧ Made w' B v (digL 8 (bytesOf n d) (val d l))) ∧ (narrow d l = false → e = .returned (.tuple #[.slice none 0 0, .int .i64 2]))) ∧ Below B w w' := by
  have hBle : B ≤ w.heap.size := Nat.le_of_eq HB.out
  have hd1 : decide ((d : Int) < 1) = false := by simp; omega
  have hd2 : decide (8 < (d : Int)) = false := by simp; omega
  obtain ⟨i0, hi, hz0, hz1, hz2⟩ := info_parts u8info
  go_enter Try.func17, Try.ntmps17
  go_wp2
  go_loopw [6, 7] (fun v i wr => ∃ j : Nat, j ≤ n ∧ i = .int .i64 j ∧ Made wr B v (digL 1 (j * d) (val d (l.take j))) ∧ (∀ k, k < j → bt l k < 2 ^ d) ∧ Below B w wr) (fun _ i _ => n - (intOf i).toNat)
  case atStart => exact ⟨0, Nat.zero_le _, rfl, by rw [Nat.zero_mul]; exact World.ownsRow_nil _ _ _ _, fun k hk => absurd hk (by omega), Below.refl _ _⟩
  case round =>
    obtain ⟨j, hj, rfl, hm, hall, hbl⟩ := hrel
    have HA := Lib.hid hall
    clear hall
    by_cases hlt : j < n
    · obtain ⟨bA, oA, rfl, hA, cA⟩ := (hl.below (hbl.mono hN)).2 j hlt
      have hX : bt l j = ((l.getD j 0).toNat : Int) := rfl
      have hXl : (l.getD j 0).toNat < 256 := UInt8.toNat_lt _
      generalize (l.getD j 0).toNat = X at hX hXl
      have HX := Lib.hid hX
      rw [hX] at cA
      clear hX
      have hm' := Lib.hid hm
      clear hm
      obtain ⟨wo, rfl⟩ : ∃ wo : World, wo = wr := ⟨_, rfl⟩
      go_wp2
      have hszo : B ≤ wo.heap.size := Nat.le_trans hBle hbl.size
      go_loopw [6, 8, 9] (fun v x k wr => ∃ i : Nat, i ≤ d ∧ k = .int .i64 i ∧ x = .int .u8 ((X / 2 ^ i : Nat) : Int) ∧ Made wr B v (digL 1 (j * d) (val d (l.take j)) ++ digL 1 i X) ∧ Below B wo wr) (fun _ _ k _ => d - (intOf k).toNat)
      case atStart => exact ⟨0, Nat.zero_le _, rfl, by simp, by rw [show digL 1 0 X = [] from rfl, List.append_nil]; exact hm'.out, Below.refl _ _⟩
      case round =>
        obtain ⟨i, hi', rfl, rfl, hm, hbi⟩ := hrel
        by_cases hlti : i < d
        · have hq : X / 2 ^ i ≤ X := Nat.div_le_self _ _
          have hsz : B ≤ wr.heap.size := Nat.le_trans hszo hbi.size
          have hE : Hid (X / 2 ^ (i + 1) = X / 2 ^ i / 2 ∧ digL 1 (i + 1) X = digL 1 i X ++ [UInt8.ofNat (X / 2 ^ i % 2)]) := ⟨by rw [Nat.pow_succ, ← Nat.div_div_eq_div_mul], by rw [digL_snoc, Nat.one_mul]⟩
          have hln : (digL 1 (j * d) (val d (l.take j)) ++ digL 1 i X).length = j * d + i := by rw [List.length_append, length_digL, length_digL]
          have hjd : j * d ≤ 3000 * 8 := Nat.mul_le_mul (by omega) h2
          generalize hrw : digL 1 (j * d) (val d (l.take j)) ++ digL 1 i X = row at *
          have HRW := Lib.hid hrw
          have hown := hm.own hln
          have HM2 := Lib.hid hm
          clear hm hln hrw
          generalize X / 2 ^ i = q at *
          go_wp2_with (at_builtin; refine wpList_append_own _ rfl _ _ 23 rfl B 5 i0 (.int .u8 0) 1 1 Try.underlying23 hi hz0 hz1 hz2 rfl (by decide) _ _ _ rfl (hown.alloc _) ⟨wr.heap.size, 0, none⟩ 1 1 [.int .u8 ((q : Int) % 2)] rfl rfl ?c1 ?c2 ?c3 ?c4 ?c5 ?_)
          case c1 => exact cell_one_new _ _ _
          case c2 => intro u hu; simp at hu; subst hu; rfl
          case c3 => unfold maxLen; omega
          case c4 => omega
          case c5 => simp; omega
          intro v' w1 hown1 hg1 _
          have hx : ((q : Int) % 2) = ((UInt8.ofNat (q % 2)).toNat : Int) := by rw [UInt8.toNat_ofNat']; omega
          obtain ⟨hm1, hb1⟩ := Made.push HM2.out hbi hsz hx hown1 hg1
          have hm1' := Lib.hid hm1
          clear hm1 hown1 hg1 hown hx HM2
          go_wp2
          go_roundw
          case rel =>
            refine ⟨i + 1, by omega, by go_num, ?_, ?_, hb1⟩
            · rw [hE.out.1]; simp
            · rw [hE.out.2, ← List.append_assoc, HRW.out]; exact hm1'.out
          case measure => simp [intOf]; omega
        · have e : i = d := by omega
          subst e
          by_cases hfit : X < 2 ^ i
          · rw [Nat.div_eq_of_lt hfit]
            have HM3 := Lib.hid hm
            clear hm
            go_wp2
            go_roundw
            case rel =>
              refine ⟨j + 1, by omega, by go_num, ?_, all_more HX.out hfit HA.out, hbl.trans (hbi.mono (Nat.le_refl _))⟩
              rw [← bits_more (by have := hl.1; omega) HX.out HA.out]
              exact HM3.out
            case measure => simp [intOf]; omega
          · have hq0 : 0 < X / 2 ^ i := Nat.div_pos (by omega) (Nat.pow_pos (by omega))
            generalize X / 2 ^ i = q at *
            go_wp2
            go_ret2
            exact ⟨⟨fun h => (not_narrow (by have := hl.1; omega) HX.out hfit h).elim, fun _ => rfl⟩, hbl.trans hbi⟩
    · have e : j = n := by omega
      subst e
      have hnar : narrow d l = true := narrow_of fun k hk => HA.out k (by have := hl.1; omega)
      rw [List.take_of_length_le (by have := hl.1; omega)] at hm
      have hR : val d l < 2 ^ (j * d) := by have := val_lt (narrow_mem hnar); rwa [hl.1, Nat.mul_comm] at this
      have HR := Lib.hid hR
      have HN := Lib.hid hnar
      clear hR hnar
      have hjd : j * d ≤ 3000 * 8 := Nat.mul_le_mul (by omega) h2
      have hld := length_digL 1 (j * d) (val d l)
      generalize hV : val d l = V at *
      obtain ⟨A1, c1, rfl, d1, _, hc1⟩ := hm.open_ (n := j * d) hld
      have HV := Lib.hid hV
      clear hV hld
      have HD := Lib.hid d1
      have hsz0 : B ≤ wr.heap.size := Nat.le_trans hBle hbl.size
      have hby : bytesOf j d * 8 < j * d + 8 ∧ j * d ≤ bytesOf j d * 8 := by unfold bytesOf; omega
      generalize hT : j * d = T at *
      generalize hM : bytesOf j d = M at *
      have HM4 := Lib.hid hM
      have HT := Lib.hid hT
      obtain ⟨hby1, hby2⟩ := hby
      clear hm hM hT d1
      obtain ⟨wo, rfl⟩ : ∃ wo : World, wo = wr := ⟨_, rfl⟩
      have hB4 : Below wo.heap.size wo wo := Below.refl _ _
      go_wp2
      go_loopw [10, 11] (fun v i wr => ∃ q : Nat, q ≤ M ∧ i = .int .i64 (8 * (q : Int)) ∧ Made wr wo.heap.size v (digL 8 q V) ∧ Below wo.heap.size wo wr) (fun _ i _ => T + 8 - (intOf i).toNat)
      case atStart => exact ⟨0, Nat.zero_le _, by simp, World.ownsRow_nil _ _ _ _, hB4⟩
      case round =>
        obtain ⟨q, hq, rfl, hm, hb4⟩ := hrel
        clear hB4
        by_cases hlt : 8 * q < T
        · have hq' : q + 1 ≤ M := by omega
          have HM5 := Lib.hid hm
          clear hm
          go_wp2
          go_loop [12, 13] (fun x k => ∃ m : Nat, m ≤ 8 ∧ k = .int .i64 ((m : Int) - 1) ∧ x = .int .u8 ((V / 2 ^ (8 * q + m) % 2 ^ (8 - m) : Nat) : Int)) (fun _ k => (intOf k + 1).toNat)
          case atStart => exact ⟨8, Nat.le_refl _, rfl, by simp [Nat.mod_one]⟩
          case round =>
            obtain ⟨m, hm8, rfl, rfl⟩ := hrel
            by_cases hm0 : 0 < m
            · obtain ⟨p, rfl⟩ : ∃ p, m = p + 1 := ⟨m - 1, by omega⟩
              have hC := half_lt (V := V) (a := 8 * q + (p + 1)) (p := p) (by omega)
              have hS := half_step V (8 * q) p (by omega)
              generalize V / 2 ^ (8 * q + (p + 1)) % 2 ^ (8 - (p + 1)) = C at *
              rw [show ((p + 1 : Nat) : Int) - 1 = (p : Int) from by omega]
              by_cases hpos : 8 * q + p < T
              · obtain ⟨bA, oA, rfl, _, cA⟩ := (HD.out.below hb4).2 (8 * q + p) hpos
                rw [bt_bit hpos] at cA
                have hbit : V / 2 ^ (8 * q + p) % 2 < 2 := Nat.mod_lt _ (by omega)
                generalize V / 2 ^ (8 * q + p) % 2 = bit at *
                have HS := Lib.hid hS
                clear hS
                go_wp2
                go_round
                case rel => exact ⟨p, by omega, rfl, by rw [HS.out]; go_num⟩
                case measure => simp [intOf]
              · have hS2 : V / 2 ^ (8 * q + p) % 2 ^ (8 - p) = 2 * C := by rw [hS, no_bit HR.out hpos, Nat.zero_mod, Nat.add_zero]
                have HS := Lib.hid hS2
                clear hS hS2
                go_wp2
                go_round
                case rel => exact ⟨p, by omega, rfl, by rw [HS.out]; go_num⟩
                case measure => simp [intOf]
            · have e : m = 0 := by omega
              subst e
              have hcc : V / 2 ^ (8 * q + 0) % 2 ^ (8 - 0) < 256 := Nat.mod_lt _ (by decide)
              have hE : Hid (digL 8 (q + 1) V = digL 8 q V ++ [UInt8.ofNat (V / 2 ^ (8 * q + 0) % 2 ^ (8 - 0))]) := digL_snoc 8 q V
              generalize V / 2 ^ (8 * q + 0) % 2 ^ (8 - 0) = cc at *
              have hown := HM5.out.own (length_digL 8 q V)
              have hsz : wo.heap.size ≤ wr.heap.size := hb4.size
              go_wp2_with (at_builtin; refine wpList_append_own _ rfl _ _ 23 rfl wo.heap.size 5 i0 (.int .u8 0) 1 1 Try.underlying23 hi hz0 hz1 hz2 rfl (by decide) _ _ _ rfl (hown.alloc _) ⟨wr.heap.size, 0, none⟩ 1 1 [.int .u8 (cc : Int)] rfl rfl ?d1 ?d2 ?d3 ?d4 ?d5 ?_)
              case d2 => rfl
              case d3 => unfold maxLen; omega
              case d4 => omega
              case d5 => omega
              intro v' w1 hown1 hg1 _
              have hx : (cc : Int) = ((UInt8.ofNat cc).toNat : Int) := by rw [UInt8.toNat_ofNat']; omega
              obtain ⟨hm1, hb1⟩ := Made.push HM5.out hb4 hsz hx hown1 hg1
              have hm1' := Lib.hid hm1
              clear hm1 hown1 hg1 hown hx
              go_wp2
              go_roundw
              case rel =>
                refine ⟨q + 1, hq', by go_num, ?_, hb1⟩
                rw [hE.out]; exact hm1'.out
              case measure => simp [intOf]; omega
        · have e : q = M := by omega
          subst e
          go_wp2
          go_ret2
          refine ⟨⟨fun _ => ⟨_, rfl, ?_⟩, fun h => by rw [HN.out] at h; cases h⟩, hbl.trans (hb4.mono hsz0)⟩
          rw [HV.out, HM4.out]
          exact hm.base hsz0
end Go.Proofs.Ytcddmkmogdaobaa
