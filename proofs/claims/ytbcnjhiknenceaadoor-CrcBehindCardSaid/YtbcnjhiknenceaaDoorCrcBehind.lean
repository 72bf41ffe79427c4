/-
  The walk of CrcBehind.
-/
import Derived.Test.YtbcnjhiknenceaaDoorCrcLives
import Derived.Test.YtbcnjhiknenceaaDoorApp
import Derived.Deep.RegionWith
namespace Go.Proofs.YtbcnjhiknenceaaDoor
open Go.RowKit
set_option linter.unusedVariables false

theorem more_behind (b : List UInt8) : more 0 (b ++ digL 8 4 (more 0 b)) = more 0 [0, 0, 0, 0] := by
  unfold more
  rw [run_append]
  have h : run (run (neg 0) b) (digL 8 4 (neg (run (neg 0) b))) = run 4294967295 [0, 0, 0, 0] := by
    refine run_behind _ _ (length_digL _ _ _) ?_
    rw [val_digL (by omega)]
    exact Nat.mod_eq_of_lt (neg_lt (run_lt (neg_lt (by omega)) b))
  rw [h]
  rfl
theorem le4 (s : Nat) (cs : Array Value) (hlt : s < 4294967296) (h : cs = #[Value.int .u8 ((s : Int) % 256), Value.int .u8 ((s : Int) / 256 % 256), Value.int .u8 ((s : Int) / 65536 % 256), Value.int .u8 ((s : Int) / 16777216)]) :
    cs.toList = (digL 8 4 s).map fun u => Value.int .u8 (u.toNat : Int) := by
  subst h
  have e : digL 8 4 s = [UInt8.ofNat (s % 256), UInt8.ofNat (s / 256 % 256), UInt8.ofNat (s / 65536 % 256), UInt8.ofNat (s / 16777216 % 256)] := by
    rw [digL_succ, digL_succ, digL_succ, digL_succ, Nat.div_div_eq_div_mul, Nat.div_div_eq_div_mul]
    rfl
  rw [e]
  simp only [List.map_cons, List.map_nil, UInt8.toNat_ofNat']
  refine List.cons_eq_cons.2 ⟨?_, List.cons_eq_cons.2 ⟨?_, List.cons_eq_cons.2 ⟨?_, List.cons_eq_cons.2 ⟨?_, rfl⟩⟩⟩⟩ <;> (congr 1; omega)

/-- Of in a later world. -/
theorem of_later (W : World) (K : Nat) (A : Option Addr) (n c N : Nat) (b : List UInt8) (w : World) (T : Tab W) (hr : Rd W N A n b) (hN : N ≤ W.heap.size) (hn : n ≤ maxLen) (hK : Hid (more 0 b = K)) (hbl : Below W.heap.size W w) :
    Calls Tryd.prog 15 #[.slice A n c] w fun e w' => e = .returned (.int .u32 K) ∧ w = w' := by
  have h := of_any A n c N b w (T.below hbl) (hr.below (hbl.mono hN)) hn
  rw [hK.out] at h
  exact h
theorem lives_later (W : World) (w : World) (B : Nat) (hB : B ≤ W.heap.size) (T : Tab W) (hbl : Below W.heap.size W w) : Calls Tryd.prog 18 #[] w fun e w' => e = .returned (.bool true) ∧ Below B W w' := by
  refine (lives_yes w (T.below hbl)).mono ?_
  rintro e w' ⟨rfl, hb⟩
  exact ⟨rfl, (hbl.mono hB).trans (hb.mono (Nat.le_trans hB hbl.size))⟩

set_option maxHeartbeats 2000000 in
theorem crcBehind_walk (A : Option Addr) (n cap : Nat) (b : List UInt8) (w : World) (T : Tab w) (hb : Rd w w.heap.size A n b) (hn : n ≤ 140737488351232) :
    Calls Tryd.prog 7 #[.slice A n cap] w fun e w' => e = .returned (.bool true) ∧ Below w.heap.size w w' := by
  have HT := Lib.hid T
  clear T
  have hm : n ≤ maxLen := by unfold maxLen; omega
  have hs0 := more_behind b
  have hlt := more_lt (s := 0) (by omega) b
  obtain ⟨s, hs⟩ : ∃ s, more 0 b = s := ⟨_, rfl⟩
  rw [hs] at hs0 hlt
  have HS := Lib.hid hs0
  have HSD := Lib.hid hs
  clear hs hs0
  obtain ⟨K, hK⟩ : ∃ K, more 0 [0, 0, 0, 0] = K := ⟨_, rfl⟩
  have HK := Lib.hid hK
  clear hK
  have hmk : ∀ w, (Instr.makeSlice 23 (.int .i64 4) (.int .i64 4)).run Tryd.prog w = .ok (.slice (some ⟨w.heap.size, 0, none⟩) 4 4) (w.alloc (.cells #[.int .u8 0, .int .u8 0, .int .u8 0, .int .u8 0] 5)) := fun _ => by kernel_rfl
  go_enter Tryd.func7, Tryd.ntmps7
  go_wp2_with fail
  refine (of_any A n _ _ b _ HT.out hb hm).mono ?_
  rintro e w' ⟨rfl, rfl⟩
  rw [HSD.out]
  go_wp2_with fail
  refine (copy_any A n cap _ _ b w (Lib.hid rfl) hb (Nat.le_refl _) (by omega)).mono ?_
  rintro e w1 ⟨v1, rfl, hv1, hb1⟩
  have r4 : Rd _ _ _ 4 _ := rd_new w1 (digL 8 4 s) #[Value.int .u8 ((s : Int) % 256), Value.int .u8 ((s : Int) / 256 % 256), Value.int .u8 ((s : Int) / 65536 % 256), Value.int .u8 ((s : Int) / 16777216)] (le4 s _ hlt rfl)
  have hv1' := hv1.below ((Below.refl w1.heap.size w1).alloc (Nat.le_refl _) (.cells #[Value.int .u8 ((s : Int) % 256), Value.int .u8 ((s : Int) / 256 % 256), Value.int .u8 ((s : Int) / 65536 % 256), Value.int .u8 ((s : Int) / 16777216)] 5))
  have hb1' : Below w.heap.size w (w1.alloc (.cells #[Value.int .u8 ((s : Int) % 256), Value.int .u8 ((s : Int) / 256 % 256), Value.int .u8 ((s : Int) / 65536 % 256), Value.int .u8 ((s : Int) / 16777216)] 5)) := hb1.alloc hb1.size _
  go_wp2_with (at_builtin; go_loud (refine wpList_app rfl _ _ rfl w.heap.size _ 4 _ v1 b (digL 8 4 s) _ rfl rfl hv1' r4 hb1'.size ?c1 ?_))
  case c1 => have := hb.1; omega
  intro v2 w2 hv2 hg2
  have hb2 : Below w.heap.size w w2 := hb1'.grown hg2 hb1'.size fun k hk => (hv1'.lt k hk).1
  have HT2 := Lib.hid (HT.out.below hb2)
  obtain ⟨A2, c2, rfl, d2, _, hc2⟩ := hv2.open_ (n := n + 4) (by rw [List.length_append, length_digL]; have := hb.1; omega)
  have hm3 : n + 4 ≤ maxLen := by unfold maxLen; omega
  have HKA := Lib.hid (HS.out.trans HK.out)
  have hba : Below w2.heap.size w2 (w2.alloc (.cells #[.int .u8 0, .int .u8 0, .int .u8 0, .int .u8 0] 5)) := (Below.refl _ _).alloc (Nat.le_refl _) _
  have r0 : Rd _ _ _ 4 _ := rd_new w2 [0, 0, 0, 0] #[.int .u8 0, .int .u8 0, .int .u8 0, .int .u8 0] rfl
  have HT3 := Lib.hid (HT2.out.below hba)
  go_wp2_with fail
  go_region_with (first
    | (go_at_call 15; ((with_reducible refine (of_later w2 K A2 (n + 4) c2 w2.heap.size _ _ HT2.out d2 (Nat.le_refl _) hm3 HKA (by first | exact bd (Below.refl _ _) | exact bd hba)).mono ?_); rintro e w' ⟨rfl, rfl⟩))
    | (go_at_call 15; ((with_reducible refine (of_later _ K _ 4 4 _ _ _ HT3.out r0 (by simp) (by unfold maxLen; omega) HK (bd (Below.refl _ _))).mono ?_); rintro e w' ⟨rfl, rfl⟩))
    | (go_at_call 18; ((with_reducible refine (lives_later _ _ w2.heap.size (by simp) HT3.out (bd (Below.refl _ _))).mono ?_); rintro e w3 ⟨rfl, hb3⟩)))
  all_goals
    go_wp2
    go_ret
    exact ⟨rfl, two hb2 (hba.trans hb3)⟩
end Go.Proofs.YtbcnjhiknenceaaDoor
