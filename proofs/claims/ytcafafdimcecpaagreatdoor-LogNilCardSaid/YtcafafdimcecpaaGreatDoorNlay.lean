import Derived.Test.YtcafafdimcecpaaGreatDoorNlax
import Derived.Test.YtcafafdimcecpaaGreatDoorNlam
import Derived.Test.YtcafafdimcecpaaGreatDoorNlah
import Derived.Test.YtcafafdimcecpaaGreatDoorNlaj
import Derived.Deep.DeepCutAuto
import Derived.Test.YtcafafdimcecpaaGreatDoorNlab
import Derived.Test.YtcafafdimcecpaaGreatDoorNlaa
import Derived.Deep.Slices
import Derived.Lib.SmallJoins
import Derived.Test.YtcafafdimcecpaaGreatDoorNlai
import Derived.Test.YtcafafdimcecpaaGreatDoorNlae
import Derived.Test.YtcafafdimcecpaaGreatDoorNlZ
namespace Go.Proofs.YtcafafdimcecpaaGreatDoor
open Go.RowKit
set_option linter.unusedVariables false
set_option maxRecDepth 100000
def lvC : Cl := ⟨0, 0, al.set 0 5⟩
def lvR : List DevS := [⟨List.replicate 12 al, [], false⟩]
def lvM : BenS := newS6 [50, 12]
def lvX1 : LgS := ⟨0, 7, 40, 1, 1, 0, []⟩
def lvM1 : BenS := layB lvM 0 7 40
def lvX2 : LgS := lvX1.with_ (cE lvX1 [lvC])
def lvM2 : BenS := appB lvM1 lvX1 [lvC]
def lvX3 : LgS := lvX2.cut 2
def lvM3 : BenS := clrB lvM2 lvX2 2
theorem lv_wd : Wd lvR (solo (List.replicate 50 al) [] 0 false 0) lvM := ⟨_, _, _, _, rfl, rfl⟩
theorem Wd.is {R : List DevS} {S : List Blk} {L : List (Int × Blk)} {left st : Nat} {b9 : Bool} {M' : BenS} (h : Wd R (solo S L left b9 st) M') : M' = ⟨⟨S, L, false⟩ :: R, left, b9, st⟩ := by
  obtain ⟨a, l, k, s, h1, rfl⟩ := h
  unfold solo at h1
  injection h1 with e1 e2 e3 e4
  injection e1 with e1 _
  subst e1 e2 e3 e4
  rfl
theorem Wd.room {R : List DevS} {S : List Blk} {st k : Nat} {M' : BenS} (h : Wd R (solo S [] 0 false st) M') (hs : st + k ≤ 1000000) (hR : ∀ d ∈ R, d.L.length + k ≤ 1000000) : Room M' k := by
  rw [h.is]
  refine ⟨hs, by show 0 < _; omega, fun d hd => ?_⟩
  rcases List.mem_cons.1 hd with rfl | hd
  · show 0 + k ≤ _; omega
  · exact hR d hd
theorem lvR_room {k : Nat} (hk : k ≤ 1000000) : ∀ d ∈ lvR, d.L.length + k ≤ 1000000 := by
  intro d hd
  unfold lvR at hd
  rw [List.mem_singleton] at hd
  subst hd
  show 0 + k ≤ _
  omega
theorem shp_lay (M : BenS) (d : Int) (id : Nat) (r : Int) : Shp M (layB M d id r) := by
  unfold layB
  split
  · exact shp_go d _ M
  · exact Shp.refl M
theorem shp_app (M : BenS) (x : LgS) (cs : List Cl) : Shp M (appB M x cs) := by
  unfold appB
  split
  · exact shp_go _ _ M
  · exact Shp.refl M
theorem shp_clr (M : BenS) (x : LgS) (f : Nat) : Shp M (clrB M x f) := by
  unfold clrB
  split
  · exact shp_go _ _ M
  · exact Shp.refl M
theorem zeroB_gN : aN.gN al = 0 := by
  have := aN.gN_le_num al
  rw [zeroB_num.2] at this
  omega
theorem lv_open : opnE lvM 0 = 5 := by
  have hw := lv_wd
  have h0 : dr lvM 0 = 0 ∧ 50 ≤ bY lvM 0 := ⟨hw.has.2, by rw [hw.se, solo_se]; decide⟩
  have h1 : bT lvM 0 0 = 0 := by rw [hw.rdE]; exact solo_rdE ⟨by omega, by rw [List.length_replicate]; omega⟩
  have b0 : cF lvM 0 0 = al := by rw [hw.rdB]; exact (solo_rdB (k := 0) (by rw [List.length_replicate]; omega)).trans (by simp)
  have b1 : cF lvM 0 1 = al := by rw [hw.rdB]; exact (solo_rdB (k := 1) (by rw [List.length_replicate]; omega)).trans (by simp)
  have hF : ¬ opnF lvM 0 = true := fun e => by
    obtain ⟨e1, _⟩ := of_decide_eq_true e
    rw [b0, b1] at e1
    unfold Cod.nE at e1
    rw [zeroB_gN] at e1
    simp at e1
  exact (if_pos (show opnQ lvM 0 = true from decide_eq_true h0)).trans ((if_pos h1).trans (if_neg hF))
theorem lv_lay : layE lvM 0 7 40 = 0 ∧ ∃ S, Wd lvR (solo S [] 0 false 13) lvM1 ∧ OnD S lvX1 (fun _ => []) 1 ∧ Twn S lvX1 := by
  obtain ⟨h1, S, h2, h3, h4⟩ := lay_go 7 40 0 (by omega) (by omega) (fun _ => [])
  obtain ⟨g1, g2⟩ := lv_wd.lay 7 ((40 : Nat) : Int)
  have e2 : layB (solo (List.replicate 50 al) [] 0 false 0) 0 7 ((40 : Nat) : Int) = solo S [] 0 false 13 := h2
  rw [e2] at g2
  exact ⟨g1.trans h1, S, g2, h3, h4⟩
theorem lv_recE : recE [lvC] = 0 := by decide
theorem lv_len : (bC [lvC]).length = 2 := by rw [bO]; rfl
theorem lv_appQ : appQ lvX1 [lvC] = 0 := by
  unfold appQ
  rw [lv_recE, if_neg (by omega), if_neg]
  rw [lv_len]
  show ¬ (8 ≤ 0 ∨ 40 - usd [] < 2)
  rw [usd_nil]
  omega
theorem lv_app : appE lvM1 lvX1 [lvC] = 0 ∧ ∃ S, Wd lvR (solo S [] 0 false 18) lvM2 ∧ OnD S lvX2 (upA (fun _ => []) 1 [lvC]) 2 ∧ Twn S lvX2 := by
  obtain ⟨_, S, h1, h2, h3⟩ := lv_lay
  obtain ⟨g1, g2⟩ := h1.app (cs := [lvC]) (x := lvX1) rfl
  rcases app_go (left := 0) (st := 13) h2 h3 lv_appQ (by omega) with ⟨_, k1, S', k2, k3, k4⟩ | ⟨k, _⟩
  · rw [k2, lv_len] at g2
    exact ⟨g1.trans k1, S', g2, k3, k4⟩
  · omega
theorem lv_free2 : lvX2.free = 38 := by
  show 40 - usd ([] ++ [cE lvX1 [lvC]]) = 38
  rw [List.nil_append, usd_cons, usd_nil, eO, lv_len]
theorem lv_rcd : rcdE lvM2 lvX2 1 = 0 ∧ rcdC lvM2 lvX2 1 = [lvC] := by
  obtain ⟨_, S, h1, h2, h3⟩ := lv_app
  obtain ⟨g1, g2⟩ := h1.rcd (x := lvX2) (q := 1) rfl
  obtain ⟨k1, k2⟩ := h2.record (left := 0) (st := 18) (q := 1) (decide_eq_true ⟨by show 1 ≤ 1; omega, by show 1 < 2; omega⟩)
  exact ⟨g1.trans k1, g2.trans (k2.trans upA_at)⟩
theorem lv_clrQ : clrQ lvX2 2 = true := decide_eq_true ⟨by show 1 ≤ 2; omega, by show 2 ≤ 2; omega⟩
theorem lv_clr : clrE lvM2 lvX2 2 = 0 ∧ ∃ S, Wd lvR (solo S [] 0 false 20) lvM3 := by
  obtain ⟨_, S, h1, h2, h3⟩ := lv_app
  obtain ⟨g1, g2⟩ := h1.clr (x := lvX2) (f := 2) rfl
  rcases clr_go (left := 0) (st := 18) h2 h3 lv_clrQ (by omega) with ⟨_, k1, S', k2, k3, k4⟩ | ⟨k, _⟩
  · rw [k2] at g2
    exact ⟨g1.trans k1, S', g2⟩
  · omega
theorem lv_free3 : lvX3.free = 40 := by
  show 40 - usd (([] ++ [cE lvX1 [lvC]]).drop (2 - 1)) = 40
  rfl
theorem lv_dead : rcdE lvM3 lvX3 1 = 7 := if_neg fun e => by
  obtain ⟨e1, _⟩ := of_decide_eq_true e
  exact absurd e1 (by show ¬ 2 ≤ 1; omega)
theorem lv_small : layE lvM3 1 7 40 = 2 := by
  obtain ⟨_, S, h⟩ := lv_clr
  have he := h.is
  refine if_neg fun e => ?_
  obtain ⟨_, _, _, _, e5⟩ := of_decide_eq_true e
  rw [he] at e5
  have : bY ⟨⟨S, [], false⟩ :: lvR, 0, false, 20⟩ 1 = 12 := by
    unfold bY
    rw [if_pos (by simp [dr, lvR])]
    rfl
  omega
theorem lv_ok1 : LgOk lvM1 lvX1 0 := (lay_ok (M := lvM) (d := 0) (id := 7) (r := 40) (by omega) (decide_eq_true ⟨lv_wd.has.2, by omega, by omega, by omega, by rw [lv_wd.se, solo_se]; decide⟩)).shp (shp_lay _ _ _ _)
theorem lv_ok2 : LgOk lvM2 lvX2 1 := (lv_ok1.app lv_appQ (by omega)).shp (shp_app _ _ _)
theorem lv_ok3 : LgOk lvM3 lvX3 2 := (lv_ok2.cut lv_clrQ (by omega)).shp (shp_clr _ _ _)
theorem lv_room : Room lvM 13 ∧ Room lvM1 40 ∧ Room lvM2 2 := by
  obtain ⟨_, S1, h1, _⟩ := lv_lay
  obtain ⟨_, S2, h2, _⟩ := lv_app
  exact ⟨lv_wd.room (by omega) (lvR_room (by omega)), h1.room (by omega) (lvR_room (by omega)), h2.room (by omega) (lvR_room (by omega))⟩
theorem lv_room3 : Room lvM3 13 := by
  obtain ⟨_, S, h⟩ := lv_clr
  exact h.room (by omega) (lvR_room (by omega))
set_option linter.unusedSimpArgs false
def Tbl (P : BenP) (w : World) (k : Int) (e : Ending) (w' : World) : Prop :=
  ∃ p q F F', e = .returned (.tuple #[.pointer (some ⟨p, 0, none⟩), .pointer (some ⟨q, 0, none⟩), .bool true]) ∧ P.Bn w' F p (newS6 [k, 12]) ∧ refBen.Bn w' F' q (newS6 [k, 12]) ∧ (∀ b, F b → w.heap.size ≤ b) ∧ (∀ b, F' b → w.heap.size ≤ b) ∧ (∀ b, F b → ¬ F' b) ∧ Below w.heap.size w w'
set_option maxHeartbeats 1000000 in
theorem ltable (P : BenP) (k : Int) (w : World) (hk : 1 ≤ k ∧ k ≤ 512) : Calls Tryz.prog 9 #[.int .i64 k] w (Tbl P w k) := by
  have hok : newOk [k, 12] := ⟨by simp, by simp, fun n hn => by
    rcases List.mem_cons.1 hn with rfl | hn
    · exact hk
    · rcases List.mem_cons.1 hn with rfl | hn
      · omega
      · cases hn⟩
  have HOK := Lib.hid hok
  have HRD : ∀ v : World, Hid (RdE dm (v.alloc (.cells #[.int .i64 k, .int .i64 12] 3)) (v.alloc (.cells #[.int .i64 k, .int .i64 12] 3)).heap.size (some ⟨v.heap.size, 0, none⟩) 2 [k, 12]) := fun v => Lib.hid (by
    rw [World.size_alloc]
    exact eF (E := dm) (l := [k, 12]) v #[.int .i64 k, .int .i64 12] 3 rfl)
  have HBA : ∀ v : World, Hid (Below v.heap.size v (v.alloc (.cells #[.int .i64 k, .int .i64 12] 3)) ∧ v.heap.size ≤ (v.alloc (.cells #[.int .i64 k, .int .i64 12] 3)).heap.size) := fun v => Lib.hid ⟨(Below.refl _ _).alloc (Nat.le_refl _) _, by rw [World.size_alloc]; omega⟩
  have HR0 := HRD w
  have HA0 := HBA w
  clear hok hk
  go_enter Tryz.func9, Tryz.ntmps9
  go_wp2_with fail
  refine (P.new (A := some ⟨w.heap.size, 0, none⟩) (c := 2) HR0.out (by omega) (by unfold maxLen; omega)).mono ?_
  rintro e w1 ⟨hb1, ⟨_, p, F, rfl, hB, hF⟩ | ⟨hno, rfl⟩⟩
  rotate_left 1
  · exact absurd HOK.out hno
  have HB1 := Lib.hid (HA0.out.1.trans (hb1.mono HA0.out.2))
  have HP1 := Lib.hid hB
  have HF1 : Hid (∀ b, F b → w.heap.size ≤ b) := Lib.hid fun b e => Nat.le_trans HA0.out.2 (hF b e)
  clear hb1 hB hF HR0 HA0
  have HR1 := HRD w1
  have HA1 := HBA w1
  clear HRD HBA
  go_wp2_with fail
  refine (refBen.new (A := some ⟨w1.heap.size, 0, none⟩) (c := 2) HR1.out (by omega) (by unfold maxLen; omega)).mono ?_
  rintro e w2 ⟨hb2, ⟨_, q, F', rfl, hB2, hF2⟩ | ⟨hno, rfl⟩⟩
  rotate_left 1
  · exact absurd HOK.out hno
  have HB12 := Lib.hid (HA1.out.1.trans (hb2.mono HA1.out.2))
  have HB2 := Lib.hid (HB1.out.trans (HB12.out.mono HB1.out.size))
  have HP2 := Lib.hid (P.toBen.below HP1.out HB12.out)
  have HQ2 := Lib.hid hB2
  have HF2 : Hid (∀ b, F' b → w1.heap.size ≤ b) := Lib.hid fun b e => Nat.le_trans HA1.out.2 (hF2 b e)
  have HDJ : Hid (∀ b, F b → ¬ F' b) := Lib.hid fun b e e' => by
    have h1 := P.lt HP1.out b e
    have h2 := HF2.out b e'
    omega
  clear hb2 hB2 hF2 HR1 HA1 HB12
  go_wp2_with fail
  (try simp only [Exit.inBlock, Exit.then])
  refine bodyPost_ret (results_tmp3 rfl _ _ _) rfl ⟨p, q, F, F', rfl, HP2.out, HQ2.out, HF1.out, fun b e => Nat.le_trans HB1.out.size (HF2.out b e), HDJ.out, HB2.out⟩
theorem getC_ext {a b : List Cl} (hl : a.length = b.length) (h : ∀ k, k < a.length → a.getD k b7 = b.getD k b7) : a = b := by
  apply List.ext_getElem hl
  intro k h1 h2
  have := h k h1
  rw [List.getD, List.getD, List.getElem?_eq_getElem h1, List.getElem?_eq_getElem h2] at this
  simpa using this
set_option maxHeartbeats 800000 in
theorem cells_any (A B : Option Addr) (n m c d N : Nat) (a b : List Cl) (w : World) (ha : RdE bG w N A n a) (hb : RdE bG w N B m b) (hN : N ≤ w.heap.size) (hn : n ≤ maxLen) :
    Calls Tryz.prog 25 #[.slice A n c, .slice B m d] w fun e w' => e = .returned (.bool (decide (a = b))) ∧ Below w.heap.size w w' := by
  unfold maxLen at hn
  by_cases hnm : n = m
  · subst hnm
    go_enter Tryz.func25, Tryz.ntmps25
    go_wp2_with fail
    go_loopw [5] (fun i wr => ∃ k : Nat, k ≤ n ∧ i = .int .i64 k ∧ (∀ j, j < k → a.getD j b7 = b.getD j b7) ∧ Below w.heap.size w wr) (fun i _ => n - (intOf i).toNat)
    case atStart => exact ⟨0, Nat.zero_le _, rfl, fun j hj => absurd hj (by omega), Below.refl _ _⟩
    case round =>
      obtain ⟨k, hk, rfl, hj, hbl⟩ := hrel
      have HJ := Lib.hid hj
      clear hj
      by_cases hlt : k < n
      · obtain ⟨bA, oA, rfl, hA, cA⟩ := (ha.below (hbl.mono hN)).cl hlt
        obtain ⟨bB, oB, rfl, hB, cB⟩ := (hb.below (hbl.mono hN)).cl hlt
        have HX := Lib.hid (rfl : a.getD k b7 = a.getD k b7)
        generalize hx : a.getD k b7 = x at *
        generalize hy : b.getD k b7 = y at *
        have HA := Lib.hid cA
        have HB := Lib.hid cB
        have HXX := Lib.hid hx
        have HYY := Lib.hid hy
        clear cA cB hx hy HX
        go_wp2_with fail
        by_cases hxy : x = y
        · have hd : (!decide (x = y)) = false := by simpa using hxy
          refine eg (by kernel_rfl) ?_
          refine av rfl (cg rfl) ?_
          simp only [Act.put, aa, ae, af]
          refine av rfl (cg rfl) ?_
          simp only [Act.put, aa, ae, af]
          refine av rfl (a9 (E := bG) rfl rfl rfl hlt) ?_
          simp only [Act.put, aa, ae, af]
          refine av rfl (ex rfl rfl HA.out) ?_
          simp only [Act.put, aa, ae, af]
          refine av rfl (cg rfl) ?_
          simp only [Act.put, aa, ae, af]
          refine av rfl (cg rfl) ?_
          simp only [Act.put, aa, ae, af]
          refine av rfl (a9 (E := bG) rfl rfl rfl hlt) ?_
          simp only [Act.put, aa, ae, af]
          refine av rfl (ex rfl rfl HB.out) ?_
          simp only [Act.put, aa, ae, af]
          refine av rfl (exec_neC false rfl rfl rfl hd) ?_
          simp only [Act.put, aa, ae, af]
          refine wpStill_nil ?_
          clear hd
          go_wp2_with fail
          go_roundw
          case rel =>
            refine ⟨k + 1, by omega, by go_num, ?_, bd hbl⟩
            intro j hj
            by_cases h : j = k
            · subst h; rw [HXX.out, HYY.out]; exact hxy
            · exact HJ.out j (by omega)
          case measure => simp [intOf]; omega
        · have hd : (!decide (x = y)) = true := by simpa using hxy
          refine eg (by kernel_rfl) ?_
          refine av rfl (cg rfl) ?_
          simp only [Act.put, aa, ae, af]
          refine av rfl (cg rfl) ?_
          simp only [Act.put, aa, ae, af]
          refine av rfl (a9 (E := bG) rfl rfl rfl hlt) ?_
          simp only [Act.put, aa, ae, af]
          refine av rfl (ex rfl rfl HA.out) ?_
          simp only [Act.put, aa, ae, af]
          refine av rfl (cg rfl) ?_
          simp only [Act.put, aa, ae, af]
          refine av rfl (cg rfl) ?_
          simp only [Act.put, aa, ae, af]
          refine av rfl (a9 (E := bG) rfl rfl rfl hlt) ?_
          simp only [Act.put, aa, ae, af]
          refine av rfl (ex rfl rfl HB.out) ?_
          simp only [Act.put, aa, ae, af]
          refine av rfl (exec_neC true rfl rfl rfl hd) ?_
          simp only [Act.put, aa, ae, af]
          refine wpStill_nil ?_
          clear hd
          go_wp2_with fail
          go_ret
          refine ⟨?_, bd hbl⟩
          rw [decide_eq_false]
          · rfl
          · rintro rfl
            exact hxy (HXX.out.symm.trans HYY.out)
      · go_wp2_with fail
        go_ret
        refine ⟨?_, hbl⟩
        rw [decide_eq_true]
        · rfl
        · exact getC_ext (by rw [ha.1, hb.1]) fun k h => HJ.out k (by have := ha.1; omega)
  · have hne : ((n : Int) != (m : Int)) = true := by simp; omega
    go_enter Tryz.func25, Tryz.ntmps25
    go_wp2_with fail
    go_ret
    refine ⟨?_, Below.refl _ _⟩
    rw [decide_eq_false]
    · rfl
    · rintro rfl
      exact hnm (ha.1.symm.trans hb.1)
theorem fill_5 : Instr.fill (fun i => some (i * 1, 1)) (cel al).toArray [(0, .int .u8 5)] = some (cel (al.set 0 5)).toArray := by kernel_rfl
theorem run_bldC1 (w : World) : (Instr.build 104 #[(1, blk (al.set 0 5))]).run Tryz.prog w = .ok (clV lvC) w := by kernel_rfl
theorem exec_bldC1 {ρ : Operand → Value} {o : Oper} {y : Operand} {w : World} (ho : o.op = .build 104 #[(1, y)]) (hy : ρ y = blk (al.set 0 5)) : (execOp ρ o).run Tryz.prog w = .ok (.value (clV lvC)) w := by
  unfold execOp
  simp only [ho, List.map_toArray, List.map_cons, List.map_nil, hy, Sem.run_bind, run_bldC1, Result.andThen_ok, Sem.run_pure]
theorem lv_appN : appN lvM1 lvX1 [lvC] = 1 ∧ appX lvM1 lvX1 [lvC] = lvX2 := by
  obtain ⟨h, _⟩ := lv_app
  exact ⟨by unfold appN; rw [if_pos h]; rfl, by unfold appX; rw [if_pos h]; rfl⟩
theorem lv_clrX : clrX lvM2 lvX2 2 = lvX3 := by
  obtain ⟨h, _⟩ := lv_clr
  unfold clrX
  rw [if_pos h]
  rfl
theorem lv_layB : layB lvM3 1 7 40 = lvM3 := if_neg fun e => by
  have h := lv_small
  obtain ⟨_, S, hw⟩ := lv_clr
  have he := hw.is
  obtain ⟨_, _, _, _, e5⟩ := of_decide_eq_true e
  rw [he] at e5
  have : bY ⟨⟨S, [], false⟩ :: lvR, 0, false, 20⟩ 1 = 12 := by
    unfold bY
    rw [if_pos (by simp [dr, lvR])]
    rfl
  omega
set_option maxHeartbeats 1600000 in
theorem llives (C : LogI) (w : World) (T : Tbs w) : Calls Tryz.prog 13 #[] w fun e w' => e = .returned (.bool true) ∧ Below w.heap.size w w' := by
  have HTB := Lib.hid T
  clear T
  go_enter Tryz.func13, Tryz.ntmps13
  go_upto_region 1 with fail
  refine wp_region_lit ?_
  refine ao rfl (aq Tryz.call9 rfl (evc evk evn)) ?_
  refine (ltable C.R 50 w (by omega)).mono ?_
  rintro e w1 ⟨q, q2, F, F2, rfl, hb, hb2, hf, hf2, hd, hw⟩
  have HA := Lib.hid (show BAt C w w.heap.size (fun _ => False) w1 q lvM from ⟨F, hb, hf, hw, Bas.start HTB.out, fun _ e => e.elim⟩)
  clear hb hb2 hf hf2 hd hw
  refine ⟨_, rfl, ?_⟩
  simp only [Act.put, aa, ae, af]
  refine ag rfl (ah rfl (ev rfl)) ?_
  simp only [Act.put, aa, ae, af]
  refine ag rfl (az rfl (ev rfl) rfl) ?_
  simp only [Act.put, aa, ae, af]
  refine ag rfl (az rfl (ev rfl) rfl) ?_
  simp only [Act.put, aa, ae, af]
  refine ag rfl (az rfl (ev rfl) rfl) ?_
  simp only [Act.put, aa, ae, af]
  refine ag rfl (ar rfl (ev rfl)) ?_
  simp only [Act.put, aa, ae, af]
  refine ag rfl (ar rfl (ev rfl)) ?_
  simp only [Act.put, aa, ae, af]
  refine ag rfl (ar rfl (ev rfl)) ?_
  simp only [Act.put, aa, ae, af]
  refine wpList_nil ?_
  go_upto_region 4 with fail
  refine wp_region_lit ?_
  refine ag rfl (ah rfl (ev rfl)) ?_
  simp only [Act.put, aa, ae, af]
  refine ao rfl (aq Tryz.call22 rfl (evc (ev rfl) (evc evk evn))) ?_
  refine (BAt.open_ 0 HA.out).mono ?_
  rintro e w2 hq
  obtain ⟨rfl, hq, _⟩ := hq.no (by rw [lv_open]; decide)
  rw [lv_open]
  have HA2 := Lib.hid hq
  clear hq HA
  refine ⟨_, rfl, ?_⟩
  simp only [Act.put, aa, ae, af]
  refine ag rfl (ah rfl (ev rfl)) ?_
  simp only [Act.put, aa, ae, af]
  refine ag rfl (az rfl (ev rfl) rfl) ?_
  simp only [Act.put, aa, ae, af]
  refine ag rfl (az rfl (ev rfl) rfl) ?_
  simp only [Act.put, aa, ae, af]
  refine ag rfl (ar rfl (ev rfl)) ?_
  simp only [Act.put, aa, ae, af]
  refine ag rfl (ar rfl (ev rfl)) ?_
  simp only [Act.put, aa, ae, af]
  refine wpList_nil ?_
  go_upto_region 5 with fail
  refine wp_region_lit ?_
  refine ag rfl (ah rfl (ev rfl)) ?_
  simp only [Act.put, aa, ae, af]
  refine ao rfl (aq Tryz.call35 rfl (evc (ev rfl) (evc evk (evc evk (evc evk evn))))) ?_
  refine (BAt.lay 0 7 40 HA2.out lv_room.1 (by omega)).mono ?_
  rintro e w3 hq
  obtain ⟨p, rfl, hq, _⟩ := hq.yes lv_lay.1
  have HL3 := Lib.hid (show LAt C w w.heap.size (fun _ => False) w3 q p lvM1 lvX1 from hq)
  clear hq HA2
  refine ⟨_, rfl, ?_⟩
  simp only [Act.put, aa, ae, af]
  refine ag rfl (ah rfl (ev rfl)) ?_
  simp only [Act.put, aa, ae, af]
  refine ag rfl (az rfl (ev rfl) rfl) ?_
  simp only [Act.put, aa, ae, af]
  refine ag rfl (az rfl (ev rfl) rfl) ?_
  simp only [Act.put, aa, ae, af]
  refine ag rfl (ar rfl (ev rfl)) ?_
  simp only [Act.put, aa, ae, af]
  refine ag rfl (ar rfl (ev rfl)) ?_
  simp only [Act.put, aa, ae, af]
  refine wpList_nil ?_
  go_upto_region 6 with fail
  refine wp_region_lit ?_
  refine ag rfl (ah rfl (ev rfl)) ?_
  simp only [Act.put, aa, ae, af]
  refine ao rfl (aq Tryz.call23 rfl (evc (ev rfl) evn)) ?_
  refine (HL3.out.live lv_ok1).mono ?_
  rintro e w4 ⟨rfl, hb⟩
  have HL4 := Lib.hid (HL3.out.below hb)
  rw [show ((lvX1.fst : Nat) : Int) = 1 from rfl, show ((lvX1.next : Nat) : Int) = 1 from rfl]
  clear hb HL3
  refine ⟨_, rfl, ?_⟩
  simp only [Act.put, aa, ae, af]
  refine ag rfl (ah rfl (ev rfl)) ?_
  simp only [Act.put, aa, ae, af]
  refine ag rfl (az rfl (ev rfl) rfl) ?_
  simp only [Act.put, aa, ae, af]
  refine ag rfl (az rfl (ev rfl) rfl) ?_
  simp only [Act.put, aa, ae, af]
  refine ag rfl (ar rfl (ev rfl)) ?_
  simp only [Act.put, aa, ae, af]
  refine ag rfl (ar rfl (ev rfl)) ?_
  simp only [Act.put, aa, ae, af]
  refine wpList_nil ?_
  go_upto_region 7 with fail
  refine wp_region_lit ?_
  refine ag rfl (ah rfl (ev rfl)) ?_
  simp only [Act.put, aa, ae, af]
  refine ag rfl (bQ rfl fill_5) ?_
  simp only [Act.put, aa, ae, af]
  refine ag rfl (exec_bldC1 rfl (ev rfl)) ?_
  simp only [Act.put, aa, ae, af]
  refine ag rfl (dv (E := bG) (a := lvC) rfl (ev rfl) rfl (by show 66 ≤ _; omega)) ?_
  simp only [Act.put, aa, ae, af]
  have HB5 := Lib.hid ((Below.refl w4.heap.size w4).alloc (Nat.le_refl _) (.cells (cm lvC).toArray 104))
  have HR5 := Lib.hid (rdC_new1 w4 lvC)
  have HS5 : Hid (w4.heap.size + 1 ≤ (w4.alloc (.cells (cm lvC).toArray 104)).heap.size) := Lib.hid (by rw [World.size_alloc]; exact Nat.le_refl _)
  have HL5 := Lib.hid (HL4.out.below ((Below.refl w4.heap.size w4).alloc (Nat.le_refl _) (.cells (cm lvC).toArray 104)))
  change wpList _ _ _ _ _ (w4.alloc (.cells (cm lvC).toArray 104))
  generalize w4.alloc (.cells (cm lvC).toArray 104) = w5 at *
  clear HL4
  refine ao rfl (aq Tryz.call19 rfl (evc (ev rfl) (evc (ev rfl) evn))) ?_
  refine (HL5.out.app (some ⟨w4.heap.size, 0, none⟩) 1 1 (w4.heap.size + 1) [lvC] lv_ok1 lv_room.2.1 HR5.out HS5.out (by unfold maxLen; omega)).mono ?_
  rintro e w6 ⟨rfl, hq, _⟩
  rw [lv_appN.1, lv_app.1]
  have HL6 := Lib.hid (show LAt C w w.heap.size (fun _ => False) w6 q p lvM2 lvX2 by rw [← lv_appN.2]; exact hq)
  clear hq HL5 HR5 HS5
  refine ⟨_, rfl, ?_⟩
  simp only [Act.put, aa, ae, af]
  refine ag rfl (ah rfl (ev rfl)) ?_
  simp only [Act.put, aa, ae, af]
  refine ag rfl (az rfl (ev rfl) rfl) ?_
  simp only [Act.put, aa, ae, af]
  refine ag rfl (az rfl (ev rfl) rfl) ?_
  simp only [Act.put, aa, ae, af]
  refine ag rfl (ar rfl (ev rfl)) ?_
  simp only [Act.put, aa, ae, af]
  refine ag rfl (ar rfl (ev rfl)) ?_
  simp only [Act.put, aa, ae, af]
  refine wpList_nil ?_
  go_upto_region 8 with fail
  refine wp_region_lit ?_
  refine ag rfl (ah rfl (ev rfl)) ?_
  simp only [Act.put, aa, ae, af]
  refine ao rfl (aq Tryz.call31 rfl (evc (ev rfl) evn)) ?_
  refine (HL6.out.free lv_ok2).mono ?_
  rintro e w7 ⟨rfl, hb⟩
  have HL7 := Lib.hid (HL6.out.below hb)
  rw [lv_free2]
  clear hb HL6
  refine ⟨_, rfl, ?_⟩
  simp only [Act.put, aa, ae, af]
  refine ag rfl (ar rfl (ev rfl)) ?_
  simp only [Act.put, aa, ae, af]
  refine wpList_nil ?_
  go_upto_region 9 with fail
  refine wp_region_lit ?_
  refine ag rfl (ah rfl (ev rfl)) ?_
  simp only [Act.put, aa, ae, af]
  refine ao rfl (aq Tryz.call24 rfl (evc (ev rfl) (evc evk evn))) ?_
  refine (HL7.out.rec_ 1 lv_ok2 (by omega)).mono ?_
  rintro e w8 ⟨v8, rfl, hm, hb⟩
  rw [lv_rcd.1]
  rw [lv_rcd.2] at hm
  have HL8 := Lib.hid (HL7.out.guard (K' := fun b => v8.ownBlock = some b) hb (fun b e => .inr (hm.own_both b e)))
  have HM8 := Lib.hid hm
  clear hb hm HL7
  refine ⟨_, rfl, ?_⟩
  simp only [Act.put, aa, ae, af]
  refine ag rfl (ah rfl (ev rfl)) ?_
  simp only [Act.put, aa, ae, af]
  refine ag rfl (az rfl (ev rfl) rfl) ?_
  simp only [Act.put, aa, ae, af]
  refine ag rfl (az rfl (ev rfl) rfl) ?_
  simp only [Act.put, aa, ae, af]
  refine ag rfl (ar rfl (ev rfl)) ?_
  simp only [Act.put, aa, ae, af]
  refine ag rfl (ar rfl (ev rfl)) ?_
  simp only [Act.put, aa, ae, af]
  refine wpList_nil ?_
  go_upto_region 10 with fail
  refine wp_region_lit ?_
  refine ag rfl (ah rfl (ev rfl)) ?_
  simp only [Act.put, aa, ae, af]
  refine ao rfl (aq Tryz.call17 rfl (evc (ev rfl) (evc evk evn))) ?_
  refine (HL8.out.clr 2 lv_ok2 lv_room.2.2 (by omega)).mono ?_
  rintro e w9 ⟨rfl, hq, hkp⟩
  rw [lv_clr.1]
  have HL9 := Lib.hid (show LAt C w w.heap.size _ w9 q p lvM3 lvX3 by rw [← lv_clrX]; exact hq)
  have HM9 := Lib.hid (HM8.out.kept_ hkp)
  clear hq hkp HL8 HM8
  refine ⟨_, rfl, ?_⟩
  simp only [Act.put, aa, ae, af]
  refine ag rfl (ar rfl (ev rfl)) ?_
  simp only [Act.put, aa, ae, af]
  refine wpList_nil ?_
  go_upto_region 11 with fail
  refine wp_region_lit ?_
  refine ag rfl (ah rfl (ev rfl)) ?_
  simp only [Act.put, aa, ae, af]
  refine ao rfl (aq Tryz.call24 rfl (evc (ev rfl) (evc evk evn))) ?_
  refine (HL9.out.rec_ 1 lv_ok3 (by omega)).mono ?_
  rintro e wa ⟨v10, rfl, _, hb⟩
  rw [lv_dead]
  have HLa := Lib.hid (HL9.out.below hb)
  have HMa := Lib.hid (HM9.out.below hb)
  clear hb HL9 HM9
  refine ⟨_, rfl, ?_⟩
  simp only [Act.put, aa, ae, af]
  refine ag rfl (ah rfl (ev rfl)) ?_
  simp only [Act.put, aa, ae, af]
  refine ag rfl (az rfl (ev rfl) rfl) ?_
  simp only [Act.put, aa, ae, af]
  refine ag rfl (az rfl (ev rfl) rfl) ?_
  simp only [Act.put, aa, ae, af]
  refine ag rfl (ar rfl (ev rfl)) ?_
  simp only [Act.put, aa, ae, af]
  refine ag rfl (ar rfl (ev rfl)) ?_
  simp only [Act.put, aa, ae, af]
  refine wpList_nil ?_
  go_upto_region 12 with fail
  refine wp_region_lit ?_
  refine ag rfl (ah rfl (ev rfl)) ?_
  simp only [Act.put, aa, ae, af]
  refine ao rfl (aq Tryz.call35 rfl (evc (ev rfl) (evc evk (evc evk (evc evk evn))))) ?_
  refine (HLa.out.lay 1 7 40 lv_room3 (by omega)).mono ?_
  rintro e wb ⟨hkp, ⟨h0, _⟩ | ⟨_, rfl, hq⟩⟩
  · rw [lv_small] at h0; exact absurd h0 (by decide)
  rw [lv_small]
  have HLb := Lib.hid (show LAt C w w.heap.size _ wb q p lvM3 lvX3 by rw [← lv_layB]; exact hq)
  have HMb := Lib.hid (HMa.out.kept_ hkp)
  clear hq hkp HLa HMa
  obtain ⟨Ab, cb, rfl, hrb, hcb, _⟩ := HMb.out.open_ (show [lvC].length = 1 from rfl)
  have HRb := Lib.hid hrb
  clear hrb HMb
  refine ⟨_, rfl, ?_⟩
  simp only [Act.put, aa, ae, af]
  refine ag rfl (ah rfl (ev rfl)) ?_
  simp only [Act.put, aa, ae, af]
  refine ag rfl (az rfl (ev rfl) rfl) ?_
  simp only [Act.put, aa, ae, af]
  refine ag rfl (az rfl (ev rfl) rfl) ?_
  simp only [Act.put, aa, ae, af]
  refine ag rfl (ar rfl (ev rfl)) ?_
  simp only [Act.put, aa, ae, af]
  refine ag rfl (ar rfl (ev rfl)) ?_
  simp only [Act.put, aa, ae, af]
  refine wpList_nil ?_
  go_upto_region 13 with fail
  refine wp_region_lit ?_
  refine ag rfl (ah rfl (ev rfl)) ?_
  simp only [Act.put, aa, ae, af]
  refine ag (v := .bool true) rfl (aC true rfl (ev rfl) evk rfl) ?_
  simp only [Act.put, aa, ae, af]
  refine ag (v := .bool true) rfl (ah rfl (ev rfl)) ?_
  simp only [Act.put, aa, ae, af]
  refine ai (aj rfl rfl rfl rfl) (ah rfl (ev rfl)) ?_
  simp only [Act.put, aa, ae, af]
  refine ai (v := .bool true) (aj rfl rfl rfl rfl) (aC true rfl (ev rfl) evk rfl) ?_
  simp only [Act.put, aa, ae, af]
  refine ag (v := .bool true) rfl (aG rfl (ev rfl) (ev rfl)) ?_
  simp only [Act.put, aa, ae, af]
  refine ag (v := .bool true) rfl (ah rfl (ev rfl)) ?_
  simp only [Act.put, aa, ae, af]
  refine ai (aj rfl rfl rfl rfl) (ah rfl (ev rfl)) ?_
  simp only [Act.put, aa, ae, af]
  refine ai (v := .bool true) (aj rfl rfl rfl rfl) (aC true rfl (ev rfl) evk rfl) ?_
  simp only [Act.put, aa, ae, af]
  refine ag (v := .bool true) rfl (aG rfl (ev rfl) (ev rfl)) ?_
  simp only [Act.put, aa, ae, af]
  refine ag (v := .bool true) rfl (ah rfl (ev rfl)) ?_
  simp only [Act.put, aa, ae, af]
  refine ai (aj rfl rfl rfl rfl) (ah rfl (ev rfl)) ?_
  simp only [Act.put, aa, ae, af]
  refine ai (v := .bool true) (aj rfl rfl rfl rfl) (aC true rfl (ev rfl) evk rfl) ?_
  simp only [Act.put, aa, ae, af]
  refine ag (v := .bool true) rfl (aG rfl (ev rfl) (ev rfl)) ?_
  simp only [Act.put, aa, ae, af]
  refine ag (v := .bool true) rfl (ah rfl (ev rfl)) ?_
  simp only [Act.put, aa, ae, af]
  refine ai (aj rfl rfl rfl rfl) (ah rfl (ev rfl)) ?_
  simp only [Act.put, aa, ae, af]
  refine ai (v := .bool true) (aj rfl rfl rfl rfl) (aC true rfl (ev rfl) evk rfl) ?_
  simp only [Act.put, aa, ae, af]
  refine ag (v := .bool true) rfl (aG rfl (ev rfl) (ev rfl)) ?_
  simp only [Act.put, aa, ae, af]
  refine ag (v := .bool true) rfl (ah rfl (ev rfl)) ?_
  simp only [Act.put, aa, ae, af]
  refine ai (aj rfl rfl rfl rfl) (ah rfl (ev rfl)) ?_
  simp only [Act.put, aa, ae, af]
  refine ai (v := .bool true) (aj rfl rfl rfl rfl) (aC true rfl (ev rfl) evk rfl) ?_
  simp only [Act.put, aa, ae, af]
  refine ag (v := .bool true) rfl (aG rfl (ev rfl) (ev rfl)) ?_
  simp only [Act.put, aa, ae, af]
  refine ag (v := .bool true) rfl (ah rfl (ev rfl)) ?_
  simp only [Act.put, aa, ae, af]
  refine ai (aj rfl rfl rfl rfl) (ah rfl (ev rfl)) ?_
  simp only [Act.put, aa, ae, af]
  refine ai (v := .bool true) (aj rfl rfl rfl rfl) (aC true rfl (ev rfl) evk rfl) ?_
  simp only [Act.put, aa, ae, af]
  refine ag (v := .bool true) rfl (aG rfl (ev rfl) (ev rfl)) ?_
  simp only [Act.put, aa, ae, af]
  refine ag (v := .bool true) rfl (ah rfl (ev rfl)) ?_
  simp only [Act.put, aa, ae, af]
  refine ai (aj rfl rfl rfl rfl) (ah rfl (ev rfl)) ?_
  simp only [Act.put, aa, ae, af]
  refine ai (v := .bool true) (aj rfl rfl rfl rfl) (aC true rfl (ev rfl) evk rfl) ?_
  simp only [Act.put, aa, ae, af]
  refine ag (v := .bool true) rfl (aG rfl (ev rfl) (ev rfl)) ?_
  simp only [Act.put, aa, ae, af]
  refine ag (v := .bool true) rfl (ah rfl (ev rfl)) ?_
  simp only [Act.put, aa, ae, af]
  refine ai (aj rfl rfl rfl rfl) (ah rfl (ev rfl)) ?_
  simp only [Act.put, aa, ae, af]
  refine ai (aj rfl rfl rfl rfl) (bQ rfl fill_5) ?_
  simp only [Act.put, aa, ae, af]
  refine ai (aj rfl rfl rfl rfl) (exec_bldC1 rfl (ev rfl)) ?_
  simp only [Act.put, aa, ae, af]
  refine ai (aj rfl rfl rfl rfl) (dv (E := bG) (a := lvC) rfl (ev rfl) rfl (by show 66 ≤ _; omega)) ?_
  simp only [Act.put, aa, ae, af]
  have HB5 := Lib.hid ((Below.refl wb.heap.size wb).alloc (Nat.le_refl _) (.cells (cm lvC).toArray 104))
  have HR5 := Lib.hid (rdC_new1 wb lvC)
  have HS5 : Hid (wb.heap.size + 1 ≤ (wb.alloc (.cells (cm lvC).toArray 104)).heap.size) := Lib.hid (by rw [World.size_alloc]; exact Nat.le_refl _)
  have HL5 := Lib.hid (HLb.out.below ((Below.refl wb.heap.size wb).alloc (Nat.le_refl _) (.cells (cm lvC).toArray 104)))
  change wpList _ _ _ _ _ (wb.alloc (.cells (cm lvC).toArray 104))
  generalize wb.alloc (.cells (cm lvC).toArray 104) = w5 at *
  clear HLb
  have HRc := Lib.hid (HRb.out.step HB5.out)
  refine ao (aj rfl rfl rfl rfl) (aq Tryz.call25 rfl (evc (ev rfl) (evc (ev rfl) evn))) ?_
  refine (cells_any Ab (some ⟨wb.heap.size, 0, none⟩) 1 1 cb 1 w5.heap.size [lvC] [lvC] w5 HRc.out (HR5.out.more HS5.out) (Nat.le_refl _) (by unfold maxLen; omega)).mono ?_
  rintro e w12 ⟨rfl, hb⟩
  rw [show decide ([lvC] = [lvC]) = true from decide_eq_true rfl]
  have HLc := Lib.hid (HL5.out.below hb)
  clear hb
  refine ⟨_, rfl, ?_⟩
  simp only [Act.put, aa, ae, af]
  refine ag (v := .bool true) rfl (aG rfl (ev rfl) (ev rfl)) ?_
  simp only [Act.put, aa, ae, af]
  refine ag (v := .bool true) rfl (ah rfl (ev rfl)) ?_
  simp only [Act.put, aa, ae, af]
  refine ai (aj rfl rfl rfl rfl) (ah rfl (ev rfl)) ?_
  simp only [Act.put, aa, ae, af]
  refine ai (v := .bool true) (aj rfl rfl rfl rfl) (aC true rfl (ev rfl) evk rfl) ?_
  simp only [Act.put, aa, ae, af]
  refine ag (v := .bool true) rfl (aG rfl (ev rfl) (ev rfl)) ?_
  simp only [Act.put, aa, ae, af]
  refine ag (v := .bool true) rfl (ah rfl (ev rfl)) ?_
  simp only [Act.put, aa, ae, af]
  refine ai (aj rfl rfl rfl rfl) (ah rfl (ev rfl)) ?_
  simp only [Act.put, aa, ae, af]
  refine ao (aj rfl rfl rfl rfl) (aq Tryz.call31 rfl (evc (ev rfl) evn)) ?_
  refine (HLc.out.free lv_ok3).mono ?_
  rintro e w13 ⟨rfl, hb⟩
  have HLd := Lib.hid (HLc.out.below hb)
  rw [lv_free3]
  clear hb HLc
  refine ⟨_, rfl, ?_⟩
  simp only [Act.put, aa, ae, af]
  refine ai (v := .bool true) (aj rfl rfl rfl rfl) (aC true rfl (ev rfl) evk rfl) ?_
  simp only [Act.put, aa, ae, af]
  refine ag (v := .bool true) rfl (aG rfl (ev rfl) (ev rfl)) ?_
  simp only [Act.put, aa, ae, af]
  refine ag (v := .bool true) rfl (ah rfl (ev rfl)) ?_
  simp only [Act.put, aa, ae, af]
  refine ai (aj rfl rfl rfl rfl) (ah rfl (ev rfl)) ?_
  simp only [Act.put, aa, ae, af]
  refine ai (v := .bool true) (aj rfl rfl rfl rfl) (aC true rfl (ev rfl) evk rfl) ?_
  simp only [Act.put, aa, ae, af]
  refine ag (v := .bool true) rfl (aG rfl (ev rfl) (ev rfl)) ?_
  simp only [Act.put, aa, ae, af]
  refine ag (v := .bool true) rfl (ah rfl (ev rfl)) ?_
  simp only [Act.put, aa, ae, af]
  refine ai (aj rfl rfl rfl rfl) (ah rfl (ev rfl)) ?_
  simp only [Act.put, aa, ae, af]
  refine ai (v := .bool true) (aj rfl rfl rfl rfl) (aC true rfl (ev rfl) evk rfl) ?_
  simp only [Act.put, aa, ae, af]
  refine ag (v := .bool true) rfl (aG rfl (ev rfl) (ev rfl)) ?_
  simp only [Act.put, aa, ae, af]
  refine ag (v := .bool true) rfl (ar rfl (ev rfl)) ?_
  simp only [Act.put, aa, ae, af]
  refine wpList_nil ?_
  go_wp2_with fail
  go_ret
  exact ⟨rfl, HLd.out.bel⟩
open Go.RowKit Go.ChangeShapes Go.WideShapes Go.ChangeAt Go.Deep
theorem cellsB : Tryz.prog.cellsOf 65 = 64 := by kernel_rfl
section
variable {H : Type} {enc : TypeId × Value → H} {W : World} {base : Nat} {v : Value} {d : DataW H} {p : List MemPlace}
theorem one_u8 {m : Nat} {x : Value} {y : DataW H × List MemPlace} (h : DataW.trod enc Tryz.prog W 0 (fun _ => true) true m 5 [x] = some y) : ∃ u : UInt8, x = .int .u8 (u.toNat : Int) := by
  obtain ⟨k, e, _, hw⟩ := DataW.trod_int Tryz.underlying5 h
  have hr : 0 ≤ k ∧ k ≤ 255 := bounds_u8 hw
  injection e with e
  refine ⟨UInt8.ofNat k.toNat, ?_⟩
  rw [e, UInt8.toNat_ofNat']
  congr 1
  omega
theorem cel_of_trod {fuel : Nat} {cs : List Value} {x : DataW H × List MemPlace} (h : DataW.trod enc Tryz.prog W 0 (fun _ => true) true fuel 65 cs = some x) : ∃ b : Blk, cs = cel b := by
  obtain ⟨xs, m, _, _, hlen, hn, hel⟩ := DataW.trod_array undB h
  rw [cellsB] at hlen
  rw [u8cells] at hel
  have hu : ∀ i : Fin 64, ∃ u : UInt8, cs[i.val]? = some (.int .u8 (u.toNat : Int)) := fun i => by
    have h1 := hel i.val i.isLt
    have hi : i.val < cs.length := by have := i.isLt; omega
    have hd : (cs.drop (i.val * 1)).take 1 = [cs[i.val]] := by
      rw [Nat.mul_one, List.drop_eq_getElem_cons hi]
      rfl
    have hx : i.val < xs.length := by have := i.isLt; omega
    rw [hd, List.getElem?_eq_getElem hx] at h1
    obtain ⟨u, hu⟩ := one_u8 h1
    exact ⟨u, by rw [List.getElem?_eq_getElem hi, hu]⟩
  obtain ⟨f, hf⟩ := Classical.axiomOfChoice hu
  refine ⟨Vector.ofFn f, ?_⟩
  apply List.ext_getElem?
  intro i
  by_cases hi : i < 64
  · rw [hf ⟨i, hi⟩, dQ _ hi, eH _ hi]
    simp
  · rw [List.getElem?_eq_none (by omega), List.getElem?_eq_none (by rw [aw]; omega)]
end
theorem cellsI : Tryz.prog.cellsOf 3 = 1 := by kernel_rfl
section
variable {H : Type} {enc : TypeId × Value → H} {W : World} {base : Nat} {v : Value} {d : DataW H} {p : List MemPlace}
theorem at_int {m : Nat} {x : Value} {y : DataW H × List MemPlace} (h : DataW.trod enc Tryz.prog W 0 (fun _ => true) true m 3 [x] = some y) : ∃ k : Int, x = .int .i64 k := by
  obtain ⟨k, e, _, hw⟩ := DataW.trod_int Tryz.underlying3 h
  injection e with e
  exact ⟨k, e⟩
end
theorem cellsC : Tryz.prog.cellsOf 104 = 66 := by kernel_rfl
theorem cellsPl : Tryz.prog.cellsOf 102 = 2 := by kernel_rfl
section
variable {H : Type} {enc : TypeId × Value → H} {W : World} {base : Nat} {v : Value} {d : DataW H} {p : List MemPlace}
theorem at_place {fuel : Nat} {cs : List Value} {x : DataW H × List MemPlace} (h : DataW.trod enc Tryz.prog W 0 (fun _ => true) true fuel 102 cs = some x) : ∃ s m : Int, cs = celP s m := by
  obtain ⟨xs, k, _, _, hlen, hn, hel⟩ := DataW.trod_struct Tryz.underlying102 h
  rw [cellsPl] at hlen
  have hn' : xs.length = 2 := hn
  match cs, hlen, xs, hn' with
  | [a, b], _, [y0, y1], _ =>
    have e0 : DataW.trod enc Tryz.prog W 0 (fun _ => true) true k 3 ((List.drop 0 [a, b]).take (Tryz.prog.cellsOf 3)) = some y0 := hel 0 _ rfl
    rw [cellsI] at e0
    have e1 : DataW.trod enc Tryz.prog W 0 (fun _ => true) true k 3 ((List.drop 1 [a, b]).take (Tryz.prog.cellsOf 3)) = some y1 := hel 1 _ rfl
    rw [cellsI] at e1
    obtain ⟨s, rfl⟩ := at_int (show DataW.trod enc Tryz.prog W 0 (fun _ => true) true k 3 [a] = some y0 from e0)
    obtain ⟨m, rfl⟩ := at_int (show DataW.trod enc Tryz.prog W 0 (fun _ => true) true k 3 [b] = some y1 from e1)
    exact ⟨s, m, rfl⟩
theorem at_cell {fuel : Nat} {cs : List Value} {x : DataW H × List MemPlace} (h : DataW.trod enc Tryz.prog W 0 (fun _ => true) true fuel 104 cs = some x) : ∃ c : Cl, cs = cm c := by
  obtain ⟨xs, k, _, _, hlen, hn, hel⟩ := DataW.trod_struct Tryz.underlying104 h
  rw [cellsC] at hlen
  have hn' : xs.length = 2 := hn
  match xs, hn' with
  | [y0, y1], _ =>
    have e0 : DataW.trod enc Tryz.prog W 0 (fun _ => true) true k 102 ((List.drop 0 cs).take (Tryz.prog.cellsOf 102)) = some y0 := hel 0 _ rfl
    rw [cellsPl] at e0
    have e1 : DataW.trod enc Tryz.prog W 0 (fun _ => true) true k 65 ((List.drop 2 cs).take (Tryz.prog.cellsOf 65)) = some y1 := hel 1 _ rfl
    rw [cellsB] at e1
    obtain ⟨s, m, h0⟩ := at_place e0
    obtain ⟨b, h1⟩ := cel_of_trod e1
    refine ⟨⟨s, m, b⟩, ?_⟩
    have e : cs = (cs.drop 0).take 2 ++ (cs.drop 2).take 64 := by
      rw [List.drop_zero, List.take_of_length_le (l := cs.drop 2) (by simp; omega), List.take_append_drop]
    rw [e, h0, h1]
    rfl
end
section
variable {H : Type} {enc : TypeId × Value → H} {W : World} {base : Nat} {v : Value} {d : DataW H} {p : List MemPlace}
theorem elts_of_trod {α : Type} (E : Elt α) (Good : α → Prop) (hc : Tryz.prog.cellsOf E.t = E.n) {fuel : Nat} {cs : List Value} {x : DataW H × List MemPlace} (hf : DataW.trod enc Tryz.prog W 0 (fun _ => true) true fuel E.s cs = some x)
    (hE : ∀ (fuel : Nat) (cs : List Value) (x : DataW H × List MemPlace), DataW.trod enc Tryz.prog W 0 (fun _ => true) true fuel E.t cs = some x → ∃ a, cs = E.cel a ∧ Good a) :
    ∃ (A : Option Addr) (n c : Nat) (l : List α), cs = [.slice A n c] ∧ RdE E W W.heap.size A n l ∧ n ≤ c ∧ c ≤ maxLen ∧ ∀ k, k < n → Good (l.getD k E.d) := by
  rcases open_slice E.und hf with ⟨hcs, hx⟩ | ⟨a, len0, cap, m, n, D, Pl, hcs, hb, hl, hm, hmm, hx, hel⟩
  · exact ⟨none, 0, 0, [], hcs, RdE.nil _ _ _, by omega, by unfold maxLen; omega, fun k hk => absurd hk (by omega)⟩
  · simp only [if_true] at hmm
    subst hmm
    haveI : Inhabited α := ⟨E.d⟩
    obtain ⟨f, hf2⟩ := choose_lt (α := α) (p := fun i b => W.cells? 0 (a.add (i * E.n)) E.n = some (E.cel b) ∧ Good b) (n := m) (fun i hi => by
      obtain ⟨cs', h1, h2⟩ := hel i hi
      rw [hc] at h1
      obtain ⟨b, rfl, hg⟩ := hE _ _ _ h2
      exact ⟨b, h1, hg⟩)
    have hp := E.pos
    refine ⟨some a, len0, m, (List.range len0).map f, hcs, ⟨by simp, fun k hk => ?_⟩, hl, hm, fun k hk => ?_⟩
    · obtain ⟨b, off, spot⟩ := a
      have hzero : ∀ i, ∃ u, (E.cel (f i))[0]? = some u := fun i => ⟨_, List.getElem?_eq_getElem (by rw [E.len]; exact hp)⟩
      have hspot : spot = none := by
        obtain ⟨u, hu⟩ := hzero 0
        have h0 := (World.cells?_some (hf2 0 (by omega)).1).2.2 0 hp
        rw [hu] at h0
        have := World.cell?_spot h0
        simpa [Addr.add] using this
      subst hspot
      have hcc := World.cells?_some (hf2 k (by omega)).1
      refine ⟨b, off, rfl, ?_, fun j u hj => ?_⟩
      · obtain ⟨u, hu⟩ := hzero k
        have h0 := hcc.2.2 0 hp
        rw [hu, add_mid, add_mid] at h0
        exact World.block_lt_of_cell? W _ h0
      · have hlt : j < E.n := by have := (List.getElem?_eq_some_iff.1 hj).1; rwa [E.len] at this
        have h1 := hcc.2.2 j hlt
        rw [add_mid, add_mid] at h1
        rw [h1, ← hj]
        simp [List.getD, hk]
    · simpa [List.getD, hk] using (hf2 k (by omega)).2
theorem eP (fuel : Nat) (cs : List Value) (x : DataW H × List MemPlace) (h : DataW.trod enc Tryz.prog W 0 (fun _ => true) true fuel 3 cs = some x) : ∃ a : Int, cs = [.int .i64 a] ∧ (Lit.int .i64 a).wf = true := by
  obtain ⟨k, e, _, hw⟩ := DataW.trod_int Tryz.underlying3 h
  exact ⟨k, e, hw⟩
end
theorem u64_of_trod {H : Type} {enc : TypeId × Value → H} {W : World} (fuel : Nat) (cs : List Value) (x : DataW H × List MemPlace) (h : DataW.trod enc Tryz.prog W 0 (fun _ => true) true fuel 35 cs = some x) : ∃ a : Nat, cs = [.int .u64 (a : Int)] ∧ a < 18446744073709551616 := by
  obtain ⟨k, e, _, hw⟩ := DataW.trod_int Tryz.underlying35 h
  have hr := bounds_u64 hw
  obtain ⟨n, rfl⟩ := Int.eq_ofNat_of_zero_le hr.1
  exact ⟨n, e, by omega⟩
theorem u8_of_trod {H : Type} {enc : TypeId × Value → H} {W : World} (fuel : Nat) (cs : List Value) (x : DataW H × List MemPlace) (h : DataW.trod enc Tryz.prog W 0 (fun _ => true) true fuel 5 cs = some x) : ∃ a : UInt8, cs = [.int .u8 (a.toNat : Int)] := by
  obtain ⟨k, e, _, hw⟩ := DataW.trod_int Tryz.underlying5 h
  have hr : 0 ≤ k ∧ k ≤ 255 := bounds_u8 hw
  refine ⟨UInt8.ofNat k.toNat, ?_⟩
  rw [e, UInt8.toNat_ofNat']
  congr 2
  omega
theorem bool_of_trod {H : Type} {enc : TypeId × Value → H} {W : World} (fuel : Nat) (cs : List Value) (x : DataW H × List MemPlace) (h : DataW.trod enc Tryz.prog W 0 (fun _ => true) true fuel 4 cs = some x) : ∃ a : Bool, cs = [.bool a] := by
  obtain ⟨k, e, _⟩ := DataW.trod_bool Tryz.underlying4 h
  exact ⟨k, e⟩
theorem cell_of_trod {H : Type} {enc : TypeId × Value → H} {W : World} (fuel : Nat) (cs : List Value) (x : DataW H × List MemPlace) (h : DataW.trod enc Tryz.prog W 0 (fun _ => true) true fuel 104 cs = some x) : ∃ a : Cl, cs = bG.cel a ∧ True := by
  obtain ⟨c, e⟩ := at_cell h
  exact ⟨c, e, trivial⟩
theorem cells_of_trod {H : Type} {enc : TypeId × Value → H} {W : World} {fuel : Nat} {cs : List Value} {x : DataW H × List MemPlace} (h : DataW.trod enc Tryz.prog W 0 (fun _ => true) true fuel 34 cs = some x) :
    ∃ (A : Option Addr) (n c : Nat) (l : List Cl), cs = [.slice A n c] ∧ RdE bG W W.heap.size A n l ∧ n ≤ c ∧ c ≤ maxLen := by
  obtain ⟨A, n, c, l, e, h1, h2, h3, _⟩ := elts_of_trod bG (fun _ => True) (by kernel_rfl) h (fun fuel cs x h => cell_of_trod fuel cs x h)
  exact ⟨A, n, c, l, e, h1, h2, h3⟩
theorem ints_of_trod {H : Type} {enc : TypeId × Value → H} {W : World} {fuel : Nat} {cs : List Value} {x : DataW H × List MemPlace} (h : DataW.trod enc Tryz.prog W 0 (fun _ => true) true fuel 36 cs = some x) :
    ∃ (A : Option Addr) (n c : Nat) (l : List Int), cs = [.slice A n c] ∧ RdE dm W W.heap.size A n l ∧ n ≤ c ∧ c ≤ maxLen := by
  obtain ⟨A, n, c, l, e, h1, h2, h3, _⟩ := elts_of_trod dm (fun a => (Lit.int .i64 a).wf = true) (by kernel_rfl) h (fun fuel cs x h => eP fuel cs x h)
  exact ⟨A, n, c, l, e, h1, h2, h3⟩
def ClsIn (W : World) (A : Option Addr) (n c : Nat) : Prop := ∃ l : List Cl, RdE bG W W.heap.size A n l ∧ n ≤ c ∧ c ≤ maxLen
def IntsIn (W : World) (A : Option Addr) (n c : Nat) : Prop := ∃ l : List Int, RdE dm W W.heap.size A n l ∧ n ≤ c ∧ c ≤ maxLen
theorem eL {α : Type} (l : List α) (a k : Nat) : l.drop a = (l.drop a).take k ++ l.drop (a + k) := by
  conv => lhs; rw [← List.take_append_drop k (l.drop a)]
  rw [List.drop_drop]
structure Act14 where
  Do : Int
  D : Int
  CsA : Option Addr
  Csn : Nat
  Csc : Nat
  N : Nat
  Near : Bool
  Size : Int
  At : Int
  By : UInt8
  PsA : Option Addr
  Psn : Nat
  Psc : Nat
def Act14.C (a : Act14) : List Value := [.int .i64 a.Do] ++ ([.int .i64 a.D] ++ ([.slice a.CsA a.Csn a.Csc] ++ ([.int .u64 (a.N : Int)] ++ ([.bool a.Near] ++ ([.int .i64 a.Size] ++ ([.int .i64 a.At] ++ ([.int .u8 (a.By.toNat : Int)] ++ ([.slice a.PsA a.Psn a.Psc]))))))))
def Act14.V (a : Act14) : Value := .agg a.C.toArray
def Act14.In (W : World) (a : Act14) : Prop := (-9223372036854775808 ≤ a.Do ∧ a.Do ≤ 9223372036854775807) ∧ (-9223372036854775808 ≤ a.D ∧ a.D ≤ 9223372036854775807) ∧ (ClsIn W a.CsA a.Csn a.Csc) ∧ (a.N < 18446744073709551616) ∧ (-9223372036854775808 ≤ a.Size ∧ a.Size ≤ 9223372036854775807) ∧ (-9223372036854775808 ≤ a.At ∧ a.At ≤ 9223372036854775807) ∧ (IntsIn W a.PsA a.Psn a.Psc)
section
variable {H : Type} {enc : TypeId × Value → H} {W : World} {base : Nat} {v : Value} {d : DataW H} {p : List MemPlace}
theorem Act14.of_trod (fuel : Nat) (cs : List Value) (x : DataW H × List MemPlace) (h : DataW.trod enc Tryz.prog W 0 (fun _ => true) true fuel 38 cs = some x) : ∃ a : Act14, cs = a.C ∧ a.In W := by
  obtain ⟨xs, m, _, _, hlen, hxl, hf⟩ := DataW.trod_struct Tryz.underlying38 h
  have h0 : DataW.trod enc Tryz.prog W 0 (fun _ => true) true m 3 ((cs.drop 0).take (Tryz.prog.cellsOf 3)) = xs[0]? := hf 0 _ rfl
  have h1 : DataW.trod enc Tryz.prog W 0 (fun _ => true) true m 3 ((cs.drop 1).take (Tryz.prog.cellsOf 3)) = xs[1]? := hf 1 _ rfl
  have h2 : DataW.trod enc Tryz.prog W 0 (fun _ => true) true m 34 ((cs.drop 2).take (Tryz.prog.cellsOf 34)) = xs[2]? := hf 2 _ rfl
  have h3 : DataW.trod enc Tryz.prog W 0 (fun _ => true) true m 35 ((cs.drop 3).take (Tryz.prog.cellsOf 35)) = xs[3]? := hf 3 _ rfl
  have h4 : DataW.trod enc Tryz.prog W 0 (fun _ => true) true m 4 ((cs.drop 4).take (Tryz.prog.cellsOf 4)) = xs[4]? := hf 4 _ rfl
  have h5 : DataW.trod enc Tryz.prog W 0 (fun _ => true) true m 3 ((cs.drop 5).take (Tryz.prog.cellsOf 3)) = xs[5]? := hf 5 _ rfl
  have h6 : DataW.trod enc Tryz.prog W 0 (fun _ => true) true m 3 ((cs.drop 6).take (Tryz.prog.cellsOf 3)) = xs[6]? := hf 6 _ rfl
  have h7 : DataW.trod enc Tryz.prog W 0 (fun _ => true) true m 5 ((cs.drop 7).take (Tryz.prog.cellsOf 5)) = xs[7]? := hf 7 _ rfl
  have h8 : DataW.trod enc Tryz.prog W 0 (fun _ => true) true m 36 ((cs.drop 8).take (Tryz.prog.cellsOf 36)) = xs[8]? := hf 8 _ rfl
  have hxl2 : xs.length = 9 := hxl
  have hln : cs.length = 9 := hlen.trans (by kernel_rfl)
  rw [show Tryz.prog.cellsOf 3 = 1 from by kernel_rfl, List.getElem?_eq_getElem (by omega)] at h0
  rw [show Tryz.prog.cellsOf 3 = 1 from by kernel_rfl, List.getElem?_eq_getElem (by omega)] at h1
  rw [show Tryz.prog.cellsOf 34 = 1 from by kernel_rfl, List.getElem?_eq_getElem (by omega)] at h2
  rw [show Tryz.prog.cellsOf 35 = 1 from by kernel_rfl, List.getElem?_eq_getElem (by omega)] at h3
  rw [show Tryz.prog.cellsOf 4 = 1 from by kernel_rfl, List.getElem?_eq_getElem (by omega)] at h4
  rw [show Tryz.prog.cellsOf 3 = 1 from by kernel_rfl, List.getElem?_eq_getElem (by omega)] at h5
  rw [show Tryz.prog.cellsOf 3 = 1 from by kernel_rfl, List.getElem?_eq_getElem (by omega)] at h6
  rw [show Tryz.prog.cellsOf 5 = 1 from by kernel_rfl, List.getElem?_eq_getElem (by omega)] at h7
  rw [show Tryz.prog.cellsOf 36 = 1 from by kernel_rfl, List.getElem?_eq_getElem (by omega)] at h8
  obtain ⟨a0, e0, w0⟩ := eP _ _ _ h0
  have b0 := bounds_i64 w0
  obtain ⟨a1, e1, w1⟩ := eP _ _ _ h1
  have b1 := bounds_i64 w1
  obtain ⟨A2, n2, c2, l2, e2, r2, s2, t2⟩ := cells_of_trod h2
  obtain ⟨a3, e3, b3⟩ := u64_of_trod _ _ _ h3
  obtain ⟨a4, e4⟩ := bool_of_trod _ _ _ h4
  obtain ⟨a5, e5, w5⟩ := eP _ _ _ h5
  have b5 := bounds_i64 w5
  obtain ⟨a6, e6, w6⟩ := eP _ _ _ h6
  have b6 := bounds_i64 w6
  obtain ⟨a7, e7⟩ := u8_of_trod _ _ _ h7
  obtain ⟨A8, n8, c8, l8, e8, r8, s8, t8⟩ := ints_of_trod h8
  refine ⟨⟨a0, a1, A2, n2, c2, a3, a4, a5, a6, a7, A8, n8, c8⟩, ?_, ⟨b0, b1, ⟨l2, r2, s2, t2⟩, b3, b5, b6, ⟨l8, r8, s8, t8⟩⟩⟩
  have q8 : cs.drop 8 = [.slice A8 n8 c8] := by rw [← List.take_of_length_le (l := cs.drop 8) (i := 1) (by rw [List.length_drop]; omega)]; exact e8
  have q7 : cs.drop 7 = [.int .u8 (a7.toNat : Int)] ++ ([.slice A8 n8 c8]) := by rw [eL cs 7 1, e7, show 7 + 1 = 8 from rfl, q8]
  have q6 : cs.drop 6 = [.int .i64 a6] ++ ([.int .u8 (a7.toNat : Int)] ++ ([.slice A8 n8 c8])) := by rw [eL cs 6 1, e6, show 6 + 1 = 7 from rfl, q7]
  have q5 : cs.drop 5 = [.int .i64 a5] ++ ([.int .i64 a6] ++ ([.int .u8 (a7.toNat : Int)] ++ ([.slice A8 n8 c8]))) := by rw [eL cs 5 1, e5, show 5 + 1 = 6 from rfl, q6]
  have q4 : cs.drop 4 = [.bool a4] ++ ([.int .i64 a5] ++ ([.int .i64 a6] ++ ([.int .u8 (a7.toNat : Int)] ++ ([.slice A8 n8 c8])))) := by rw [eL cs 4 1, e4, show 4 + 1 = 5 from rfl, q5]
  have q3 : cs.drop 3 = [.int .u64 (a3 : Int)] ++ ([.bool a4] ++ ([.int .i64 a5] ++ ([.int .i64 a6] ++ ([.int .u8 (a7.toNat : Int)] ++ ([.slice A8 n8 c8]))))) := by rw [eL cs 3 1, e3, show 3 + 1 = 4 from rfl, q4]
  have q2 : cs.drop 2 = [.slice A2 n2 c2] ++ ([.int .u64 (a3 : Int)] ++ ([.bool a4] ++ ([.int .i64 a5] ++ ([.int .i64 a6] ++ ([.int .u8 (a7.toNat : Int)] ++ ([.slice A8 n8 c8])))))) := by rw [eL cs 2 1, e2, show 2 + 1 = 3 from rfl, q3]
  have q1 : cs.drop 1 = [.int .i64 a1] ++ ([.slice A2 n2 c2] ++ ([.int .u64 (a3 : Int)] ++ ([.bool a4] ++ ([.int .i64 a5] ++ ([.int .i64 a6] ++ ([.int .u8 (a7.toNat : Int)] ++ ([.slice A8 n8 c8]))))))) := by rw [eL cs 1 1, e1, show 1 + 1 = 2 from rfl, q2]
  have q0 : cs.drop 0 = [.int .i64 a0] ++ ([.int .i64 a1] ++ ([.slice A2 n2 c2] ++ ([.int .u64 (a3 : Int)] ++ ([.bool a4] ++ ([.int .i64 a5] ++ ([.int .i64 a6] ++ ([.int .u8 (a7.toNat : Int)] ++ ([.slice A8 n8 c8])))))))) := by rw [eL cs 0 1, e0, show 0 + 1 = 1 from rfl, q1]
  exact q0
theorem open_Act14 (hv : Value.okWide Tryz.prog W .any base 38 v) (h : DataW.Trod enc Tryz.prog W 0 (fun _ => true) true 38 v d p) : ∃ a : Act14, v = a.V ∧ a.In W := by
  obtain ⟨cs, rfl, hsz⟩ := okWide_struct Tryz.underlying38 hv
  obtain ⟨fuel, hf⟩ := h
  obtain ⟨a, ha, hp⟩ := Act14.of_trod _ _ _ hf
  refine ⟨a, ?_, hp⟩
  unfold Act14.V
  rw [← ha]
  simp [Value.cells]
end
section
variable {ρ : Operand → Value} {o : Oper} {x y : Operand} {w : World} {b off : Nat} {a c : Act14}
theorem exec_boxAct14 (ho : o.op = .box 38 x) (hx : ρ x = a.V) : (execOp ρ o).run Tryz.prog w = .ok (.value (.pointer (some ⟨w.heap.size, 0, none⟩))) (w.alloc (.cells a.C.toArray 38)) := er ho hx
end
section
variable {w w' : World} {b : Nat} {a : Act14}
theorem faAct141 : (Instr.fieldAt 38 (.pointer (some ⟨b, 0, none⟩)) 1).run Tryz.prog w = .ok (.pointer (some ⟨b, 1, none⟩)) w := by kernel_rfl
theorem faAct142 : (Instr.fieldAt 38 (.pointer (some ⟨b, 0, none⟩)) 2).run Tryz.prog w = .ok (.pointer (some ⟨b, 2, none⟩)) w := by kernel_rfl
theorem faAct143 : (Instr.fieldAt 38 (.pointer (some ⟨b, 0, none⟩)) 3).run Tryz.prog w = .ok (.pointer (some ⟨b, 3, none⟩)) w := by kernel_rfl
theorem faAct145 : (Instr.fieldAt 38 (.pointer (some ⟨b, 0, none⟩)) 5).run Tryz.prog w = .ok (.pointer (some ⟨b, 5, none⟩)) w := by kernel_rfl
def Act14.At_ (w : World) (b : Nat) (a : Act14) : Prop := w.heap[b]? = some (.cells a.C.toArray 38 (0, 0))
theorem Act14.At_.range (h : Act14.At_ w b a) : w.rangeAt b 0 a.C := dC h
theorem Act14.At_.below {B : Nat} (h : Act14.At_ w b a) (hB : b < B) (hb : Below B w w') : Act14.At_ w' b a := blk_keep2 h hB hb
theorem Act14.At_.new (w : World) (a : Act14) : Act14.At_ (w.alloc (.cells a.C.toArray 38)) w.heap.size a := heap_alloc_new w _
theorem Act14.At_.f1 (h : Act14.At_ w b a) : w.cell? ⟨b, 1, none⟩ = some (.int .i64 a.D) := by
  have := h.range 1 (.int .i64 a.D) (by
    show a.C[1]? = _
    rw [show 1 = 1 + 0 from rfl, ← List.getElem?_drop]
    rw [show a.C.drop 1 = [.int .i64 a.D] ++ ([.slice a.CsA a.Csn a.Csc] ++ ([.int .u64 (a.N : Int)] ++ ([.bool a.Near] ++ ([.int .i64 a.Size] ++ ([.int .i64 a.At] ++ ([.int .u8 (a.By.toNat : Int)] ++ ([.slice a.PsA a.Psn a.Psc]))))))) from ?_]
    · rfl
    · rfl)
  rwa [Nat.zero_add] at this
theorem Act14.At_.f2 (h : Act14.At_ w b a) : w.cell? ⟨b, 2, none⟩ = some (.slice a.CsA a.Csn a.Csc) := by
  have := h.range 2 (.slice a.CsA a.Csn a.Csc) (by
    show a.C[2]? = _
    rw [show 2 = 2 + 0 from rfl, ← List.getElem?_drop]
    rw [show a.C.drop 2 = [.slice a.CsA a.Csn a.Csc] ++ ([.int .u64 (a.N : Int)] ++ ([.bool a.Near] ++ ([.int .i64 a.Size] ++ ([.int .i64 a.At] ++ ([.int .u8 (a.By.toNat : Int)] ++ ([.slice a.PsA a.Psn a.Psc])))))) from ?_]
    · rfl
    · rfl)
  rwa [Nat.zero_add] at this
theorem Act14.At_.f3 (h : Act14.At_ w b a) : w.cell? ⟨b, 3, none⟩ = some (.int .u64 (a.N : Int)) := by
  have := h.range 3 (.int .u64 (a.N : Int)) (by
    show a.C[3]? = _
    rw [show 3 = 3 + 0 from rfl, ← List.getElem?_drop]
    rw [show a.C.drop 3 = [.int .u64 (a.N : Int)] ++ ([.bool a.Near] ++ ([.int .i64 a.Size] ++ ([.int .i64 a.At] ++ ([.int .u8 (a.By.toNat : Int)] ++ ([.slice a.PsA a.Psn a.Psc]))))) from ?_]
    · rfl
    · rfl)
  rwa [Nat.zero_add] at this
theorem Act14.At_.f5 (h : Act14.At_ w b a) : w.cell? ⟨b, 5, none⟩ = some (.int .i64 a.Size) := by
  have := h.range 5 (.int .i64 a.Size) (by
    show a.C[5]? = _
    rw [show 5 = 5 + 0 from rfl, ← List.getElem?_drop]
    rw [show a.C.drop 5 = [.int .i64 a.Size] ++ ([.int .i64 a.At] ++ ([.int .u8 (a.By.toNat : Int)] ++ ([.slice a.PsA a.Psn a.Psc]))) from ?_]
    · rfl
    · rfl)
  rwa [Nat.zero_add] at this
end
structure Step14 where
  Clear : Bool
  N : UInt8
  CsA : Option Addr
  Csn : Nat
  Csc : Nat
structure Spot14 where
  Kind : Int
  N : Int
  B : Blk
  Count : Nat
  Mark : Mrk
  Note : Nte
end Go.Proofs.YtcafafdimcecpaaGreatDoor
