/-
  The document's cells: Put.
-/
import Derived.Test.YtfemlaombdeebaaCra
import Derived.Test.YtfemlaombdeebaaCpt
import Derived.Test.YtfemlaombdeebaaCpa
import Derived.Test.YtfemlaombdeebaaApp
import Derived.IntWalk
namespace Go.Proofs.Ytfemlaombdeebaa
open Go.RowKit
set_option linter.unusedVariables false
set_option linter.unusedSimpArgs false
set_option maxRecDepth 100000

theorem digL1 (n : Nat) (h : n < 256) : digL 8 1 n = [UInt8.ofNat n] := by
  rw [digL_succ, show digL 8 0 (n / 2 ^ 8) = [] from rfl, Nat.mod_eq_of_lt (by omega)]
theorem digL2 (n : Nat) (h : n < 256) : digL 8 2 n = [UInt8.ofNat n, 0] := by
  rw [digL_succ, digL_succ, show digL 8 0 (n / 2 ^ 8 / 2 ^ 8) = [] from rfl, Nat.mod_eq_of_lt (by omega), Nat.div_eq_of_lt (by omega)]
  rfl
theorem vals_pl4 (s m : Nat) (b : Blk) (hs : s < 64) (hm : m < 16) : vals (pl4 ⟨(s : Int), (m : Int), b⟩) = [.int .u8 (s : Int), .int .u8 0, .int .u8 (m : Int), .int .u8 0] := by
  have h1 : (UInt8.ofNat s).toNat = s := by rw [UInt8.toNat_ofNat']; omega
  have h2 : (UInt8.ofNat m).toNat = m := by rw [UInt8.toNat_ofNat']; omega
  unfold pl4
  rw [Int.toNat_natCast, Int.toNat_natCast, digL2 s (by omega), digL1 m (by omega)]
  simp [vals, h1, h2]
section
variable {ρ : Operand → Value} {o : Oper} {x y z u : Operand} {w : World} {a b c d : Int}
theorem run_mk4U : (Instr.buildSlice 46 4 #[(0, .int .u8 a), (1, .int .u8 b), (2, .int .u8 c), (3, .int .u8 d)]).run Try.prog w = .ok (.slice (some ⟨w.heap.size, 0, none⟩) 4 4) (w.alloc (.cells #[.int .u8 a, .int .u8 b, .int .u8 c, .int .u8 d] 5)) := by kernel_rfl
theorem exec_mk4U (ho : o.op = .buildSlice 46 4 #[(0, x), (1, y), (2, z), (3, u)]) (h0 : ρ x = .int .u8 a) (h1 : ρ y = .int .u8 b) (h2 : ρ z = .int .u8 c) (h3 : ρ u = .int .u8 d) :
    (execOp ρ o).run Try.prog w = .ok (.value (.slice (some ⟨w.heap.size, 0, none⟩) 4 4)) (w.alloc (.cells #[.int .u8 a, .int .u8 b, .int .u8 c, .int .u8 d] 5)) := by
  unfold execOp
  simp only [ho, List.map_toArray, List.map_cons, List.map_nil, h0, h1, h2, h3, Sem.run_bind, run_mk4U, Result.andThen_ok, Sem.run_pure]
theorem exec_cvI8 {n : Nat} (ho : o.op = .convert 3 5 x) (hx : ρ x = .int .i64 (n : Int)) (hn : n < 256) : (execOp ρ o).run Try.prog w = .ok (.value (.int .u8 (n : Int))) w := by
  have h : IntKind.u8.wrap (n : Int) = (n : Int) := by rw [IntKind.wrap_u8]; omega
  have hc : (convert 3 5 (.int .i64 (n : Int))).run Try.prog w = .ok (.int .u8 (n : Int)) w := by simp [convert, go_sem, h]
  unfold execOp
  simp only [ho, hx, Sem.run_bind, hc, Result.andThen_ok, Sem.run_pure]
end
theorem rd_new4 {c : Cl} {a b d e : Value} (w : World) (t : TypeId) (h : vals (pl4 c) = [a, b, d, e]) : Rd (w.alloc (.cells #[a, b, d, e] t)) (w.heap.size + 1) (some ⟨w.heap.size, 0, none⟩) 4 (pl4 c) := by
  have h1 := RowL.new w (pl4 c) t
  rw [h] at h1
  have h2 := h1.rd (p := 0) (k := 4) (by rw [pl4_length]; omega)
  have h3 : piece (pl4 c) 0 4 = pl4 c := by
    unfold piece
    rw [List.drop_zero, List.take_of_length_le (by rw [pl4_length]; omega)]
  rw [h3, World.size_alloc] at h2
  exact h2
theorem Made.lt_own {w : World} {B : Nat} {v : Value} {l : List UInt8} (h : Made w B v l) : ∀ k, v.ownBlock = some k → B ≤ k := fun k hk => (h.lt k hk).1
set_option maxHeartbeats 8000000 in
theorem rcput (A : Option Addr) (n c N B : Nat) (l : List Cl) (w : World) (HB : Hid (B = w.heap.size)) (hl : RdE CellE w N A n l) (hN : N ≤ B) (hn : n ≤ 2199023255552) :
    Calls Try.prog 7 #[.slice A n c] w fun e w' => ∃ v, e = .returned (.tuple #[v, .int .i64 (recE l : Nat)]) ∧ MadeB w' B v (recP l) ∧ Below B w w' := by
  have HL := Lib.hid hl.1
  have HLE := Lib.hid (Nat.le_of_eq HB.out)
  by_cases h0 : n = 0
  · have HE := Lib.hid (recE_bad (l := l) (.inl (by rw [HL.out]; exact h0)))
    have HP := Lib.hid (recP_no (l := l) (by rw [HE.out]; omega))
    subst h0
    go_enter Try.func7, Try.ntmps7
    go_wp2_with fail
    go_ret2
    exact ⟨_, by rw [HE.out]; rfl, by rw [HP.out]; exact MadeB.nil _ _, Below.refl _ _⟩
  have HRD : Hid (∀ w' : World, Below B w w' → RdE CellE w' N A n l) := Lib.hid fun w' hb => hl.below (hb.mono hN)
  have HN0 := Lib.hid h0
  have hpos : 0 < n := by omega
  clear hl
  go_enter Try.func7, Try.ntmps7
  go_wp2_with fail
  go_loopw [4, 5] (fun v i wr => ∃ k : Nat, k ≤ n ∧ i = .int .i64 k ∧ (∀ j, j < k → okC (l.getD j zeroC) = true) ∧ Made wr B v (rowC (l.take k)) ∧ Below B w wr) (fun _ i _ => n - (intOf i).toNat)
  case atStart => exact ⟨0, Nat.zero_le _, rfl, fun j hj => absurd hj (by omega), World.ownsRow_nil _ _ _ _, Below.refl _ _⟩
  case round =>
    obtain ⟨k, hk, rfl, hj, hm, hbl⟩ := hrel
    have HJ := Lib.hid hj
    have HM := Lib.hid hm
    have HBL := Lib.hid hbl
    clear hj hm hbl
    by_cases hlt : k < n
    · obtain ⟨bA, oA, rfl, hA, cA⟩ := (HRD.out wr HBL.out).cl hlt
      have HLT := Lib.hid hlt
      have hkl : k < l.length := by rw [HL.out]; exact hlt
      have HA := Lib.hid cA
      have HT1 : Hid (decide ((k : Int) < (n : Int)) = true) := Lib.hid (decide_eq_true (by omega))
      have HBS := Lib.hid (Nat.le_trans HLE.out HBL.out.size)
      have HX := Lib.hid (rfl : l.getD k zeroC = l.getD k zeroC)
      generalize hx : l.getD k zeroC = x at *
      have HXX := Lib.hid hx
      clear cA hx HX
      cases hq : okC x
      · have HOK := Lib.hid hq
        have HE := Lib.hid (recE_bad (l := l) (.inr (badC_of (k := k) hkl (by rw [HXX.out]; exact hq))))
        have HPN := Lib.hid (recP_no (l := l) (by rw [HE.out]; omega))
        clear hq
        go_upto_region 5 with fail
        refine wp_region_lit ?_
        refine wpList_valn rfl (exec_mv rfl (ev rfl)) ?_
        simp only [Act.put, List.setIfInBounds_toArray, List.set_cons_succ, List.set_cons_zero]
        refine wpList_valn rfl (exec_mv rfl (ev rfl)) ?_
        simp only [Act.put, List.setIfInBounds_toArray, List.set_cons_succ, List.set_cons_zero]
        refine wpList_valn rfl (exec_lenC rfl (ev rfl)) ?_
        simp only [Act.put, List.setIfInBounds_toArray, List.set_cons_succ, List.set_cons_zero]
        refine wpList_valn (v := .bool true) rfl (exec_lss true rfl (ev rfl) (ev rfl) HT1.out) ?_
        simp only [Act.put, List.setIfInBounds_toArray, List.set_cons_succ, List.set_cons_zero]
        refine wpList_nil ?_
        go_upto_region 7 with fail
        refine wp_region_lit ?_
        refine wpList_valn rfl (exec_mv rfl (ev rfl)) ?_
        simp only [Act.put, List.setIfInBounds_toArray, List.set_cons_succ, List.set_cons_zero]
        refine wpList_valn rfl (exec_mv rfl (ev rfl)) ?_
        simp only [Act.put, List.setIfInBounds_toArray, List.set_cons_succ, List.set_cons_zero]
        refine wpList_valn rfl (exec_indexE (E := CellE) rfl (ev rfl) (ev rfl) HLT.out) ?_
        simp only [Act.put, List.setIfInBounds_toArray, List.set_cons_succ, List.set_cons_zero]
        refine wpList_valn rfl (exec_faddr rfl (ev rfl) faC0) ?_
        simp only [Act.put, List.setIfInBounds_toArray, List.set_cons_succ, List.set_cons_zero]
        refine wpList_valn rfl (exec_loadPl rfl (ev rfl) (cl_place HA.out)) ?_
        simp only [Act.put, List.setIfInBounds_toArray, List.set_cons_succ, List.set_cons_zero]
        refine wpList_valn rfl (exec_allocPl rfl) ?_
        simp only [Act.put, List.setIfInBounds_toArray, List.set_cons_succ, List.set_cons_zero]
        refine wpList_nuln rfl (exec_fillPl rfl (ev rfl) (ev rfl)) ?_
        simp only [Act.put, List.setIfInBounds_toArray, List.set_cons_succ, List.set_cons_zero]
        have HP := Lib.hid (range_new wr (celP x.s x.m) 41)
        have HB2 := Lib.hid (HBL.out.alloc HBS.out (.cells (celP x.s x.m).toArray 41))
        have HM2 := Lib.hid (HM.out.below ((Below.refl wr.heap.size wr).alloc (Nat.le_refl _) (.cells (celP x.s x.m).toArray 41)))
        have HQ := Lib.hid (show wr.heap.size < (wr.alloc (.cells (celP x.s x.m).toArray 41)).heap.size by rw [World.size_alloc]; omega)
        generalize wr.alloc (.cells (celP x.s x.m).toArray 41) = w2 at *
        generalize wr.heap.size = q at *
        clear HA HM HBL HBS
        refine wpList_nil ?_
        go_upto_region 8 with fail
        refine wp_region_lit ?_
        refine wpList_valn rfl (exec_loadPl rfl (ev rfl) HP.out) ?_
        simp only [Act.put, List.setIfInBounds_toArray, List.set_cons_succ, List.set_cons_zero]
        refine wpList_call rfl (exec_cl Try.call18 rfl (evc (ev rfl) evn)) ?_
        refine (rmayc x.s x.m w2).mono ?_
        rintro e w3 ⟨rfl, hb⟩
        rw [show okP x.s x.m = false from HOK.out]
        have HP3 := Lib.hid (range_below HP.out HQ.out hb)
        have HB3 := Lib.hid (HB2.out.trans (hb.mono (Nat.le_trans HLE.out HB2.out.size)))
        have HM3 := Lib.hid (HM2.out.below hb)
        clear hb HP HB2 HM2 HQ
        refine ⟨_, rfl, ?_⟩
        simp only [Act.put, List.setIfInBounds_toArray, List.set_cons_succ, List.set_cons_zero]
        refine wpList_valn (v := .bool true) rfl (exec_not false rfl (ev rfl)) ?_
        simp only [Act.put, List.setIfInBounds_toArray, List.set_cons_succ, List.set_cons_zero]
        refine wpList_nil ?_
        go_upto_region 9 with fail
        refine wp_region_lit ?_
        refine wpList_valn rfl (exec_as rfl evk) ?_
        simp only [Act.put, List.setIfInBounds_toArray, List.set_cons_succ, List.set_cons_zero]
        refine wpList_valn rfl (exec_as rfl evk) ?_
        simp only [Act.put, List.setIfInBounds_toArray, List.set_cons_succ, List.set_cons_zero]
        refine wpList_nil ?_
        go_wp2_with fail
        go_ret2
        exact ⟨_, by rw [HE.out]; rfl, by rw [HPN.out]; exact MadeB.nil _ _, HB3.out⟩
      · have HOK := Lib.hid hq
        obtain ⟨s, m, b, hxx, hs, hm16⟩ := cl_split hq
        have HROW : Hid (rowC (l.take (k + 1)) = rowC (l.take k) ++ pl4 x) := Lib.hid (by
          have h2 : l[k] = x := by have := HXX.out; simpa [List.getD, hkl] using this
          rw [List.take_succ_eq_append_getElem hkl, rowC_append, h2]
          simp [rowC])
        have HV := Lib.hid (vals_pl4 s m b hs hm16)
        rw [← hxx] at HV
        have hxs : x.s = (s : Int) := by rw [hxx]
        have hxm : x.m = (m : Int) := by rw [hxx]
        have HXS := Lib.hid hxs
        have HXM := Lib.hid hxm
        have HTK := Lib.hid (show (rowC (l.take k)).length = 4 * k by rw [rowC_length, List.length_take, HL.out, Nat.min_eq_left hk])
        have HS1 : Hid ((s : Int).tmod 256 = ((s : Nat) : Int)) := Lib.hid (by rw [Int.tmod_eq_emod_of_nonneg (by omega)]; omega)
        have HS2 : Hid (IntKind.i64.wrap ((s : Int).tdiv 256) = ((0 : Nat) : Int)) := Lib.hid (by rw [Int.tdiv_eq_ediv_of_nonneg (by omega), IntKind.wrap_i64]; omega)
        have HSS := Lib.hid hs
        have HMM := Lib.hid hm16
        clear hq hxx hxs hxm hkl
        go_upto_region 5 with fail
        refine wp_region_lit ?_
        refine wpList_valn rfl (exec_mv rfl (ev rfl)) ?_
        simp only [Act.put, List.setIfInBounds_toArray, List.set_cons_succ, List.set_cons_zero]
        refine wpList_valn rfl (exec_mv rfl (ev rfl)) ?_
        simp only [Act.put, List.setIfInBounds_toArray, List.set_cons_succ, List.set_cons_zero]
        refine wpList_valn rfl (exec_lenC rfl (ev rfl)) ?_
        simp only [Act.put, List.setIfInBounds_toArray, List.set_cons_succ, List.set_cons_zero]
        refine wpList_valn (v := .bool true) rfl (exec_lss true rfl (ev rfl) (ev rfl) HT1.out) ?_
        simp only [Act.put, List.setIfInBounds_toArray, List.set_cons_succ, List.set_cons_zero]
        refine wpList_nil ?_
        go_upto_region 7 with fail
        refine wp_region_lit ?_
        refine wpList_valn rfl (exec_mv rfl (ev rfl)) ?_
        simp only [Act.put, List.setIfInBounds_toArray, List.set_cons_succ, List.set_cons_zero]
        refine wpList_valn rfl (exec_mv rfl (ev rfl)) ?_
        simp only [Act.put, List.setIfInBounds_toArray, List.set_cons_succ, List.set_cons_zero]
        refine wpList_valn rfl (exec_indexE (E := CellE) rfl (ev rfl) (ev rfl) HLT.out) ?_
        simp only [Act.put, List.setIfInBounds_toArray, List.set_cons_succ, List.set_cons_zero]
        refine wpList_valn rfl (exec_faddr rfl (ev rfl) faC0) ?_
        simp only [Act.put, List.setIfInBounds_toArray, List.set_cons_succ, List.set_cons_zero]
        refine wpList_valn rfl (exec_loadPl rfl (ev rfl) (cl_place HA.out)) ?_
        simp only [Act.put, List.setIfInBounds_toArray, List.set_cons_succ, List.set_cons_zero]
        refine wpList_valn rfl (exec_allocPl rfl) ?_
        simp only [Act.put, List.setIfInBounds_toArray, List.set_cons_succ, List.set_cons_zero]
        refine wpList_nuln rfl (exec_fillPl rfl (ev rfl) (ev rfl)) ?_
        simp only [Act.put, List.setIfInBounds_toArray, List.set_cons_succ, List.set_cons_zero]
        have HP := Lib.hid (range_new wr (celP x.s x.m) 41)
        have HB2 := Lib.hid (HBL.out.alloc HBS.out (.cells (celP x.s x.m).toArray 41))
        have HM2 := Lib.hid (HM.out.below ((Below.refl wr.heap.size wr).alloc (Nat.le_refl _) (.cells (celP x.s x.m).toArray 41)))
        have HQ := Lib.hid (show wr.heap.size < (wr.alloc (.cells (celP x.s x.m).toArray 41)).heap.size by rw [World.size_alloc]; omega)
        generalize wr.alloc (.cells (celP x.s x.m).toArray 41) = w2 at *
        generalize wr.heap.size = q at *
        clear HA HM HBL HBS
        refine wpList_nil ?_
        go_upto_region 8 with fail
        refine wp_region_lit ?_
        refine wpList_valn rfl (exec_loadPl rfl (ev rfl) HP.out) ?_
        simp only [Act.put, List.setIfInBounds_toArray, List.set_cons_succ, List.set_cons_zero]
        refine wpList_call rfl (exec_cl Try.call18 rfl (evc (ev rfl) evn)) ?_
        refine (rmayc x.s x.m w2).mono ?_
        rintro e w3 ⟨rfl, hb⟩
        rw [show okP x.s x.m = true from HOK.out]
        have HP3 := Lib.hid (range_below HP.out HQ.out hb)
        have HB3 := Lib.hid (HB2.out.trans (hb.mono (Nat.le_trans HLE.out HB2.out.size)))
        have HM3 := Lib.hid (HM2.out.below hb)
        clear hb HP HB2 HM2 HQ
        refine ⟨_, rfl, ?_⟩
        simp only [Act.put, List.setIfInBounds_toArray, List.set_cons_succ, List.set_cons_zero]
        refine wpList_valn (v := .bool false) rfl (exec_not true rfl (ev rfl)) ?_
        simp only [Act.put, List.setIfInBounds_toArray, List.set_cons_succ, List.set_cons_zero]
        refine wpList_nil ?_
        go_upto_region 10 with fail
        refine wp_region_lit ?_
        refine wpList_valn rfl (exec_mv rfl (ev rfl)) ?_
        simp only [Act.put, List.setIfInBounds_toArray, List.set_cons_succ, List.set_cons_zero]
        refine wpList_valn rfl (exec_faddr rfl (ev rfl) faPl0) ?_
        simp only [Act.put, List.setIfInBounds_toArray, List.set_cons_succ, List.set_cons_zero]
        refine wpList_valn rfl (exec_ld (q := .int .i64 (s : Int)) rfl (ev rfl) (by rw [← HXS.out]; exact ldInt (pl_cells HP3.out).1)) ?_
        simp only [Act.put, List.setIfInBounds_toArray, List.set_cons_succ, List.set_cons_zero]
        refine wpList_valn rfl (exec_rem rfl (ev rfl) evk (by decide) HS1.out) ?_
        simp only [Act.put, List.setIfInBounds_toArray, List.set_cons_succ, List.set_cons_zero]
        refine wpList_valn rfl (exec_cvI8 rfl (ev rfl) (by have := HSS.out; omega)) ?_
        simp only [Act.put, List.setIfInBounds_toArray, List.set_cons_succ, List.set_cons_zero]
        refine wpList_valn rfl (exec_faddr rfl (ev rfl) faPl0) ?_
        simp only [Act.put, List.setIfInBounds_toArray, List.set_cons_succ, List.set_cons_zero]
        refine wpList_valn rfl (exec_ld (q := .int .i64 (s : Int)) rfl (ev rfl) (by rw [← HXS.out]; exact ldInt (pl_cells HP3.out).1)) ?_
        simp only [Act.put, List.setIfInBounds_toArray, List.set_cons_succ, List.set_cons_zero]
        refine wpList_valn rfl (exec_quo rfl (ev rfl) evk (by decide) HS2.out) ?_
        simp only [Act.put, List.setIfInBounds_toArray, List.set_cons_succ, List.set_cons_zero]
        refine wpList_valn rfl (exec_cvI8 rfl (ev rfl) (by omega)) ?_
        simp only [Act.put, List.setIfInBounds_toArray, List.set_cons_succ, List.set_cons_zero]
        refine wpList_valn rfl (exec_faddr rfl (ev rfl) faPl1) ?_
        simp only [Act.put, List.setIfInBounds_toArray, List.set_cons_succ, List.set_cons_zero]
        refine wpList_valn rfl (exec_ld (q := .int .i64 (m : Int)) rfl (ev rfl) (by rw [← HXM.out]; exact ldInt (pl_cells HP3.out).2)) ?_
        simp only [Act.put, List.setIfInBounds_toArray, List.set_cons_succ, List.set_cons_zero]
        refine wpList_valn rfl (exec_cvI8 rfl (ev rfl) (by have := HMM.out; omega)) ?_
        simp only [Act.put, List.setIfInBounds_toArray, List.set_cons_succ, List.set_cons_zero]
        refine wpList_valn rfl (exec_mk4U rfl (ev rfl) (ev rfl) (ev rfl) evk) ?_
        simp only [Act.put, List.setIfInBounds_toArray, List.set_cons_succ, List.set_cons_zero]
        refine wpList_app rfl _ _ rfl B (w3.heap.size + 1) 4 4 _ (rowC (l.take k)) (pl4 x) (some ⟨w3.heap.size, 0, none⟩) rfl rfl (HM3.out.below ((Below.refl _ w3).alloc (Nat.le_refl _) _)) ?_ (by rw [World.size_alloc]; exact Nat.le_succ_of_le (Nat.le_trans HLE.out HB3.out.size)) (by rw [HTK.out]; have := HLT.out; omega) ?_
        · exact rd_new4 w3 _ HV.out
        intro v4 w4 hm4 hg4
        rw [← HROW.out] at hm4
        have HM4 := Lib.hid hm4
        have HB4 := Lib.hid ((HB3.out.alloc (Nat.le_trans HLE.out HB3.out.size) _).grown hg4 (by rw [World.size_alloc]; exact Nat.le_succ_of_le (Nat.le_trans HLE.out HB3.out.size)) (fun j hj => HM3.out.lt_own j hj))
        clear hm4 hg4 HM3 HB3 HP3
        simp only [Act.put, List.setIfInBounds_toArray, List.set_cons_succ, List.set_cons_zero]
        refine wpList_valn rfl (exec_as rfl (ev rfl)) ?_
        simp only [Act.put, List.setIfInBounds_toArray, List.set_cons_succ, List.set_cons_zero]
        refine wpList_nil ?_
        go_wp2_with fail
        go_roundw
        case rel =>
          refine ⟨k + 1, by have := HLT.out; omega, by go_num, ?_, HM4.out, HB4.out⟩
          intro j hj
          by_cases h : j = k
          · subst h; rw [HXX.out]; exact HOK.out
          · exact HJ.out j (by omega)
        case measure => simp [intOf]; omega
    · have hkn : k = n := by omega
      subst hkn
      have hbad : badC l = false := badC_no fun j h => HJ.out j (by rw [← HL.out]; exact h)
      have HT0 : Hid (l.take k = l) := Lib.hid (List.take_of_length_le (by rw [HL.out]; exact Nat.le_refl _))
      rw [HT0.out] at HM
      by_cases h32 : k ≤ 32
      · have HE := Lib.hid (recE_ok (l := l) (by rw [HL.out]; omega) hbad (by rw [HL.out]; exact h32))
        have HP := Lib.hid (recP_ok (l := l) HE.out)
        have HBN := Lib.hid hbad
        have HRL := Lib.hid (show (rowC l).length = 4 * k by rw [rowC_length, HL.out])
        obtain ⟨A2, c2, rfl, hr2, hc2, hc3⟩ := HM.out.open_ HRL.out
        have HR2 := Lib.hid hr2
        have HSEC := Lib.hid (hd_sec k)
        have HREC : Hid (secs (hd k) (rowC l) ++ (blks l).take k = recL l) := Lib.hid (by
          unfold recL
          rw [HL.out, List.take_of_length_le (by rw [blks_length, HL.out]; exact Nat.le_refl _)])
        clear hr2 hbad HT0
        go_wp2_with fail
        refine (rsectors A2 (4 * k) c2 wr.heap.size wr.heap.size (rowC l) wr (Lib.hid rfl) HR2.out (Nat.le_refl _) (by omega)).mono ?_
        rintro e w2 ⟨v2, rfl, hm2, hb2⟩
        rw [HSEC.out] at hm2
        have HM2 := Lib.hid (MadeB.base hm2 (Nat.le_trans HLE.out HBL.out.size))
        have HB2 := Lib.hid (HBL.out.trans (hb2.mono (Nat.le_trans HLE.out HBL.out.size)))
        have HHD := Lib.hid (show hd k ≤ 2 by unfold hd; omega)
        have HSL := Lib.hid (secs_length (hd k) (rowC l))
        have HBKL := Lib.hid (show (blks l).length = k by rw [blks_length, HL.out])
        clear hm2 hb2 HM
        obtain ⟨wA, rfl⟩ : ∃ x, x = wr := ⟨_, rfl⟩
        go_wp2_with fail
        go_loopw [7, 8] (fun v i wr => ∃ j : Nat, j ≤ k ∧ i = .int .i64 j ∧ MadeB wr B v (secs (hd k) (rowC l) ++ (blks l).take j) ∧ Below B w wr) (fun _ i _ => k - (intOf i).toNat)
        case atStart => exact ⟨0, Nat.zero_le _, rfl, by rw [List.take_zero, List.append_nil]; exact HM2.out, HB2.out⟩
        case round =>
          clear HM2 HB2
          obtain ⟨j, hj, rfl, hm, hb⟩ := hrel
          have HM := Lib.hid hm
          have HB3 := Lib.hid hb
          clear hm hb
          by_cases hlt2 : j < k
          · obtain ⟨bA, oA, rfl, hA, cA⟩ := (HRD.out wr HB3.out).cl hlt2
            have HA := Lib.hid cA
            have HLT := Lib.hid hlt2
            have HT1 : Hid (decide ((j : Int) < (k : Int)) = true) := Lib.hid (decide_eq_true (by omega))
            have HN3 := Lib.hid (Nat.le_trans HLE.out HB3.out.size)
            have hjl : j < l.length := by rw [HL.out]; exact hlt2
            have HNX : Hid (secs (hd k) (rowC l) ++ (blks l).take (j + 1) = (secs (hd k) (rowC l) ++ (blks l).take j) ++ [(l.getD j zeroC).b]) := Lib.hid (by
              rw [List.take_succ_eq_append_getElem (by rw [blks_length]; exact hjl), List.append_assoc, List.getD, List.getElem?_eq_getElem hjl]
              simp [blks])
            have HLN : Hid ((secs (hd k) (rowC l) ++ (blks l).take j).length = hd k + j) := Lib.hid (by rw [List.length_append, HSL.out, List.length_take, HBKL.out, Nat.min_eq_left hj])
            generalize l.getD j zeroC = x at *
            clear cA hjl
            go_upto_region 15 with fail
            refine wp_region_lit ?_
            refine wpList_valn rfl (exec_mv rfl (ev rfl)) ?_
            simp only [Act.put, List.setIfInBounds_toArray, List.set_cons_succ, List.set_cons_zero]
            refine wpList_valn rfl (exec_mv rfl (ev rfl)) ?_
            simp only [Act.put, List.setIfInBounds_toArray, List.set_cons_succ, List.set_cons_zero]
            refine wpList_valn rfl (exec_lenC rfl (ev rfl)) ?_
            simp only [Act.put, List.setIfInBounds_toArray, List.set_cons_succ, List.set_cons_zero]
            refine wpList_valn (v := .bool true) rfl (exec_lss true rfl (ev rfl) (ev rfl) HT1.out) ?_
            simp only [Act.put, List.setIfInBounds_toArray, List.set_cons_succ, List.set_cons_zero]
            refine wpList_nil ?_
            go_upto_region 17 with fail
            refine wp_region_lit ?_
            refine wpList_valn rfl (exec_mv rfl (ev rfl)) ?_
            simp only [Act.put, List.setIfInBounds_toArray, List.set_cons_succ, List.set_cons_zero]
            refine wpList_valn rfl (exec_mv rfl (ev rfl)) ?_
            simp only [Act.put, List.setIfInBounds_toArray, List.set_cons_succ, List.set_cons_zero]
            refine wpList_valn rfl (exec_mv rfl (ev rfl)) ?_
            simp only [Act.put, List.setIfInBounds_toArray, List.set_cons_succ, List.set_cons_zero]
            refine wpList_valn rfl (exec_indexE (E := CellE) rfl (ev rfl) (ev rfl) HLT.out) ?_
            simp only [Act.put, List.setIfInBounds_toArray, List.set_cons_succ, List.set_cons_zero]
            refine wpList_valn rfl (exec_faddr rfl (ev rfl) faC1) ?_
            simp only [Act.put, List.setIfInBounds_toArray, List.set_cons_succ, List.set_cons_zero]
            refine wpList_valn rfl (exec_load rfl (ev rfl) (cl_blk HA.out)) ?_
            simp only [Act.put, List.setIfInBounds_toArray, List.set_cons_succ, List.set_cons_zero]
            refine wpList_valn rfl (exec_mk1B rfl (ev rfl)) ?_
            simp only [Act.put, List.setIfInBounds_toArray, List.set_cons_succ, List.set_cons_zero]
            refine wpList_appB rfl _ _ rfl B (wr.heap.size + 1) 1 1 _ (secs (hd k) (rowC l) ++ (blks l).take j) [x.b] (some ⟨wr.heap.size, 0, none⟩) rfl rfl (HM.out.below ((Below.refl _ wr).alloc (Nat.le_refl _) _)) (rdB_new1 wr x.b) (by rw [World.size_alloc]; exact Nat.le_succ_of_le HN3.out) (by rw [HLN.out]; have := HHD.out; have := HLT.out; omega) ?_
            intro v4 w4 hm4 hg4
            rw [← HNX.out] at hm4
            have HM4 := Lib.hid hm4
            have HB4 := Lib.hid ((HB3.out.alloc HN3.out _).grown hg4 (by rw [World.size_alloc]; exact Nat.le_succ_of_le HN3.out) (fun j hj => HM.out.ltB j hj))
            clear hm4 hg4
            simp only [Act.put, List.setIfInBounds_toArray, List.set_cons_succ, List.set_cons_zero]
            refine wpList_valn rfl (exec_as rfl (ev rfl)) ?_
            simp only [Act.put, List.setIfInBounds_toArray, List.set_cons_succ, List.set_cons_zero]
            refine wpList_nil ?_
            go_wp2_with fail
            go_roundw
            case rel => exact ⟨j + 1, by have := HLT.out; omega, by go_num, HM4.out, HB4.out⟩
            case measure => simp [intOf]; have := HLT.out; omega
          · have hjk : j = k := by omega
            subst hjk
            rw [HREC.out] at HM
            go_wp2_with fail
            go_ret2
            exact ⟨_, by rw [HE.out]; rfl, by rw [HP.out]; exact HM.out, HB3.out⟩
      · have HE := Lib.hid (recE_long (l := l) (by rw [HL.out]; omega) hbad (by rw [HL.out]; omega))
        have HPN := Lib.hid (recP_no (l := l) (by rw [HE.out]; omega))
        clear hbad HT0
        go_wp2_with fail
        go_ret2
        exact ⟨_, by rw [HE.out]; rfl, by rw [HPN.out]; exact MadeB.nil _ _, HBL.out⟩
end Go.Proofs.Ytfemlaombdeebaa
