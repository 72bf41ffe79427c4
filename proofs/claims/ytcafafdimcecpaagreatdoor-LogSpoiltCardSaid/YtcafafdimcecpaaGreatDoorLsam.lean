import Derived.Test.YtcafafdimcecpaaGreatDoorLsal
import Derived.Test.YtcafafdimcecpaaGreatDoorLsaj
import Derived.Test.YtcafafdimcecpaaGreatDoorLsak
import Derived.Test.YtcafafdimcecpaaGreatDoorLsaa
import Derived.Test.YtcafafdimcecpaaGreatDoorLsab
import Derived.Test.YtcafafdimcecpaaGreatDoorLsac
import Derived.Test.YtcafafdimcecpaaGreatDoorLsZ
namespace Go.Proofs.YtcafafdimcecpaaGreatDoor
open Go.RowKit
set_option linter.unusedVariables false
set_option maxRecDepth 100000
section
variable {w w' : World} {p : Nat} {v : Value} {Fs : Nat → Nat → Prop} {ps : List Nat} {M : BenS}
theorem c_lit_no {d : Int} (h0 : cR M d ≠ 0) : cR M d = 8 ∨ cR M d = 2 := by
  rcases cJ M d with ⟨e, _⟩ | ⟨e, _⟩ | ⟨e, _⟩
  · exact .inl e
  · exact .inr e
  · exact absurd e h0
theorem c_flush_no (d : Int) (h : BenAt bK w p v Fs ps M) (hl : flA6 M d ≠ 0) :
    Calls Tryz.prog 105 #[.pointer (some ⟨p, 0, none⟩), .int .i64 d] w fun e w' => e = .returned (.int .i64 (flE6 M d)) ∧ Left bK w p v Fs ps M.ds.length (flS6 M d) w' := by
  have HE : Hid (flE6 M d = flA6 M d) := Lib.hid (by unfold flE6; rw [if_neg hl])
  have HL := Lib.hid (Left.same h (M' := flS6 M d) (by unfold flS6; rw [if_neg hl]))
  have HO := Lib.hid (c_asks d h)
  by_cases h0 : cR M d = 0
  · rcases cJ M d with ⟨e, _⟩ | ⟨e, _⟩ | ⟨e, hdk, k, rfl, hk⟩
    · omega
    · omega
    obtain ⟨x, hx⟩ : ∃ x, M.ds.getD k bu = x := ⟨_, rfl⟩
    have hat := h.devs.at_ k hk
    rw [hx] at hat
    have hg : x.g = true := by
      cases hg : x.g
      · exfalso; apply hl; unfold flA6; rw [if_pos e, show M.dev (k : Int) = x from hx, hg, if_neg (by decide)]
      · rfl
    have H9 : Hid (flA6 M (k : Int) = 9) := Lib.hid (by unfold flA6; rw [if_pos e, show M.dev (k : Int) = x from hx, hg, if_pos rfl])
    obtain ⟨g, c, rfl, _, _⟩ := h.slice
    obtain ⟨c0, c1, c2, c3⟩ := h.dl
    have ck := h.cell hk
    obtain ⟨AS, cS, d0, d2⟩ := rv_cells hat
    rw [hg] at d2
    rw [e] at HO
    clear e h hat hx hdk hl h0 hg
    generalize ps.getD k 0 = q at *
    go_enter Tryz.func105, Tryz.ntmps105
    go_wp2_with fail
    refine HO.out.mono ?_
    rintro e w1 ⟨rfl, rfl⟩
    go_wp2_with fail
    go_ret
    exact ⟨aL (by rw [HE.out, H9.out]), HL.out⟩
  · have HA : Hid (flA6 M d = cR M d) := Lib.hid (by unfold flA6; rw [if_neg h0])
    clear h hl
    rw [HE.out, HA.out]
    rcases c_lit_no h0 with e | e
    all_goals
      rw [e] at HO ⊢
      clear e h0
      go_enter Tryz.func105, Tryz.ntmps105
      go_wp2_with fail
      refine HO.out.mono ?_
      rintro e w1 ⟨rfl, rfl⟩
      go_wp2_with fail
      go_ret
      exact ⟨rfl, HL.out⟩
theorem c_flush (d : Int) (h : BenAt bK w p v Fs ps M) (hs : M.steps < 1000000) (hll : M.left < 9223372036854775808) :
    Calls Tryz.prog 105 #[.pointer (some ⟨p, 0, none⟩), .int .i64 d] w fun e w' => e = .returned (.int .i64 (flE6 M d)) ∧ Left bK w p v Fs ps M.ds.length (flS6 M d) w' := by
  by_cases hl : flA6 M d = 0
  rotate_left 1
  · exact c_flush_no d h hl
  have hlit : cR M d = 0 := by
    unfold flA6 at hl
    by_cases h0 : cR M d = 0
    · exact h0
    · rw [if_neg h0] at hl; exact hl
  rcases cJ M d with ⟨e, _⟩ | ⟨e, _⟩ | ⟨e, hdk, k, rfl, hk⟩
  · omega
  · omega
  obtain ⟨x, hx⟩ : ∃ x, M.ds.getD k bu = x := ⟨_, rfl⟩
  have hat := h.devs.at_ k hk
  rw [hx] at hat
  have hg : x.g = false := by
    cases hg : x.g
    · rfl
    · exfalso; unfold flA6 at hl; rw [if_pos e, show M.dev (k : Int) = x from hx, hg, if_pos rfl] at hl; omega
  have HEE : Hid (flE6 M (k : Int) = M.dz) := Lib.hid (by unfold flE6; rw [if_pos hl])
  have HO := Lib.hid (c_asks (k : Int) h)
  rw [e] at HO
  have HST := Lib.hid (c_step h hs hll)
  obtain ⟨q, hq⟩ : ∃ q, ps.getD k 0 = q := ⟨_, rfl⟩
  obtain ⟨g, c, rfl, _, _⟩ := h.slice
  obtain ⟨c0, c1, c2, c3⟩ := h.dl
  have ck := h.cell hk
  obtain ⟨AS, cS, d0, d2⟩ := rv_cells hat
  rw [hg] at d2
  rw [hq] at ck d2 d0
  by_cases h1 : M.left = 1
  · have HE : Hid (M.dz = 8) := Lib.hid (by unfold BenS.dz; rw [if_pos h1])
    have HN : Hid (M.step = M.night) := Lib.hid (by unfold BenS.step; rw [if_pos h1])
    have HS : Hid (flS6 M (k : Int) = M.night) := Lib.hid (by unfold flS6; rw [if_pos hl, if_pos h1])
    clear e h hat hx hdk hl hg h1 hlit hs hll hq
    go_enter Tryz.func105, Tryz.ntmps105
    go_wp2_with fail
    refine HO.out.mono ?_
    rintro e w1 ⟨rfl, rfl⟩
    go_wp2_with fail
    refine HST.out.mono ?_
    rintro e w2 ⟨rfl, h2, ho2⟩
    rw [HE.out]
    have H2 := Lib.hid h2
    have HO2 := Lib.hid ho2
    clear h2 ho2
    go_wp2_with fail
    go_ret
    refine ⟨aL (by rw [HEE.out, HE.out]), ?_⟩
    rw [HS.out, ← HN.out]
    exact Left.obj H2.out HO2.out (by rw [HN.out]; rfl)
  · have HE : Hid (M.dz = 0) := Lib.hid (by unfold BenS.dz; rw [if_neg h1])
    have HN : Hid (M.step = M.done) := Lib.hid (by unfold BenS.step; rw [if_neg h1])
    have HS : Hid (flS6 M (k : Int) = M.done.put k ⟨flS x.S x.L, [], x.g⟩) := Lib.hid (by unfold flS6; rw [if_pos hl, if_neg h1, show M.dev (k : Int) = x from hx]; rfl)
    have HX := Lib.hid hx
    have HG := Lib.hid hg
    have HQ := Lib.hid hq
    clear e h hat hx hdk hl hg h1 hlit hs hll hq
    go_enter Tryz.func105, Tryz.ntmps105
    go_wp2_with fail
    refine HO.out.mono ?_
    rintro e w1 ⟨rfl, rfl⟩
    go_wp2_with fail
    refine HST.out.mono ?_
    rintro e w2 ⟨rfl, h2, ho2⟩
    rw [HE.out]
    rw [HN.out] at h2
    obtain ⟨e0, e1, e2, e3⟩ := h2.dl
    have ek := BenAt.cell (M := M.done) h2 (i := k) hk
    rw [HQ.out] at ek
    have hat2 := h2.devs.at_ k hk
    rw [show M.done.ds.getD k bu = x from HX.out, HQ.out] at hat2
    have HD := Lib.hid (rv_flush hat2)
    have H2 := Lib.hid h2
    have HO2 := Lib.hid ho2
    clear h2 ho2 hat2 c0 c1 c2 c3 ck d0 d2
    go_wp2_with fail
    refine HD.out.mono ?_
    rintro e w3 ⟨rfl, F', g1, g2, g3⟩
    rw [HG.out]
    have HL := Lib.hid (Left.behind HO2.out (Left.turn H2.out (i := k) hk g2 g3 (d := ⟨flS x.S x.L, [], x.g⟩) (show Rv _ _ _ _ _ _ by rw [HQ.out]; simpa [HG.out] using g1) HS.out))
    clear g1 g2 g3
    go_wp2_with fail
    go_ret
    exact ⟨aL (by rw [HEE.out, HE.out]), HL.out⟩
set_option maxHeartbeats 1000000 in
theorem c_insert (d : Int) (h : BenAt bK w p v Fs ps M) (hcap : ∀ i, i < M.ds.length → 1 ≤ (M.ds.getD i bu).S.length ∧ (M.ds.getD i bu).S.length ≤ 512) :
    Calls Tryz.prog 46 #[.pointer (some ⟨p, 0, none⟩), .int .i64 d] w fun e w' => e = .returned (.int .i64 (inE6 M d)) ∧ Left bK w p v Fs ps M.ds.length (inS6 M d) w' := by
  have HO := Lib.hid (c_asks d h)
  by_cases h0 : cR M d = 0
  · rcases cJ M d with ⟨e, _⟩ | ⟨e, _⟩ | ⟨e, hdk, k, rfl, hk⟩
    · omega
    · omega
    obtain ⟨x, hx⟩ : ∃ x, M.ds.getD k bu = x := ⟨_, rfl⟩
    have hat := h.devs.at_ k hk
    have hS := hcap k hk
    rw [hx] at hat hS
    obtain ⟨g, c, rfl, _, _⟩ := h.slice
    obtain ⟨c0, c1, c2, c3⟩ := h.dl
    have ck := h.cell hk
    have fk := h.frozen k
    obtain ⟨AS, cS, d0, d2⟩ := rv_cells hat
    obtain ⟨q, hq⟩ : ∃ q, ps.getD k 0 = q := ⟨_, rfl⟩
    rw [hq] at ck d2 d0
    rw [e] at HO
    cases hg : x.g
    · have HE : Hid (inE6 M (k : Int) = 17) := Lib.hid (by unfold inE6; rw [if_pos e, show M.dev (k : Int) = x from hx, hg, if_neg (by decide)])
      have HL := Lib.hid (Left.same h (M' := inS6 M (k : Int)) (by unfold inS6; rw [HE.out, if_neg (by decide)]))
      rw [hg] at d2
      clear e h hat hx hdk h0 hg hq hS hcap
      go_enter Tryz.func46, Tryz.ntmps46
      go_wp2_with fail
      refine HO.out.mono ?_
      rintro e w1 ⟨rfl, rfl⟩
      go_wp2_with fail
      go_ret
      exact ⟨aL HE.out.symm, HL.out⟩
    · have HE : Hid (inE6 M (k : Int) = 0) := Lib.hid (by unfold inE6; rw [if_pos e, show M.dev (k : Int) = x from hx, hg, if_pos rfl])
      have HS : Hid (inS6 M (k : Int) = M.put k ⟨List.replicate x.S.length al, [], false⟩) := Lib.hid (by unfold inS6; rw [HE.out, if_pos rfl, show M.dev (k : Int) = x from hx]; rfl)
      obtain ⟨hS1, hS2⟩ := hS
      have HH := Lib.hid h
      rw [hg] at d2
      clear e h hat hx hdk h0 hg hq hcap
      go_enter Tryz.func46, Tryz.ntmps46
      go_wp2_with fail
      refine HO.out.mono ?_
      rintro e w1 ⟨rfl, rfl⟩
      go_wp2_with fail
      refine (rv_new x.S.length w hS1 hS2).mono ?_
      rintro e w4 ⟨p', F', rfl, hd4, hb4, hF4⟩
      have h4 := HH.out.below hb4
      have HSW := Lib.hid (HH.out.swap hk hb4 hF4 (d := ⟨List.replicate x.S.length al, [], false⟩) hd4)
      have HB4 := Lib.hid hb4
      have HF4 := Lib.hid hF4
      obtain ⟨e0, e1, e2, e3⟩ := h4.dl
      have ek := h4.cell hk
      have efk := h4.frozen k
      clear hd4 hb4 hF4 h4 c0 c1 c2 c3 ck fk d0 d2
      go_wp2_with fail
      go_ret
      refine ⟨aL HE.out.symm, ?_⟩
      rw [HS.out]
      refine ⟨_, _, HSW.out, ((Only.of_below _ HB4.out).setCell (p := ⟨g, k, none⟩) (.inl (.inr (.inl rfl))) _), fun b hb => ?_⟩
      rcases hb with e | e | ⟨j, hj, e | e⟩
      · exact .inl (.inl e)
      · exact .inl (.inr (.inl e))
      · exact .inr (HF4.out b e.2)
      · exact .inl (.inr (.inr ⟨j, by rwa [M.put_len] at hj, e.2⟩))
  · have HA : Hid (inE6 M d = cR M d) := Lib.hid (by unfold inE6; rw [if_neg h0])
    have HL := Lib.hid (Left.same h (M' := inS6 M d) (by unfold inS6; rw [HA.out, if_neg h0]))
    clear h hcap
    rw [HA.out]
    rcases c_lit_no h0 with e | e
    all_goals
      rw [e] at HO ⊢
      clear e h0
      go_enter Tryz.func46, Tryz.ntmps46
      go_wp2_with fail
      refine HO.out.mono ?_
      rintro e w1 ⟨rfl, rfl⟩
      go_wp2_with fail
      go_ret
      exact ⟨rfl, HL.out⟩
end
section
variable {w w' : World} {p : Nat} {v : Value} {Fs : Nat → Nat → Prop} {ps : List Nat} {M : BenS}
theorem faRb0 {b : Nat} : (Instr.fieldAt 136 (.pointer (some ⟨b, 0, none⟩)) 0).run Tryz.prog w = .ok (.pointer (some ⟨b, 0, none⟩)) w := by kernel_rfl
theorem ldRs {a : Addr} {A : Option Addr} {n c : Nat} (h : w.cell? a = some (.slice A n c)) : (Instr.loadAt 134 (.pointer (some a))).run Tryz.prog w = .ok (.slice A n c) w := by simp [go_sem, h]
theorem ldRp {a : Addr} {A : Option Addr} (h : w.cell? a = some (.pointer A)) : (Instr.loadAt 133 (.pointer (some a))).run Tryz.prog w = .ok (.pointer A) w := by simp [go_sem, h]
theorem exec_ixR {k : BKind} {ρ : Operand → Value} {o : Oper} {x y : Operand} {w : World} {b n c j : Nat} (ho : o.op = .indexAddr k.E.s x y) (hx : ρ x = .slice (some ⟨b, 0, none⟩) n c) (hy : ρ y = .int .i64 (j : Int)) (hj : j < n) : (execOp ρ o).run Tryz.prog w = .ok (.value (.pointer (some ⟨b, j, none⟩))) w := by
  have h := aZ (E := k.E) (w := w) ho hx hy hj
  rwa [show 0 + j * k.E.n = j from by show 0 + j * 1 = j; omega] at h
set_option maxHeartbeats 1000000 in
theorem c_write_no (d n : Int) (x : Blk) (h : BenAt bK w p v Fs ps M) (hr : bW M d n ≠ 0) :
    Calls Tryz.prog 28 #[.pointer (some ⟨p, 0, none⟩), .int .i64 d, .int .i64 n, blk x] w fun e w' => e = .returned (.int .i64 (bW M d n)) ∧ Below w.heap.size w w' := by
  have hA := (Below.refl w.heap.size w).alloc (Nat.le_refl _) (.cells (cel x).toArray 65)
  have h1 := h.below hA
  have HO := Lib.hid (c_asks d h1)
  have HA := Lib.hid hA
  by_cases h0 : cR M d = 0
  · rcases cJ M d with ⟨e, _⟩ | ⟨e, _⟩ | ⟨e, hdk, k, rfl, hk⟩
    · omega
    · omega
    obtain ⟨y, hy⟩ : ∃ y, M.ds.getD k bu = y := ⟨_, rfl⟩
    have hat := h1.devs.at_ k hk
    rw [hy] at hat
    have hr0 : bW M (k : Int) n = cf y.S y.g n := by unfold bW; rw [if_pos e, M.dev_nat, hy]
    rw [hr0] at hr ⊢
    have HD := Lib.hid (rv_asks n hat)
    obtain ⟨g, c, rfl, _, _⟩ := h1.slice
    obtain ⟨c0, c1, c2, c3⟩ := h1.dl
    have ck := h1.cell hk
    rw [e] at HO
    clear e h h1 hA hat hy hdk h0 hr0
    generalize ps.getD k 0 = q at *
    rcases dR (S := y.S) (g := y.g) (n := n) with e | e | ⟨e, _⟩
    rotate_right 1
    · exact absurd e hr
    all_goals
      rw [e] at HD ⊢
      clear e hr
      go_enter Tryz.func28, Tryz.ntmps28
      go_wp2_with (first | (refine ai rfl (bG rfl rfl) ?_) | fail)
      refine HO.out.mono ?_
      rintro e w1 ⟨rfl, rfl⟩
      go_wp2_with fail
      refine HD.out.mono ?_
      rintro e w2 ⟨rfl, rfl⟩
      go_wp2_with fail
      go_ret
      exact ⟨rfl, HA.out⟩
  · have hr0 : bW M d n = cR M d := by unfold bW; rw [if_neg h0]
    rw [hr0]
    clear h h1 hA hr hr0
    rcases c_lit_no h0 with e | e
    all_goals
      rw [e] at HO ⊢
      clear e h0
      go_enter Tryz.func28, Tryz.ntmps28
      go_wp2_with (first | (refine ai rfl (bG rfl rfl) ?_) | fail)
      refine HO.out.mono ?_
      rintro e w1 ⟨rfl, rfl⟩
      go_wp2_with fail
      go_ret
      exact ⟨rfl, HA.out⟩
set_option maxHeartbeats 2000000 in
theorem c_write_do (n : Int) (x : Blk) (h : BenAt bK w p v Fs ps M) {k : Nat} (hdk : M.ce = false) (hk : k < M.ds.length) (he : cf (M.ds.getD k bu).S (M.ds.getD k bu).g n = 0) (hs : M.steps < 1000000) (hll : M.left < 9223372036854775808) (hL : (M.ds.getD k bu).L.length < 1000000) :
    Calls Tryz.prog 28 #[.pointer (some ⟨p, 0, none⟩), .int .i64 k, .int .i64 n, blk x] w fun e w' => e = .returned (.int .i64 M.dz) ∧ Left bK w p v Fs ps M.ds.length (wrS6 M (k : Int) n x) w' := by
  obtain ⟨y, hy⟩ : ∃ y, M.ds.getD k bu = y := ⟨_, rfl⟩
  obtain ⟨q, hq⟩ : ∃ q, ps.getD k 0 = q := ⟨_, rfl⟩
  have hA := (Below.refl w.heap.size w).alloc (Nat.le_refl _) (.cells (cel x).toArray 65)
  have h1 := h.below hA
  have HO := Lib.hid (c_asks (k : Int) h1)
  rw [litE_ok hdk hk] at HO
  have hat := h1.devs.at_ k hk
  have hr0 : bW M (k : Int) n = 0 := by unfold bW; rw [if_pos (litE_ok hdk hk), M.dev_nat]; exact he
  rw [hy, hq] at hat
  rw [hy] at he hL
  have HD := Lib.hid (rv_asks n hat)
  rw [he] at HD
  have HST := Lib.hid (c_step h1 hs hll)
  obtain ⟨g, c, rfl, _, _⟩ := h1.slice
  obtain ⟨c0, c1, c2, c3⟩ := h1.dl
  have ck := h1.cell hk
  rw [hq] at ck
  have HA := Lib.hid hA
  have HE := Lib.hid he
  have HL := Lib.hid hL
  have HY := Lib.hid hy
  have HQ := Lib.hid hq
  have HR := Lib.hid hr0
  have HB := Lib.hid (new1 w (cel x).toArray 65)
  have HPW := Lib.hid (aS h.at_)
  by_cases h2 : M.left = 1
  · have HE1 : Hid (M.dz = 8) := Lib.hid (by unfold BenS.dz; rw [if_pos h2])
    have HN : Hid (M.step = M.night) := Lib.hid (by unfold BenS.step; rw [if_pos h2])
    have HW : Hid (wrS6 M (k : Int) n x = M.night) := Lib.hid (by unfold wrS6; rw [if_pos hr0, if_pos h2])
    clear h h1 h2 hA hat hr0 hy hq hdk he hs hll hL
    go_enter Tryz.func28, Tryz.ntmps28
    go_wp2_with (first | (refine ai rfl (bG rfl rfl) ?_) | fail)
    refine HO.out.mono ?_
    rintro e w1 ⟨rfl, rfl⟩
    go_wp2_with fail
    refine HD.out.mono ?_
    rintro e w2 ⟨rfl, rfl⟩
    go_wp2_with fail
    refine HST.out.mono ?_
    rintro e w3 ⟨rfl, h3, ho3⟩
    rw [HE1.out]
    have HLL := Lib.hid (Left.above HA.out (Left.obj h3 ho3 (n := M.ds.length) (by rw [HN.out]; rfl)))
    clear h3 ho3
    go_wp2_with fail
    go_ret
    exact ⟨aL HE1.out.symm, by rw [HW.out, ← HN.out]; exact HLL.out⟩
  · have HE1 : Hid (M.dz = 0) := Lib.hid (by unfold BenS.dz; rw [if_neg h2])
    have HN : Hid (M.step = M.done) := Lib.hid (by unfold BenS.step; rw [if_neg h2])
    have HW : Hid (wrS6 M (k : Int) n x = M.done.put k ⟨y.S, wrL y.S y.L y.g n x, y.g⟩) := Lib.hid (by unfold wrS6; rw [if_pos hr0, if_neg h2, show M.dev (k : Int) = y from hy]; rfl)
    clear h h1 h2 hA hat hr0 hy hq hdk he hs hll hL
    go_enter Tryz.func28, Tryz.ntmps28
    go_wp2_with (first | (refine ai rfl (bG rfl rfl) ?_) | fail)
    refine HO.out.mono ?_
    rintro e w1 ⟨rfl, rfl⟩
    go_wp2_with fail
    refine HD.out.mono ?_
    rintro e w2 ⟨rfl, rfl⟩
    go_wp2_with fail
    refine HST.out.mono ?_
    rintro e w3 ⟨rfl, h3, ho3⟩
    rw [HE1.out]
    rw [HN.out] at h3
    have hb3 := ho3.keep HB.out (fun e => by have := HPW.out; omega)
    have H3 := Lib.hid h3
    have HB3 := Lib.hid hb3
    have HO3 := Lib.hid (Only.trans (Only.of_below (fun b => b = p) HA.out) ho3 fun b hb => .inl hb)
    clear h3 ho3 hb3 c0 c1 c2 c3 ck
    go_wp2_with fail
    have hdr : BenAt bK w3.drew p (.slice (some ⟨g, 0, none⟩) M.ds.length c) Fs ps M.done := H3.out.below (bd (Below.refl _ _))
    refine wp_region_still_tail 9 (by kernel_rfl) (by kernel_rfl) ?_
    simp only [List.take_succ_cons, List.take_zero, List.drop_succ_cons, List.drop_zero]
    refine av rfl (ah rfl (ev rfl)) ?_
    simp only [Act.put, aa, ae, af]
    refine av rfl (ay rfl (ev rfl)) ?_
    simp only [Act.put, aa, ae, af]
    refine av rfl (ak rfl (ev rfl) faRb0) ?_
    simp only [Act.put, aa, ae, af]
    refine av rfl (au rfl (ev rfl) (ldRs hdr.dl.1)) ?_
    simp only [Act.put, aa, ae, af]
    refine av rfl (ah rfl (ev rfl)) ?_
    simp only [Act.put, aa, ae, af]
    refine av rfl (exec_ixR (k := bK) rfl (ev rfl) (ev rfl) hk) ?_
    simp only [Act.put, aa, ae, af]
    refine av rfl (au rfl (ev rfl) (ldRp (BenAt.cell (M := M.done) hdr (i := k) hk))) ?_
    simp only [Act.put, aa, ae, af]
    refine av rfl (ah rfl (ev rfl)) ?_
    simp only [Act.put, aa, ae, af]
    refine av rfl (aI rfl (ev rfl) (blk_range HB3.out)) ?_
    simp only [Act.put, aa, ae, af]
    refine wpStill_nil ?_
    change wpList _ _ _ _ _ w3.drew
    rw [HQ.out]
    have hat3 := hdr.devs.at_ k hk
    rw [show M.done.ds.getD k bu = y from HY.out, HQ.out] at hat3
    have HDR := Lib.hid hdr
    have HD3 := Lib.hid (rv_write n x HL.out hat3)
    clear hdr hat3
    go_wp2_with fail
    refine HD3.out.mono ?_
    rintro e w4 ⟨rfl, F', g1, g2, g3⟩
    rw [HE.out]
    have HLT := Lib.hid (Left.behind (HO3.out.drew) (Left.turn HDR.out (i := k) hk g2 g3 (d := ⟨y.S, wrL y.S y.L y.g n x, y.g⟩) (show Rv _ _ _ _ _ _ by rw [HQ.out]; exact g1) HW.out))
    clear g1 g2 g3
    go_wp2_with fail
    go_ret
    exact ⟨aL HE1.out.symm, HLT.out⟩
theorem c_write (d n : Int) (x : Blk) (h : BenAt bK w p v Fs ps M) (hr : ∀ i, i < M.ds.length → (M.ds.getD i bu).L.length < 1000000) (hs : M.steps < 1000000) (hll : M.left < 9223372036854775808) :
    Calls Tryz.prog 28 #[.pointer (some ⟨p, 0, none⟩), .int .i64 d, .int .i64 n, blk x] w fun e w' => e = .returned (.int .i64 (wrE6 M d n)) ∧ Left bK w p v Fs ps M.ds.length (wrS6 M d n x) w' := by
  by_cases hr0 : bW M d n = 0
  · have hlit : cR M d = 0 := by
      by_cases h0 : cR M d = 0
      · exact h0
      · unfold bW at hr0; rw [if_neg h0] at hr0; exact hr0
    rcases cJ M d with ⟨e, _⟩ | ⟨e, _⟩ | ⟨e, hdk, k, rfl, hk⟩
    · omega
    · omega
    have he : cf (M.ds.getD k bu).S (M.ds.getD k bu).g n = 0 := by unfold bW at hr0; rwa [if_pos e, M.dev_nat] at hr0
    refine (c_write_do n x h hdk hk he hs hll (hr k hk)).mono ?_
    rintro e w' ⟨rfl, hl⟩
    exact ⟨by unfold wrE6; rw [if_pos hr0], hl⟩
  · refine (c_write_no d n x h hr0).mono ?_
    rintro e w' ⟨rfl, hb⟩
    exact ⟨by unfold wrE6; rw [if_neg hr0], Left.below_ h hb (by unfold wrS6; rw [if_neg hr0])⟩
set_option maxHeartbeats 2000000 in
theorem c_crash {A : Option Addr} {n c : Nat} {P : List Int} (h : BenAt bK w p v Fs ps M) (hP : Pk w (dK p v Fs M.ds.length) A n c P) :
    Calls Tryz.prog 41 #[.pointer (some ⟨p, 0, none⟩), .slice A n c] w fun e w' => e = .returned (.int .i64 0) ∧ Left bK w p v Fs ps M.ds.length (crS6 M P) w' := by
  obtain ⟨g, cc, rfl, _, hcm⟩ := h.slice
  unfold maxLen at hcm
  have HH := Lib.hid h
  have HP := Lib.hid hP
  have hlen : M.ds.length ≤ 17 := h.cap
  clear h hP
  go_enter Tryz.func41, Tryz.ntmps41
  go_wp2_with fail
  go_loopw [1, 5] (fun pk i wr => ∃ (j : Nat) (A' : Option Addr) (n' c' : Nat) (Fs' : Nat → Nat → Prop), j ≤ M.ds.length ∧ i = .int .i64 j ∧ pk = .slice A' n' c' ∧ Pk w (dK p (.slice (some ⟨g, 0, none⟩) M.ds.length cc) Fs M.ds.length) A' n' c' (cY M.ds P j).2 ∧ eC bK w wr p (.slice (some ⟨g, 0, none⟩) M.ds.length cc) Fs ps M P j Fs') (fun _ i _ => M.ds.length - (intOf i).toNat)
  case atStart => exact ⟨0, A, n, c, Fs, Nat.zero_le _, rfl, rfl, by rw [show (cY M.ds P 0).2 = P from by rw [cY]]; exact HP.out, eC.zero HH.out P⟩
  case round =>
    obtain ⟨j, A', n', c', Fs', hj, rfl, rfl, hpk, hct⟩ := hrel
    obtain ⟨c0, c1, c2, c3⟩ := hct.1.dl
    by_cases hlt : j < M.ds.length
    · have hlj : (j : Int) < (M.ds.length : Int) := by omega
      have hcell : wr.cell? ⟨g, j, none⟩ = some (.pointer (some ⟨ps.getD j 0, 0, none⟩)) := by
        have h1 := hct.1
        have hl : (cY M.ds P j).1.length = M.ds.length := eY j M.ds P
        have h2 : BenAt bK wr p (.slice (some ⟨g, 0, none⟩) (⟨(cY M.ds P j).1, M.left, M.ce, M.steps⟩ : BenS).ds.length cc) Fs' ps ⟨(cY M.ds P j).1, M.left, M.ce, M.steps⟩ := by
          rw [show (⟨(cY M.ds P j).1, M.left, M.ce, M.steps⟩ : BenS).ds.length = M.ds.length from hl]; exact h1
        exact h2.cell (by show j < (cY M.ds P j).1.length; rw [hl]; exact hlt)
      obtain ⟨x, hx⟩ : ∃ x, M.ds.getD j bu = x := ⟨_, rfl⟩
      obtain ⟨Q, hQ⟩ : ∃ Q, (cY M.ds P j).2 = Q := ⟨_, rfl⟩
      have hdv := hct.dev hlt
      rw [hx] at hdv
      rw [hQ] at hpk
      have hnx := (crIn_succ j M.ds P hlt).2
      rw [hx, hQ] at hnx
      have hrd := hpk.only hct.2.1
      have HC := Lib.hid (rv_crash (c := c') hrd (hpk.grown (w' := w) fun b hb => hct.2.2 b (.inr (.inr ⟨j, hlt, hb⟩))) hdv)
      have HCT := Lib.hid hct
      have HPK := Lib.hid hpk
      have HX := Lib.hid hx
      have HQ := Lib.hid hQ
      have HNX := Lib.hid hnx
      have hql : (min x.L.length n' : Nat) ≤ n' := Nat.min_le_right _ _
      have hpl := hpk.len
      have HPL := Lib.hid hpl
      clear hx hQ hdv hrd hct hpk hnx hpl
      generalize hqq : ps.getD j 0 = q at *
      have HQQ := Lib.hid hqq
      clear hqq
      generalize hmm : min x.L.length n' = m at *
      have HMM := Lib.hid hmm
      clear hmm
      go_wp2_with fail
      refine HC.out.mono ?_
      rintro e w2 ⟨rfl, F'', g1, g2, g3⟩
      go_wp2_with (first | (refine ai rfl (exec_tailI rfl rfl rfl hql) ?_) | fail)
      go_roundw
      case rel => exact ⟨j + 1, _, _, _, _, by omega, by go_num, rfl, by rw [HNX.out, HPL.out, HMM.out]; exact HPK.out.tail hql, HCT.out.next hlt g2 g3 (by rw [HQQ.out, HX.out, HQ.out]; exact g1)⟩
      case measure => simp [intOf]; omega
    · have hjn : j = M.ds.length := by omega
      subst hjn
      have hlj : ¬((M.ds.length : Int) < (M.ds.length : Int)) := by omega
      have h1 := hct.1
      rw [crIn_all] at h1
      have f1 := frozen_of_row wr p 1 _ _ h1.at_
      have f2 := frozen_of_row wr p 2 _ _ h1.at_
      have HH1 := Lib.hid h1
      have HCT := Lib.hid hct
      clear h1 hct hpk
      go_wp2_with fail
      go_ret
      have ho : Only (fun b => b = p) wr ((wr.setCell ⟨p, 1, none⟩ (.int .i64 0)).setCell ⟨p, 2, none⟩ (.bool false)) := (cy wr p 1 (.int .i64 0)).setCell (p := ⟨p, 2, none⟩) (.inl rfl) (.bool false)
      have h3 := heap_setCell_same _ p 2 _ _ (.bool false) (heap_setCell_same wr p 1 _ _ (.int .i64 0) HH1.out.at_)
      refine ⟨rfl, Fs', ps, HH1.out.obj 0 false M.steps ho (by simpa [bK] using h3), HCT.out.2.1.trans ho fun b hb => .inl (.inl hb), ?_⟩
      have hl : (crAll M.ds P).length = M.ds.length := by rw [← crIn_all, eY]
      show Grow w _ (dK p _ Fs' (crAll M.ds P).length)
      rw [hl]
      exact HCT.out.2.2
end
section
variable {w w' : World}
set_option maxHeartbeats 2000000 in
theorem c_new {A : Option Addr} {n c : Nat} {ks : List Int} (hl : RdE IntE w w.heap.size A n ks) (hnc : n ≤ c) (hc : c ≤ maxLen) :
    Calls Tryz.prog 38 #[.slice A n c] w (dZ bK w ks) := by
  have hlen : ks.length = n := hl.1
  unfold maxLen at hc
  by_cases h1 : n < 1
  · have HN := Lib.hid (show ¬ newOk ks from fun h => by have := h.1; omega)
    have h0 : n = 0 := by omega
    subst h0
    clear hl hlen h1
    go_enter Tryz.func38, Tryz.ntmps38
    go_wp2
    go_ret2
    exact dZ.no (Below.refl _ _) HN.out rfl
  by_cases h2 : 17 < n
  · have HN := Lib.hid (show ¬ newOk ks from fun h => by have := h.2.1; omega)
    have h1' : ¬((n : Int) < 1) := by omega
    have h2' : ((n : Int) > 17) := by omega
    clear hl hlen h1 h2
    go_enter Tryz.func38, Tryz.ntmps38
    go_wp2
    go_ret2
    exact dZ.no (Below.refl _ _) HN.out rfl
  have h1' : ¬((n : Int) < 1) := by omega
  have h2' : ¬((n : Int) > 17) := by omega
  have h3' : ¬(17 < (n : Int)) := by omega
  have HL := Lib.hid hl
  have HLEN := Lib.hid hlen
  have HMK := Lib.hid (show Making bK w (w.alloc (.cells #[.slice none 0 0, .int .i64 0, .bool false, .int .i64 0] 136)) (.slice none 0 0) (fun _ _ => False) [] [] 0 false 0 from
    ⟨heap_alloc_new w _, az.nil _ _, ⟨rfl, fun i hi => absurd hi (Nat.not_lt_zero i), fun i j hi => absurd hi (Nat.not_lt_zero i)⟩, fun i hi => absurd hi (Nat.not_lt_zero i), (Below.refl _ w).alloc (Nat.le_refl _) _⟩)
  clear hl hlen
  go_enter Tryz.func38, Tryz.ntmps38
  go_wp2_with fail
  generalize w.alloc (.cells #[.slice none 0 0, .int .i64 0, .bool false, .int .i64 0] 136) = w0 at *
  clear h1' h2' h3'
  go_loopw [5] (fun i wr => ∃ (j : Nat) (v : Value) (Fs : Nat → Nat → Prop) (ps : List Nat), j ≤ n ∧ i = .int .i64 j ∧ Making bK w wr v Fs ps ((ks.take j).map newD) 0 false 0 ∧ ∀ q, q < j → 1 ≤ ks.getD q 0 ∧ ks.getD q 0 ≤ 512) (fun i _ => n - (intOf i).toNat)
  case atStart => exact ⟨0, _, _, _, Nat.zero_le _, rfl, HMK.out, fun q hq => absurd hq (Nat.not_lt_zero q)⟩
  case round =>
    obtain ⟨j, v, Fs, ps, hj, rfl, hmk, hall⟩ := hrel
    have HALL := Lib.hid hall
    clear hall HMK
    by_cases hlt : j < n
    · have hlj : (j : Int) < (n : Int) := by omega
      obtain ⟨bA, oA, rfl, hbA, hcA⟩ := (HL.out.below hmk.below).int hlt
      have HM := Lib.hid hmk
      obtain ⟨AS, cS, rfl, hs1, hs2⟩ := hmk.row.form
      unfold maxLen at hs2
      have hpl : ps.length = j := by have := hmk.devs.len; rw [List.length_map, List.length_take] at this; have := HLEN.out; omega
      have HPL := Lib.hid hpl
      obtain ⟨z, hz⟩ : ∃ z, ks.getD j 0 = z := ⟨_, rfl⟩
      rw [hz] at hcA
      have HZ := Lib.hid hz
      clear hmk hz hpl
      by_cases hok : 1 ≤ z ∧ z ≤ 512
      · obtain ⟨k, rfl⟩ : ∃ k : Nat, z = k := ⟨z.toNat, by omega⟩
        have hk1 : 1 ≤ k := by omega
        have hk2 : k ≤ 512 := by omega
        clear hok
        go_wp2_with fail
        refine (rv_new k wr hk1 hk2).mono ?_
        rintro e w1 ⟨p', F', rfl, hd1, hb1, hF1⟩
        have hat1 := bM HM.out.at_ hb1
        obtain ⟨c0, c1, c2, c3⟩ := r4cells hat1
        have hrow1 := HM.out.row.below hb1
        have hrow2 := hrow1.below ((Below.refl _ w1).alloc (Nat.le_refl _) (.cells (bK.E.cel p').toArray bK.E.t))
        have HR := Lib.hid hrow2
        have HNEW := Lib.hid (dY (E := bK.E) (l := [p']) w1 (bK.E.cel p').toArray bK.E.t (by rw [dv]; simp [bi]))
        have HSZ := Lib.hid (show w.heap.size ≤ (w1.alloc (.cells (bK.E.cel p').toArray bK.E.t)).heap.size by rw [World.size_alloc]; have := HM.out.below.size; have := hb1.size; omega)
        have HD1 := Lib.hid hd1
        have HB1 := Lib.hid hb1
        have HF1 := Lib.hid hF1
        have HAT := Lib.hid hat1
        have HPS := Lib.hid (show ps.length + 1 ≤ 34359738368 by have := HPL.out; omega)
        clear hd1 hb1 hF1 hat1 hrow1 hrow2
        have hal : w.heap.size < w1.heap.size := aS HAT.out
        go_wp2_with (first | (refine ai rfl (df (E := bK.E) (a := p') rfl rfl rfl (by decide)) ?_) | (at_builtin; refine wpList_appE_own bK.E rfl _ _ rfl w.heap.size _ _ _ _ ps [p'] _ rfl rfl HR.out HNEW.out HSZ.out HPS.out ?_) | fail)
        intro v' w3 hm3 hg3 ho3
        have hxv : v'.ownBlock ≠ some w.heap.size := fun e => by
          rcases ho3 _ e with e' | e'
          · exact HM.out.row.cw HM.out.at_ bK.ne e'
          · omega
        have HNX := Lib.hid (HM.out.next (fun _ _ => rfl) HB1.out HF1.out (d := newD k) HD1.out hm3 hg3 ho3)
        have hvx : (Value.slice AS ps.length cS).ownBlock ≠ some w.heap.size := HM.out.row.cw HM.out.at_ bK.ne
        have hat3 : w3.heap[w.heap.size]? = some _ := (hg3.block w.heap.size (by rw [World.size_alloc]; omega) (fun e => hvx e.symm)).trans (bQ HAT.out _)
        obtain ⟨AV, cV, rfl, _, _⟩ := hm3.form
        obtain ⟨d0, d1, d2, d3⟩ := r4cells hat3
        have f0 := frozen_of_row w3 w.heap.size 0 _ _ hat3
        clear hm3 hg3 ho3 hat3 c0 c1 c2 c3
        go_wp2_with fail
        go_roundw
        case rel =>
          refine ⟨j + 1, .slice AV (ps.length + 1) cV, upF Fs (List.map newD (List.take j ks)).length F', ps ++ [p'], by omega, by go_num, ?_, fun q hq => ?_⟩
          · rw [take_map_succ (by have := HLEN.out; omega), HZ.out]
            have h6 := HNX.out
            rw [show (ps ++ [p']).length = ps.length + 1 from by simp] at h6
            exact h6
          · by_cases e : q = j
            · subst e; rw [HZ.out]; omega
            · exact HALL.out q (by omega)
        case measure => simp [intOf]; omega
      · have HB := Lib.hid HM.out.below
        have HN := Lib.hid (show ¬ newOk ks from fun h => hok (by have := h.2.2 z (by rw [← HZ.out]; exact getD_mem (by have := HLEN.out; omega)); exact this))
        go_wp2_with fail
        refine (r_new_no z wr hok).mono ?_
        rintro e w1 ⟨rfl, rfl⟩
        have HB1 := Lib.hid HB.out
        clear hok
        go_wp2_with fail
        go_ret2
        exact dZ.no HB1.out HN.out rfl
    · have hjn : j = n := by omega
      subst hjn
      have hlj : ¬((j : Int) < (j : Int)) := by omega
      have HM := Lib.hid hmk
      clear hmk
      go_wp2_with fail
      go_ret2
      have h5 := HM.out
      have hLL := HLEN.out
      rw [← hLL, List.take_length] at h5
      obtain ⟨g1, g2, g3⟩ := h5.done (by rw [List.length_map]; omega) (by rw [List.length_map]; omega)
      refine ⟨g3, .inl ⟨⟨by omega, by omega, fun k hk => ?_⟩, _, _, _, _, rfl, g1, g2⟩⟩
      obtain ⟨i, hi, rfl⟩ := List.getElem_of_mem hk
      have := HALL.out i (by omega)
      rwa [List.getD_eq_getElem?_getD, List.getElem?_eq_getElem hi] at this
end
def rIds : BIds where
  read := 88
  write := 28
  flush := 105
  fail := 44
  insert := 46
  arm := 40
  crash := 41
  sure := 51
  rot := 42
  ez := 49
  ce := 54
  steps := 53
def RB (w : World) (F : Nat → Prop) (p : Nat) (M : BenS) : Prop := InB bK w F p M ∧ M.Wf
theorem lens_put {M : BenS} {k : Nat} {d : DevS} (h : M.Wf) (hd : d.S.length = (M.ds.getD k bu).S.length) : (M.put k d).Wf := by
  refine ⟨by rw [M.put_len]; exact h.one, by rw [M.put_len]; exact h.cap, fun i hi => ?_⟩
  rw [M.put_len] at hi
  show 1 ≤ ((M.ds.set k d).getD i bu).S.length ∧ ((M.ds.set k d).getD i bu).S.length ≤ 512
  by_cases e : i = k
  · subst e; rw [cz hi, hd]; exact h.len i hi
  · rw [bl e]; exact h.len i hi
theorem wf_done {M : BenS} (h : M.Wf) : M.done.Wf := ⟨h.one, h.cap, h.len⟩
theorem wf_night {M : BenS} (h : M.Wf) : M.night.Wf := ⟨h.one, h.cap, h.len⟩
theorem wf_wr {M : BenS} (h : M.Wf) (d n : Int) (b : Blk) : (wrS6 M d n b).Wf := by
  unfold wrS6
  split
  · split
    · exact wf_night h
    · exact lens_put (wf_done h) rfl
  · exact h
theorem wf_fl {M : BenS} (h : M.Wf) (d : Int) : (flS6 M d).Wf := by
  unfold flS6
  split
  · split
    · exact wf_night h
    · exact lens_put (wf_done h) (by rw [fq]; rfl)
  · exact h
theorem wf_fa {M : BenS} (h : M.Wf) (d : Int) : (faS6 M d).Wf := by
  unfold faS6
  split
  · exact lens_put h rfl
  · exact h
theorem wf_in {M : BenS} (h : M.Wf) (d : Int) : (inS6 M d).Wf := by
  unfold inS6
  split
  · exact lens_put h (by rw [List.length_replicate]; rfl)
  · exact h
theorem wf_ar {M : BenS} (h : M.Wf) (n : Int) : (arS6 M n).Wf := by
  unfold arS6
  split
  · exact ⟨h.one, h.cap, h.len⟩
  · exact h
theorem wf_ro {M : BenS} (h : M.Wf) (d n i : Int) (u : UInt8) : (roS6 M d n i u).Wf := by
  unfold roS6
  split
  · exact lens_put h (by rw [rotS_len]; rfl)
  · exact h
theorem crAll_at : ∀ (ds : List DevS) (P : List Int) (i : Nat), ((crAll ds P).getD i bu).S.length = (ds.getD i bu).S.length
  | [], P, i => rfl
  | d :: ds, P, 0 => crI_len _ _ _ _
  | d :: ds, P, i + 1 => crAll_at ds _ i
theorem crAll_len (ds : List DevS) (P : List Int) : (crAll ds P).length = ds.length := by rw [← crIn_all, eY]
theorem wf_cr {M : BenS} (h : M.Wf) (P : List Int) : (crS6 M P).Wf := by
  refine ⟨by show 1 ≤ (crAll M.ds P).length; rw [crAll_len]; exact h.one, by show (crAll M.ds P).length ≤ 17; rw [crAll_len]; exact h.cap, fun i hi => ?_⟩
  have hi' : i < M.ds.length := by have : i < (crAll M.ds P).length := hi; rwa [crAll_len] at this
  show 1 ≤ ((crAll M.ds P).getD i bu).S.length ∧ ((crAll M.ds P).getD i bu).S.length ≤ 512
  rw [crAll_at]
  exact h.len i hi'
theorem wf_new {ks : List Int} (h : newOk ks) : (newS6 ks).Wf := by
  refine ⟨by rw [newS6_ds, List.length_map]; exact h.1, by rw [newS6_ds, List.length_map]; exact h.2.1, fun i hi => ?_⟩
  rw [newS6_ds, List.length_map] at hi
  have : ((newS6 ks).ds.getD i bu) = newD (ks.getD i 0) := by
    rw [newS6_ds, List.getD, List.getD, List.getElem?_map, List.getElem?_eq_getElem hi]; rfl
  rw [this]
  have h2 := h.2.2 _ (getD_mem (x := 0) hi)
  show 1 ≤ (List.replicate _ _).length ∧ (List.replicate _ _).length ≤ 512
  rw [List.length_replicate]
  omega
def rBen : Ben rIds where
  Bn := RB
  lt := fun h => h.1.lt
  only := fun h ho hn => ⟨h.1.only ho hn, h.2⟩
  wf := fun h => h.2
  read := fun d n ⟨⟨_, _, _, _, h⟩, _⟩ => c_read d n h
  sure := fun d n ⟨⟨_, _, _, _, h⟩, _⟩ => c_sure d n h
  write := fun d n b hr ⟨⟨_, _, _, e, h⟩, hw⟩ => by
    subst e
    exact (c_write d n b h (fun i hi => hr.at_ hi) (by have := hr.1; omega) hr.2.1).mono fun e w' ⟨h1, h2⟩ => ⟨h1, by obtain ⟨F', g1, g2⟩ := h2.out; exact ⟨F', ⟨g1, wf_wr hw _ _ _⟩, g2⟩⟩
  flush := fun d hr ⟨⟨_, _, _, e, h⟩, hw⟩ => by
    subst e
    exact (c_flush d h (by have := hr.1; omega) hr.2.1).mono fun e w' ⟨h1, h2⟩ => ⟨h1, by obtain ⟨F', g1, g2⟩ := h2.out; exact ⟨F', ⟨g1, wf_fl hw _⟩, g2⟩⟩
  fail := fun d ⟨⟨_, _, _, e, h⟩, hw⟩ => by
    subst e
    exact (c_fail d h).mono fun e w' ⟨h1, h2⟩ => ⟨h1, by obtain ⟨F', g1, g2⟩ := h2.out; exact ⟨F', ⟨g1, wf_fa hw _⟩, g2⟩⟩
  insert := fun d ⟨⟨_, _, _, e, h⟩, hw⟩ => by
    subst e
    exact (c_insert d h hw.len).mono fun e w' ⟨h1, h2⟩ => ⟨h1, by obtain ⟨F', g1, g2⟩ := h2.out; exact ⟨F', ⟨g1, wf_in hw _⟩, g2⟩⟩
  arm := fun {w F p M} n ⟨⟨_, _, _, e, h⟩, hw⟩ => by
    subst e
    exact (c_arm n h).mono fun e w' ⟨h1, h2, h3⟩ => ⟨h1, by obtain ⟨F', g1, g2⟩ := (Left.obj h2 h3 (n := M.ds.length) (by unfold arS6; split <;> rfl)).out; exact ⟨F', ⟨g1, wf_ar hw _⟩, g2⟩⟩
  crash := fun hP ⟨⟨_, _, _, e, h⟩, hw⟩ => by
    subst e
    exact (c_crash h hP).mono fun e w' ⟨h1, h2⟩ => ⟨h1, by obtain ⟨F', g1, g2⟩ := h2.out; exact ⟨F', ⟨g1, wf_cr hw _⟩, g2⟩⟩
  rot := fun d n i u ⟨⟨_, _, _, e, h⟩, hw⟩ => by
    subst e
    exact (c_rot d n i u h).mono fun e w' ⟨h1, h2⟩ => ⟨h1, by obtain ⟨F', g1, g2⟩ := h2.out; exact ⟨F', ⟨g1, wf_ro hw _ _ _ _⟩, g2⟩⟩
  ez := fun d ⟨⟨_, _, _, _, h⟩, _⟩ => (c_sectors d h).mono fun e w' ⟨h1, h2⟩ => ⟨h1, by subst h2; exact Below.refl _ _⟩
  ce := fun ⟨⟨_, _, _, _, h⟩, _⟩ => (c_dark h).mono fun e w' ⟨h1, h2⟩ => ⟨h1, by subst h2; exact Below.refl _ _⟩
  steps := fun ⟨⟨_, _, _, _, h⟩, _⟩ => (c_steps h).mono fun e w' ⟨h1, h2⟩ => ⟨h1, by subst h2; exact Below.refl _ _⟩
structure BenR extends Ben rIds where
  new : ∀ {w A n c ks}, RdE IntE w w.heap.size A n ks → n ≤ c → c ≤ maxLen → Calls Tryz.prog 38 #[.slice A n c] w (NewB Bn w ks)
def refBen : BenR where
  toBen := rBen
  new := fun h1 h2 h3 => (c_new h1 h2 h3).mono fun e w' h => by
    obtain ⟨g1, g | g⟩ := h
    · obtain ⟨g0, p, v, Fs, ps, g2, g3, g4⟩ := g
      exact ⟨g1, .inl ⟨g0, p, _, g2, ⟨⟨v, Fs, ps, rfl, g3⟩, wf_new g0⟩, g4⟩⟩
    · exact ⟨g1, .inr g⟩
set_option linter.unusedSimpArgs false
def Tbl (P : BenP) (w : World) (k : Int) (e : Ending) (w' : World) : Prop :=
  ∃ p q F F', e = .returned (.tuple #[.pointer (some ⟨p, 0, none⟩), .pointer (some ⟨q, 0, none⟩), .bool true]) ∧ P.Bn w' F p (newS6 [k, 12]) ∧ refBen.Bn w' F' q (newS6 [k, 12]) ∧ (∀ b, F b → w.heap.size ≤ b) ∧ (∀ b, F' b → w.heap.size ≤ b) ∧ (∀ b, F b → ¬ F' b) ∧ Below w.heap.size w w'
set_option maxHeartbeats 1000000 in
theorem ltable (P : BenP) (k : Int) (w : World) (hk : 1 ≤ k ∧ k ≤ 512) : Calls Tryz.prog 9 #[.int .i64 k] w (Tbl P w k) := by
  have hok : newOk [k, 12] := ⟨by simp, by simp, fun n hn => by
    rcases List.mem_cons.1 hn with rfl | hn
    · exact hk
    · rcases List.mem_cons.1 hn with rfl | hn
      · omega
      · cases hn⟩
  have HOK := Lib.hid hok
  have HRD : ∀ v : World, Hid (RdE IntE (v.alloc (.cells #[.int .i64 k, .int .i64 12] 3)) (v.alloc (.cells #[.int .i64 k, .int .i64 12] 3)).heap.size (some ⟨v.heap.size, 0, none⟩) 2 [k, 12]) := fun v => Lib.hid (by
    rw [World.size_alloc]
    exact dY (E := IntE) (l := [k, 12]) v #[.int .i64 k, .int .i64 12] 3 rfl)
  have HBA : ∀ v : World, Hid (Below v.heap.size v (v.alloc (.cells #[.int .i64 k, .int .i64 12] 3)) ∧ v.heap.size ≤ (v.alloc (.cells #[.int .i64 k, .int .i64 12] 3)).heap.size) := fun v => Lib.hid ⟨(Below.refl _ _).alloc (Nat.le_refl _) _, by rw [World.size_alloc]; omega⟩
  have HR0 := HRD w
  have HA0 := HBA w
  clear hok hk
  go_enter Tryz.func9, Tryz.ntmps9
  go_wp2_with fail
  refine (P.new (A := some ⟨w.heap.size, 0, none⟩) (c := 2) HR0.out (by omega) (by unfold maxLen; omega)).mono ?_
  rintro e w1 ⟨hb1, ⟨_, p, F, rfl, hB, hF⟩ | ⟨hno, rfl⟩⟩
  rotate_left 1
  · exact absurd HOK.out hno
  have HB1 := Lib.hid (HA0.out.1.trans (hb1.mono HA0.out.2))
  have HP1 := Lib.hid hB
  have HF1 : Hid (∀ b, F b → w.heap.size ≤ b) := Lib.hid fun b e => Nat.le_trans HA0.out.2 (hF b e)
  clear hb1 hB hF HR0 HA0
  have HR1 := HRD w1
  have HA1 := HBA w1
  clear HRD HBA
  go_wp2_with fail
  refine (refBen.new (A := some ⟨w1.heap.size, 0, none⟩) (c := 2) HR1.out (by omega) (by unfold maxLen; omega)).mono ?_
  rintro e w2 ⟨hb2, ⟨_, q, F', rfl, hB2, hF2⟩ | ⟨hno, rfl⟩⟩
  rotate_left 1
  · exact absurd HOK.out hno
  have HB12 := Lib.hid (HA1.out.1.trans (hb2.mono HA1.out.2))
  have HB2 := Lib.hid (HB1.out.trans (HB12.out.mono HB1.out.size))
  have HP2 := Lib.hid (P.toBen.below HP1.out HB12.out)
  have HQ2 := Lib.hid hB2
  have HF2 : Hid (∀ b, F' b → w1.heap.size ≤ b) := Lib.hid fun b e => Nat.le_trans HA1.out.2 (hF2 b e)
  have HDJ : Hid (∀ b, F b → ¬ F' b) := Lib.hid fun b e e' => by
    have h1 := P.lt HP1.out b e
    have h2 := HF2.out b e'
    omega
  clear hb2 hB2 hF2 HR1 HA1 HB12
  go_wp2_with fail
  (try simp only [Exit.inBlock, Exit.then])
  refine bodyPost_ret (results_tmp3 rfl _ _ _) rfl ⟨p, q, F, F', rfl, HP2.out, HQ2.out, HF1.out, fun b e => Nat.le_trans HB1.out.size (HF2.out b e), HDJ.out, HB2.out⟩
def mayB (r t h : Int) : Bool := decide (1 ≤ r ∧ r ≤ 256 ∧ t ≤ h ∧ h ≤ 4611686018427387904 ∧ h - t ≤ r)
theorem mayB_iff {r t h : Int} : mayB r t h = true ↔ 1 ≤ r ∧ r ≤ 256 ∧ t ≤ h ∧ h ≤ 4611686018427387904 ∧ h - t ≤ r := by unfold mayB; exact decide_eq_true_iff
def freN (r t h : Int) : Int := if mayB r t h then r - (h - t) else 0
def freE (r t h : Int) : Int := if mayB r t h then 0 else 2
def tolB (r t h n : Int) : Bool := decide (mayB r t h = true ∧ 0 ≤ n)
def romB (r t h n : Int) : Bool := decide (n ≤ r - (h - t) ∧ h + n ≤ 4611686018427387904)
def takN (r t h n : Int) : Int := if tolB r t h n && romB r t h n then h + n else 0
def takE (r t h n : Int) : Int := if tolB r t h n then (if romB r t h n then 0 else 10) else 2
def rinB (r : Int) : Bool := decide (1 ≤ r ∧ r ≤ 256)
def posB (t : Int) : Bool := decide (t ≤ 4611686018427387904)
theorem ring_ok (r : Int) (w : World) : Calls Tryz.prog 153 #[.int .i64 r] w fun e w' => e = .returned (.bool (rinB r)) ∧ w = w' := by
  go_enter Tryz.func153, Tryz.ntmps153
  go_wp2
  all_goals
    go_ret
    refine ⟨bR ?_, rfl⟩
    unfold rinB
    first
      | (refine Eq.symm (decide_eq_false ?_); omega)
      | (rw [Bool.eq_iff_iff, decide_eq_true_iff, decide_eq_true_iff]; omega)
theorem pos_ok (t : Int) (w : World) : Calls Tryz.prog 187 #[.int .u64 t] w fun e w' => e = .returned (.bool (posB t)) ∧ w = w' := by
  go_enter Tryz.func187, Tryz.ntmps187
  go_wp2
  go_ret
  exact ⟨rfl, rfl⟩
theorem ahead_ok (t : Int) (w : World) (h0 : 0 ≤ t) (h1 : t ≤ 4611686018427387904) : Calls Tryz.prog 170 #[.int .u64 t] w fun e w' => e = .returned (.int .u64 (4611686018427387904 - t)) ∧ w = w' := by
  go_enter Tryz.func170, Tryz.ntmps170
  go_wp2
  go_ret
  exact ⟨aL (by omega), rfl⟩
theorem sector_ok (r t : Int) (w : World) (h1 : 1 ≤ r) (h2 : r ≤ 256) (h0 : 0 ≤ t) (h3 : t ≤ 18446744073709551615) : Calls Tryz.prog 192 #[.int .i64 r, .int .u64 t] w fun e w' => e = .returned (.int .i64 (t % r)) ∧ w = w' := by
  have hm0 := Int.emod_nonneg t (show r ≠ 0 by omega)
  have hm1 := Int.emod_lt_of_pos t (show 0 < r by omega)
  go_enter Tryz.func192, Tryz.ntmps192
  go_wp2
  go_ret
  exact ⟨aL (by omega), rfl⟩
def useB (r t h : Int) : Bool := decide (t ≤ h ∧ h ≤ 4611686018427387904 ∧ h - t ≤ r)
set_option maxHeartbeats 1000000 in
theorem use_ok (r t h : Int) (w : World) (hr1 : 1 ≤ r) (hr2 : r ≤ 256) (ht0 : 0 ≤ t) (ht1 : t ≤ 18446744073709551615) (hh0 : 0 ≤ h) (hh1 : h ≤ 18446744073709551615) : Calls Tryz.prog 154 #[.int .i64 r, .int .u64 t, .int .u64 h] w fun e w' => e = .returned (.bool (useB r t h)) ∧ w = w' := by
  go_enter Tryz.func154, Tryz.ntmps154
  go_wp2_with fail
  refine (pos_ok h w).mono ?_
  rintro e w1 ⟨rfl, rfl⟩
  by_cases h1 : h ≤ 4611686018427387904
  · rw [show posB h = true from decide_eq_true h1]
    go_wp2
    all_goals
      go_ret
      refine ⟨bR ?_, rfl⟩
      unfold useB
      first
        | (refine Eq.symm (decide_eq_false ?_); omega)
        | (rw [Bool.eq_iff_iff, decide_eq_true_iff, decide_eq_true_iff]; omega)
  · rw [show posB h = false from decide_eq_false h1]
    go_wp2
    go_ret
    refine ⟨bR ?_, rfl⟩
    unfold useB
    refine Eq.symm (decide_eq_false ?_); omega
theorem ring_true {r : Int} (h : 1 ≤ r ∧ r ≤ 256) : rinB r = true := decide_eq_true h
theorem ring_false {r : Int} (h : ¬(1 ≤ r ∧ r ≤ 256)) : rinB r = false := decide_eq_false h
theorem pos_true {r : Int} (h : r ≤ 4611686018427387904) : posB r = true := decide_eq_true h
theorem pos_false {r : Int} (h : ¬r ≤ 4611686018427387904) : posB r = false := decide_eq_false h
theorem use_iff {r t h : Int} : useB r t h = true ↔ t ≤ h ∧ h ≤ 4611686018427387904 ∧ h - t ≤ r := by unfold useB; exact decide_eq_true_iff
theorem may_use {r t h : Int} : mayB r t h = (rinB r && useB r t h) := by
  rw [Bool.eq_iff_iff, mayB_iff, Bool.and_eq_true]
  unfold rinB useB
  rw [decide_eq_true_iff, decide_eq_true_iff]
  omega
theorem fre_no {r t h : Int} (hm : mayB r t h = false) : freN r t h = 0 ∧ freE r t h = 2 := by unfold freN freE; rw [hm]; exact ⟨rfl, rfl⟩
theorem fre_in {r t h : Int} (hm : mayB r t h = true) : freN r t h = r - (h - t) ∧ freE r t h = 0 := by unfold freN freE; rw [hm]; exact ⟨rfl, rfl⟩
theorem e9 {k k' : IntKind} {a b a' b' : Int} (h : a = b ∧ a' = b') : Ending.returned (.tuple #[.int k b, .int k' b']) = .returned (.tuple #[.int k a, .int k' a']) := by rw [h.1, h.2]
theorem pfre (r t h : Int) (w : World) (ht0 : 0 ≤ t) (ht1 : t ≤ 18446744073709551615) (hh0 : 0 ≤ h) (hh1 : h ≤ 18446744073709551615) : Calls Tryz.prog 97 #[.int .i64 r, .int .u64 t, .int .u64 h] w fun e w' => e = .returned (.tuple #[.int .i64 (freN r t h), .int .i64 (freE r t h)]) ∧ w = w' := by
  go_enter Tryz.func97, Tryz.ntmps97
  go_wp2_with fail
  refine (ring_ok r w).mono ?_
  rintro e w1 ⟨rfl, rfl⟩
  by_cases hr : 1 ≤ r ∧ r ≤ 256
  · rw [ring_true hr]
    go_wp2_with fail
    refine (use_ok r t h w hr.1 hr.2 ht0 ht1 hh0 hh1).mono ?_
    rintro e w1 ⟨rfl, rfl⟩
    cases hu : useB r t h
    · have hs := Lib.hid (fre_no (r := r) (t := t) (h := h) (by rw [may_use, hu, Bool.and_false]))
      clear hu
      go_wp2
      go_ret2
      exact ⟨e9 hs.out, rfl⟩
    · have hs := Lib.hid (fre_in (r := r) (t := t) (h := h) (by rw [may_use, hu, ring_true hr]; rfl))
      obtain ⟨g1, g2, g3⟩ := use_iff.1 hu
      clear hu
      go_wp2
      go_ret2
      exact ⟨e9 ⟨hs.out.1.trans (by omega), hs.out.2⟩, rfl⟩
  · have hs := Lib.hid (fre_no (r := r) (t := t) (h := h) (by rw [may_use, ring_false hr, Bool.false_and]))
    rw [ring_false hr]
    go_wp2
    go_ret2
    exact ⟨e9 hs.out, rfl⟩
def lisB (r t n : Int) : Bool := decide (1 ≤ r ∧ r ≤ 256 ∧ t ≤ 4611686018427387904 ∧ 0 ≤ n ∧ n ≤ r ∧ t + n ≤ 4611686018427387905)
def secL (r t : Int) (n : Nat) : List Int := (List.range n).map fun (i : Nat) => (t + (i : Int)) % r
def lisL (r t n : Int) : List Int := if lisB r t n then secL r t n.toNat else []
def lisE (r t n : Int) : Int := if lisB r t n then 0 else 2
theorem lis_iff {r t n : Int} : lisB r t n = true ↔ 1 ≤ r ∧ r ≤ 256 ∧ t ≤ 4611686018427387904 ∧ 0 ≤ n ∧ n ≤ r ∧ t + n ≤ 4611686018427387905 := by unfold lisB; exact decide_eq_true_iff
theorem lis_not {r t n : Int} : lisB r t n = false ↔ ¬(1 ≤ r ∧ r ≤ 256 ∧ t ≤ 4611686018427387904 ∧ 0 ≤ n ∧ n ≤ r ∧ t + n ≤ 4611686018427387905) := by unfold lisB; rw [decide_eq_false_iff_not]
theorem lis_no {r t n : Int} (h : lisB r t n = false) : lisL r t n = [] ∧ lisE r t n = 2 := by unfold lisL lisE; rw [h]; exact ⟨rfl, rfl⟩
theorem lis_in {r t : Int} {n : Nat} (h : lisB r t n = true) : lisL r t n = secL r t n ∧ lisE r t n = 0 := by unfold lisL lisE; rw [h]; exact ⟨rfl, rfl⟩
theorem secL_len (r t : Int) (n : Nat) : (secL r t n).length = n := by simp [secL]
theorem secL_at {r t : Int} {n k : Nat} (h : k < n) : (secL r t n).getD k 0 = (t + (k : Int)) % r := by
  simp [secL, List.getD, List.getElem?_map, List.getElem?_range h]
set_option maxHeartbeats 1000000 in
theorem plis_in (r t : Int) (N B : Nat) (w : World) (HB0 : Hid (B = w.heap.size)) (h0 : 0 ≤ t) (h : lisB r t N = true) :
    Calls Tryz.prog 171 #[.int .i64 r, .int .u64 t, .int .i64 N] w fun e w' => ∃ v, e = .returned (.tuple #[v, .int .i64 0]) ∧ az IntE w' B v (secL r t N) ∧ Below B w w' := by
  obtain ⟨g1, g2, g3, g4, g5, g6⟩ := lis_iff.1 h
  clear h
  have hmk := run_make_row' (P := Tryz.prog) 36 3 (.int .i64 0) 8 Tryz.underlying36 IntE.info rfl .i64 .i64 N (by omega) (by omega)
  have HMK := Lib.hid hmk
  clear hmk
  go_enter Tryz.func171, Tryz.ntmps171
  go_wp2_with fail
  refine (ring_ok r w).mono ?_
  rintro e w1 ⟨rfl, rfl⟩
  rw [ring_true ⟨g1, g2⟩]
  go_wp2_with fail
  refine (pos_ok t w).mono ?_
  rintro e w1 ⟨rfl, rfl⟩
  rw [pos_true g3]
  by_cases hn : 0 < N
  case' pos =>
    go_wp2_with fail
    refine (ahead_ok t w h0 g3).mono ?_
    rintro e w1 ⟨rfl, rfl⟩
  all_goals
    have hmk := HMK.out w
    go_wp2
    clear hmk
    have hr0 := World.rowIs_made w (Value.int .i64 0) N 3
    have hbl0 : Below B w (w.alloc (.cells (madeCells #[Value.int .i64 0] N) 3)) := by rw [HB0.out]; exact (Below.refl _ _).alloc (Nat.le_refl _) _
    have hBg : B ≤ w.heap.size := Nat.le_of_eq HB0.out
    generalize hg : w.heap.size = g at *
    have HG := Lib.hid hg
    clear hg
    go_loopw [9, 40] (fun v i wr => ∃ (k : Nat) (f : Nat → Int), k ≤ N ∧ i = .int .i64 k ∧ wr.rowIs g 3 N (fun j => .int .i64 (f j)) ∧ (∀ j, j < k → f j = (t + (j : Int)) % r) ∧ Below B w wr) (fun _ i _ => N - (intOf i).toNat)
    case atStart => exact ⟨0, fun _ => 0, Nat.zero_le _, rfl, hr0, fun j hj => absurd hj (by omega), hbl0⟩
    case round =>
      clear hr0 hbl0
      obtain ⟨k, f, hk, rfl, hrow, hf, hbl⟩ := hrel
      have HF := Lib.hid hf
      clear hf
      by_cases hlt : k < N
      · clear hn
        go_wp2_with fail
        refine (sector_ok r (t + (k : Int)) _ g1 g2 (by omega) (by omega)).mono ?_
        rintro e w5 ⟨rfl, rfl⟩
        have hc := hrow.cell (i := k) hlt
        have hfr := hrow.frozen k
        generalize hx : (t + (k : Int)) % r = x at *
        have HX := Lib.hid hx
        clear hx
        go_wp2
        go_roundw
        case rel =>
          refine ⟨k + 1, upd f k x, by omega, by go_num, row_puti hrow _, ?_, hbl.setCell hBg _⟩
          intro j hj
          by_cases e : j = k
          · subst e; rw [upd_at]; exact HX.out.symm
          · rw [upd_off _ _ e]; exact HF.out j (by omega)
        case measure => simp [intOf]; omega
      · have hkn : k = N := by omega
        subst hkn
        go_wp2
        go_ret2
        exact ⟨_, rfl, made_ints hrow hBg (secL_len ..) (fun j hj => by rw [HF.out j hj, secL_at hj]) (by unfold maxLen; omega), hbl⟩
theorem plis_no (r t n : Int) (w : World) (h0 : 0 ≤ t) (h1 : t ≤ 18446744073709551615) (hn1 : -9223372036854775808 ≤ n) (hn2 : n ≤ 9223372036854775807) (h : lisB r t n = false) :
    Calls Tryz.prog 171 #[.int .i64 r, .int .u64 t, .int .i64 n] w fun e w' => e = .returned (.tuple #[.slice none 0 0, .int .i64 2]) ∧ w = w' := by
  have hq := lis_not.1 h
  clear h
  go_enter Tryz.func171, Tryz.ntmps171
  go_wp2_with fail
  refine (ring_ok r w).mono ?_
  rintro e w1 ⟨rfl, rfl⟩
  by_cases hr : 1 ≤ r ∧ r ≤ 256
  · rw [ring_true hr]
    go_wp2_with fail
    refine (pos_ok t w).mono ?_
    rintro e w1 ⟨rfl, rfl⟩
    by_cases ht : t ≤ 4611686018427387904
    · rw [pos_true ht]
      by_cases hn : 0 ≤ n ∧ n ≤ r
      · have hp : 0 < n := by omega
        have ha : 4611686018427387904 - t < n - 1 := by omega
        clear hq
        go_wp2_with fail
        refine (ahead_ok t w h0 ht).mono ?_
        rintro e w1 ⟨rfl, rfl⟩
        go_wp2
        go_ret2
        exact ⟨rfl, rfl⟩
      · clear hq
        by_cases h0 : 0 ≤ n
        · go_wp2
          go_ret2
          exact ⟨rfl, rfl⟩
        · go_wp2
          go_ret2
          exact ⟨rfl, rfl⟩
    · rw [pos_false ht]
      go_wp2
      go_ret2
      exact ⟨rfl, rfl⟩
  · rw [ring_false hr]
    go_wp2
    go_ret2
    exact ⟨rfl, rfl⟩
theorem plis (r t n : Int) (B : Nat) (w : World) (HB : Hid (B = w.heap.size)) (h0 : 0 ≤ t) (h1 : t ≤ 18446744073709551615) (hn1 : -9223372036854775808 ≤ n) (hn2 : n ≤ 9223372036854775807) :
    Calls Tryz.prog 171 #[.int .i64 r, .int .u64 t, .int .i64 n] w fun e w' => ∃ v, e = .returned (.tuple #[v, .int .i64 (lisE r t n)]) ∧ az IntE w' B v (lisL r t n) ∧ Below B w w' := by
  cases h : lisB r t n
  · rw [(lis_no h).1, (lis_no h).2]; exact (plis_no r t n w h0 h1 hn1 hn2 h).mono fun e w' ⟨he, hw⟩ => ⟨_, he, az.nil _ _, hw ▸ Below.refl _ _⟩
  · obtain ⟨N, rfl⟩ : ∃ N : Nat, n = (N : Int) := ⟨n.toNat, by have := lis_iff.1 h; omega⟩
    rw [(lis_in h).1, (lis_in h).2]
    exact plis_in r t N B w HB h0 h
section
variable {d : Int} {M : BenS} {T : List Stp} {k : Nat} {s : Stp}
theorem room_more {m n : Nat} (h : Room M n) (hm : m ≤ n) : Room M m := by
  induction n with
  | zero => rw [show m = 0 from by omega]; exact h
  | succ n ih =>
    rcases Nat.lt_or_ge n m with e | e
    · rw [show m = n + 1 from by omega]; exact h
    · exact ih h.less e
end
section
variable {x : LgS} {cs : List Cl} {j : Nat}
theorem appQ_rec (h : recE cs ≠ 0) : appQ x cs = recE cs := if_pos h
theorem appQ_full (h : recE cs = 0) (h2 : 8 ≤ x.nts.length ∨ x.free < (bE cs).length) : appQ x cs = 10 := by unfold appQ; rw [if_neg (by omega), if_pos h2]
theorem appQ_ok (h : recE cs = 0) (h2 : ¬ (8 ≤ x.nts.length ∨ x.free < (bE cs).length)) : appQ x cs = 0 := by unfold appQ; rw [if_neg (by omega), if_neg h2]
theorem app_no {M : BenS} (h : appQ x cs ≠ 0) : appE M x cs = appQ x cs ∧ appB M x cs = M ∧ appX M x cs = x ∧ appN M x cs = 0 := by
  have e : appE M x cs = appQ x cs := if_neg h
  exact ⟨e, if_neg h, by unfold appX; rw [e, if_neg h], by unfold appN; rw [e, if_neg h]⟩
theorem app_go_ {M : BenS} (h : appQ x cs = 0) : appE M x cs = goE x.d M (appT x cs) ∧ appB M x cs = goB x.d M (appT x cs) := ⟨if_pos h, if_pos h⟩
theorem app_err {M : BenS} {E : Int} {M' : BenS} (h : appQ x cs = 0) (h1 : goE x.d M (appT x cs) = E ∧ goB x.d M (appT x cs) = M') (hE : E ≠ 0) : appE M x cs = E ∧ appB M x cs = M' ∧ appX M x cs = x ∧ appN M x cs = 0 := by
  obtain ⟨e1, e2⟩ := app_go_ (M := M) h
  rw [h1.1] at e1
  rw [h1.2] at e2
  exact ⟨e1, e2, by unfold appX; rw [e1, if_neg hE], by unfold appN; rw [e1, if_neg hE]⟩
theorem app_fin {M : BenS} {M' : BenS} (h : appQ x cs = 0) (h1 : goE x.d M (appT x cs) = 0 ∧ goB x.d M (appT x cs) = M') : appE M x cs = 0 ∧ appB M x cs = M' ∧ appX M x cs = x.with_ (cF x cs) ∧ appN M x cs = x.next := by
  obtain ⟨e1, e2⟩ := app_go_ (M := M) h
  rw [h1.1] at e1
  rw [h1.2] at e2
  exact ⟨e1, e2, by unfold appX; rw [e1]; rfl, by unfold appN; rw [e1]; rfl⟩
end
section
variable {α : Type} {E : Elt α} {w w' : World} {B : Nat} {v : Value} {l : List α}
theorem az.kept_ (h : az E w B v l) (hk : ∀ b, v.ownBlock = some b → w'.heap[b]? = w.heap[b]?) : az E w' B v l := by
  refine ⟨h.1, ?_⟩
  rcases h.2 with hn | ⟨g, cap, cur, rfl, hbg, hg, rest⟩
  · exact .inl hn
  · exact .inr ⟨g, cap, cur, rfl, hbg, (hk g rfl).trans hg, rest⟩
theorem az.own_both (h : az E w B v l) : ∀ b, v.ownBlock = some b → B ≤ b ∧ b < w.heap.size := by
  intro b hb
  rcases h.2 with ⟨rfl, _⟩ | ⟨g, cap, cur, rfl, hg, hg2, _⟩
  · simp [Value.ownBlock] at hb
  · simp [Value.ownBlock] at hb; subst hb; exact ⟨hg, aS hg2⟩
end
theorem secL_at_ {r t n j : Nat} (h : j < n) : (secL (r : Int) (t : Int) n).getD j 0 = (((t + j) % r : Nat) : Int) := by
  unfold secL
  rw [List.getD, List.getElem?_map, List.getElem?_range h]
  simp [Int.natCast_emod]
section
variable {ρ : Operand → Value} {o : Oper} {x y : Operand} {w : World} {c d : Blk} {t : TypeId}
theorem exec_neqb (b : Bool) (ho : o.op = .binOp .neq 65 x y t) (hx : ρ x = blk c) (hy : ρ y = blk d) (h : (!decide (c = d)) = b) : (execOp ρ o).run Tryz.prog w = .ok (.value (.bool b)) w := by
  rw [exec_neq ho hx hy, h]
end
theorem eE {id : Nat} {Q : Exit → Act → World → Prop} {a : Act} {w : World} {l : List Oper} (hB : Region.lexB .any l.toArray = true) (h : wpStill Tryz.prog l.toArray w.drew (fun a' => Q .normal a' w.drew) l a) :
    (Code.region id l.toArray true).wp Tryz.prog Q a w := wp_region_still_lit (by kernel_rfl) hB h
theorem getD_ext {a b : List Blk} (hl : a.length = b.length) (h : ∀ k, k < a.length → a.getD k al = b.getD k al) : a = b := by
  apply List.ext_getElem hl
  intro k h1 h2
  have := h k h1
  rw [List.getD, List.getD, List.getElem?_eq_getElem h1, List.getElem?_eq_getElem h2] at this
  simpa using this
end Go.Proofs.YtcafafdimcecpaaGreatDoor
