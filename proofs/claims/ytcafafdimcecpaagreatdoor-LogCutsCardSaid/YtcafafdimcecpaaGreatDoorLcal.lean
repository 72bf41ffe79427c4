import Derived.Test.YtcafafdimcecpaaGreatDoorLcak
import Derived.Test.YtcafafdimcecpaaGreatDoorLcab
import Derived.Test.YtcafafdimcecpaaGreatDoorLcac
import Derived.Test.YtcafafdimcecpaaGreatDoorLcZ
namespace Go.Proofs.YtcafafdimcecpaaGreatDoor
open Go.RowKit
set_option linter.unusedVariables false
set_option maxRecDepth 100000
section
variable {w w' : World} {p : Nat} {vS vL : Value} {S : List Blk} {L : List (Int × Blk)} {g : Bool}
theorem RefD.setG (h : RefD w p vS vL S L g) (g' : Bool) : RefD (w.setCell ⟨p, 2, none⟩ (.bool g')) p vS vL S L g' := by
  have hO := ct w p 2 (.bool g')
  refine ⟨?_, h.S_.only hO fun b hb e => h.S_.cq h.at_ (by decide) (by rw [hb, e]), h.L_.only hO fun b hb e => h.L_.cq h.at_ (by decide) (by rw [hb, e])⟩
  have := heap_setCell_same w p 2 _ _ (.bool g') h.at_
  simpa using this
theorem RefD.setL (h : RefD w p vS vL S L g) {vL' : Value} {L' : List (Int × Blk)} (h' : aA LooE w 0 vL' L') : RefD (w.setCell ⟨p, 1, none⟩ vL') p vS vL' S L' g := by
  have hO := ct w p 1 vL'
  refine ⟨?_, h.S_.only hO fun b hb e => h.S_.cq h.at_ (by decide) (by rw [hb, e]), h'.only hO fun b hb e => h'.cq h.at_ (by decide) (by rw [hb, e])⟩
  have := heap_setCell_same w p 1 _ _ vL' h.at_
  simpa using this
theorem lay_L (hp : w.heap[p]? = some (.cells #[vS, vL, .bool g] 154)) (hS : aA BlkE w 0 vS S) {vL' : Value} {L' : List (Int × Blk)} (h' : aA LooE w 0 vL' L') : RefD (w.setCell ⟨p, 1, none⟩ vL') p vS vL' S L' g := by
  have hO := ct w p 1 vL'
  refine ⟨?_, hS.only hO fun b hb e => hS.cq hp (by decide) (by rw [hb, e]), h'.only hO fun b hb e => h'.cq hp (by decide) (by rw [hb, e])⟩
  have := heap_setCell_same w p 1 _ _ vL' hp
  simpa using this
theorem faD0 {b : Nat} : (Instr.fieldAt 154 (.pointer (some ⟨b, 0, none⟩)) 0).run Tryz.prog w = .ok (.pointer (some ⟨b, 0, none⟩)) w := by kernel_rfl
theorem faD1 {b : Nat} : (Instr.fieldAt 154 (.pointer (some ⟨b, 0, none⟩)) 1).run Tryz.prog w = .ok (.pointer (some ⟨b, 1, none⟩)) w := by kernel_rfl
theorem ldSl {a : Addr} {A : Option Addr} {n c : Nat} (h : w.cell? a = some (.slice A n c)) : (Instr.loadAt 152 (.pointer (some a))).run Tryz.prog w = .ok (.slice A n c) w := by simp [go_sem, h]
theorem stS {a : Addr} {v : Value} {A : Option Addr} {n c : Nat} (h : w.cell? a = some v) (hf : w.frozen? a = false) : (Instr.storeAt 152 (.pointer (some a)) (.slice A n c)).run Tryz.prog w = .ok () (w.setCell a (.slice A n c)) := by simp [go_sem, h, hf]
theorem run_buildL (k : Int) (b : Blk) : (Instr.build 177 #[(0, .int .i64 k), (1, blk b)]).run Tryz.prog w = .ok (pairV k b) w := by
  have hz := run_zeroE LooE w
  have h1 := fill_one (place := fun i => (#[(0, 1), (1, 64)] : Array (Nat × Nat))[i]?) (i := 0) (off := 0) (size := 1) (v := .int .i64 k) (pre := []) (mid := [.int .i64 0]) (post := cel al) (vs := [.int .i64 k]) (rest := [(1, blk b)]) rfl rfl rfl rfl rfl
  have h2 := fill_one (place := fun i => (#[(0, 1), (1, 64)] : Array (Nat × Nat))[i]?) (i := 1) (off := 1) (size := 64) (v := blk b) (pre := [.int .i64 k]) (mid := cel al) (post := []) (vs := cel b) (rest := []) rfl rfl (ax b) rfl (ax al)
  simp only [List.nil_append, List.append_nil, List.singleton_append] at h1 h2
  have h3 := h1.trans h2
  have hz' : (zeroValue 177).run Tryz.prog w = .ok (pairV 0 al) w := hz
  have hc : (pairV 0 al).cells = (.int .i64 0 :: cel al).toArray := rfl
  simp only [Instr.build, Sem.run_bind, hz', run_underlying Tryz.underlying177, Result.andThen_ok, hc]
  refine Eq.trans (congrArg (fun r => Result.andThen r _) (?h : _ = Result.ok #[(0, 1), (1, 64)] w)) ?_
  case h => kernel_rfl
  simp only [Result.andThen_ok]
  have h4 : Instr.fill (fun i => (#[(0, 1), (1, 64)] : Array (Nat × Nat))[i]?) (.int .i64 k :: cel b).toArray [] = some (.int .i64 k :: cel b).toArray := by rw [Instr.fill]
  rw [h3.trans h4]
  rfl
theorem exec_buildL {ρ : Operand → Value} {o : Oper} {x y : Operand} {k : Int} {b : Blk} (ho : o.op = .build 177 #[(0, x), (1, y)]) (hx : ρ x = .int .i64 k) (hy : ρ y = blk b) : (execOp ρ o).run Tryz.prog w = .ok (.value (pairV k b)) w := by
  have h := run_buildL (w := w) k b
  unfold execOp
  simp only [ho, List.map_toArray, List.map_cons, List.map_nil, hx, hy, Sem.run_bind, h, Result.andThen_ok, Sem.run_pure]
theorem pair_cells (k : Int) (b : Blk) : (pairV k b).cells = (LooE.cel (k, b)).toArray := rfl
end
theorem r_fail (p : Nat) (vS vL : Value) (S : List Blk) (L : List (Int × Blk)) (g : Bool) (w : World) (h : RefD w p vS vL S L g) :
    Calls Tryz.prog 110 #[.pointer (some ⟨p, 0, none⟩)] w fun e w' => (∃ v, e = .returned v) ∧ RefD w' p vS (.slice none 0 0) S [] true ∧ Only (foot p vS vL) w w' := by
  obtain ⟨c0, c1, c2⟩ := cells3 h.at_
  have f1 := frozen_of_row w p 1 _ _ h.at_
  have f2 := frozen_of_row w p 2 _ _ h.at_
  have H := Lib.hid h
  clear h
  go_enter Tryz.func110, Tryz.ntmps110
  go_wp2
  refine bodyPost_end (results_none rfl _ _ _) rfl ⟨⟨_, rfl⟩, (H.out.setG true).setL (aA.nil _ _), ?_⟩
  exact ((ct w p 2 _).trans (ct _ p 1 _) fun b hb => .inl hb).widen fun b hb => .inl hb
set_option maxHeartbeats 1000000 in
theorem r_write_no (p : Nat) (vS vL : Value) (S : List Blk) (L : List (Int × Blk)) (g : Bool) (n : Int) (b : Blk) (w : World) (h : RefD w p vS vL S L g) (he0 : ce S g n ≠ 0) :
    Calls Tryz.prog 86 #[.pointer (some ⟨p, 0, none⟩), .int .i64 n, blk b] w fun e w' => e = .returned (.int .i64 (ce S g n)) ∧ Below w.heap.size w w' := by
  have hA := (Below.refl w.heap.size w).alloc (Nat.le_refl _) (.cells (cel b).toArray 65)
  have h1 := h.below hA
  have HA := Lib.hid hA
  clear hA
  have H0 := Lib.hid he0
  rcases dU (S := S) (g := g) (n := n) with he | he | ⟨he, _⟩
  · have HE := Lib.hid he
    clear he he0
    go_enter Tryz.func86, Tryz.ntmps86
    go_wp2_with (first | (refine ai rfl (bD rfl rfl) ?_) | fail)
    refine (r_asks p vS vL S L g n _ h1).mono ?_
    rintro e w1 ⟨rfl, rfl⟩
    rw [HE.out]
    go_wp2_with fail
    go_ret
    exact ⟨aQ HE.out.symm, HA.out⟩
  · have HE := Lib.hid he
    clear he he0
    go_enter Tryz.func86, Tryz.ntmps86
    go_wp2_with (first | (refine ai rfl (bD rfl rfl) ?_) | fail)
    refine (r_asks p vS vL S L g n _ h1).mono ?_
    rintro e w1 ⟨rfl, rfl⟩
    rw [HE.out]
    go_wp2_with fail
    go_ret
    exact ⟨aQ HE.out.symm, HA.out⟩
  · exact absurd he he0
set_option maxHeartbeats 1000000 in
theorem r_write_ok (p k : Nat) (vS vL : Value) (S : List Blk) (L : List (Int × Blk)) (b : Blk) (w : World) (h : RefD w p vS vL S L false) (hk : k < S.length) (hL : L.length < 1000000) :
    Calls Tryz.prog 86 #[.pointer (some ⟨p, 0, none⟩), .int .i64 k, blk b] w fun e w' => e = .returned (.int .i64 0) ∧ ∃ vL', RefD w' p vS vL' S (L ++ [((k : Int), b)]) false ∧ Only (foot p vS vL) w w' ∧ (∀ x, vL'.ownBlock = some x → vL.ownBlock = some x ∨ w.heap.size ≤ x) := by
  have hA := (Below.refl w.heap.size w).alloc (Nat.le_refl _) (.cells (cel b).toArray 65)
  have h1 := h.below hA
  have HA := Lib.hid hA
  have HE := Lib.hid (fq (S := S) (n := (k : Int)) (by omega))
  have HB := Lib.hid (new1 w (cel b).toArray 65)
  clear hA
  obtain ⟨AL, cL, rfl, hl1, hl2⟩ := h1.L_.form
  go_enter Tryz.func86, Tryz.ntmps86
  go_wp2_with (first | (refine ai rfl (bD rfl rfl) ?_) | fail)
  refine (r_asks p vS _ S L false k _ h1).mono ?_
  rintro e w1 ⟨rfl, rfl⟩
  rw [HE.out]
  go_wp2_with fail
  generalize hy : w.heap.size = y at *
  generalize w.alloc (.cells (cel b).toArray 65) = w1 at *
  refine bx (fun w' => w'.heap[p]? = some (.cells #[vS, .slice AL L.length cL, .bool false] 154) ∧ w'.heap[y]? = some (.cells (cel b).toArray 65)) 12 (by kernel_rfl) ?_
  change cm _ _ _ _ _ _ 13 _ _ w1.drew
  have hS : w1.drew.heap[p]? = some (.cells #[vS, .slice AL L.length cL, .bool false] 154) ∧ w1.drew.heap[y]? = some (.cells (cel b).toArray 65) := ⟨h1.at_, HB.out⟩
  refine ap 0 rfl (by kernel_rfl) (by kernel_rfl) (by kernel_rfl) (by decide) (by kernel_rfl) rfl (fun w' hw => ah rfl (ev rfl)) (fun _ _ _ h => h) hS ?_
  simp only [Act.put, aa, ae, af]
  refine ap 1 rfl (by kernel_rfl) (by kernel_rfl) (by kernel_rfl) (by decide) (by kernel_rfl) rfl (fun w' hw => ah rfl (ev rfl)) (fun _ _ _ h => h) hS ?_
  simp only [Act.put, aa, ae, af]
  refine ap 2 rfl (by kernel_rfl) (by kernel_rfl) (by kernel_rfl) (by decide) (by kernel_rfl) rfl (fun w' hw => az rfl (ev rfl)) (fun _ _ _ h => h) hS ?_
  simp only [Act.put, aa, ae, af]
  refine ap 3 rfl (by kernel_rfl) (by kernel_rfl) (by kernel_rfl) (by decide) (by kernel_rfl) rfl (fun w' hw => ak rfl (ev rfl) faD1) (fun _ _ _ h => h) hS ?_
  simp only [Act.put, aa, ae, af]
  refine ap 4 rfl (by kernel_rfl) (by kernel_rfl) (by kernel_rfl) (by decide) (by kernel_rfl) rfl (fun w' hw => av rfl (ev rfl) (ldSl (cells3 hw.1).2.1)) (fun _ _ _ h => h) hS ?_
  simp only [Act.put, aa, ae, af]
  refine ap 5 rfl (by kernel_rfl) (by kernel_rfl) (by kernel_rfl) (by decide) (by kernel_rfl) rfl (fun w' hw => ah rfl (ev rfl)) (fun _ _ _ h => h) hS ?_
  simp only [Act.put, aa, ae, af]
  refine ap 6 rfl (by kernel_rfl) (by kernel_rfl) (by kernel_rfl) (by decide) (by kernel_rfl) rfl (fun w' hw => aJ rfl (ev rfl) (blk_range hw.2)) (fun _ _ _ h => h) hS ?_
  simp only [Act.put, aa, ae, af]
  refine ap 7 rfl (by kernel_rfl) (by kernel_rfl) (by kernel_rfl) (by decide) (by kernel_rfl) rfl (fun w' hw => exec_buildL rfl (ev rfl) (ev rfl)) (fun _ _ _ h => h) hS ?_
  simp only [Act.put, aa, ae, af]
  have hr : RefD w1.drew p vS (.slice AL L.length cL) S L false := ⟨h1.at_, h1.S_, h1.L_⟩
  have hS2 : RefD (w1.drew.alloc (.cells (LooE.cel ((k : Int), b)).toArray LooE.t)) p vS (.slice AL L.length cL) S L false := hr.below ((Below.refl _ _).alloc (Nat.le_refl _) _)
  have hb2 := bM hS.2 (.cells (LooE.cel ((k : Int), b)).toArray LooE.t)
  have hnew : RdE LooE _ _ _ 1 _ := dZ (E := LooE) (l := [((k : Int), b)]) w1.drew (LooE.cel ((k : Int), b)).toArray LooE.t (by rw [dA]; simp [bj])
  obtain ⟨v3, w3, hrun, hm3, hg3, ho3⟩ := er LooE _ 152 0 _ 1 1 _ _ _ _ hS2.L_ hnew (Nat.zero_le _) (by omega)
  have hO2 : Only (foot p vS (.slice AL L.length cL)) w (w1.drew.alloc (.cells (LooE.cel ((k : Int), b)).toArray LooE.t)) := (Only.of_below _ (hy ▸ HA.out)).drew.alloc _
  have hO3 := hO2.grown hg3 (fun x hx => .inl (.inr (.inr hx)))
  have hp3 : w3.heap[p]? = some (.cells #[vS, .slice AL L.length cL, .bool false] 154) := (hg3.block p (aV hS2.at_) (fun e => hS2.L_.cq hS2.at_ (by decide) e.symm)).trans hS2.at_
  have hy3 : w3.heap[y]? = some (.cells (cel b).toArray 65) := (hg3.block y (aV hb2) (fun e => hS2.L_.cq hb2 (by decide) e.symm)).trans hb2
  have hSS3 := hS2.S_.kept hg3 (hS2.S_.other hS2.L_ (by decide))
  refine bl 8 rfl (by kernel_rfl) rfl (dc (E := LooE) (a := ((k : Int), b)) rfl (ev rfl) (pair_cells _ _) (by decide)) (fun _ => ⟨hS2.at_, hb2⟩) ?_
  simp only [Act.put, aa, ae, af]
  refine bl 9 rfl (by kernel_rfl) rfl (fB (E := LooE) rfl (ev rfl) (ev rfl) hrun) (fun _ => ⟨hp3, hy3⟩) ?_
  simp only [Act.put, aa, ae, af]
  refine bl 10 rfl (by kernel_rfl) rfl (az rfl (ev rfl)) (fun _ => ⟨hp3, hy3⟩) ?_
  simp only [Act.put, aa, ae, af]
  refine bl 11 rfl (by kernel_rfl) rfl (ak rfl (ev rfl) faD1) (fun _ => ⟨hp3, hy3⟩) ?_
  simp only [Act.put, aa, ae, af]
  obtain ⟨A3, c3, rfl, _, _⟩ := hm3.form
  refine ey 12 rfl (by kernel_rfl) rfl (exec_st rfl (ev rfl) (ev rfl) (stS (cells3 hp3).2.1 (frozen_of_row _ _ _ _ _ hp3))) (fun e => absurd rfl e) ?_
  simp only [Act.put]
  refine b8 (by kernel_rfl) ?_ _
  go_wp2_with fail
  go_ret
  refine ⟨rfl, _, lay_L hp3 hSS3 hm3, hO3.setCell (.inl (.inl rfl)) _, fun x hx => ?_⟩
  rcases ho3 x hx with e | e
  · exact .inl e
  · refine .inr (Nat.le_trans ?_ e)
    have := hO2.size
    omega
theorem r_write (p : Nat) (vS vL : Value) (S : List Blk) (L : List (Int × Blk)) (g : Bool) (n : Int) (b : Blk) (w : World) (h : RefD w p vS vL S L g) (hL : L.length < 1000000) :
    Calls Tryz.prog 86 #[.pointer (some ⟨p, 0, none⟩), .int .i64 n, blk b] w fun e w' => e = .returned (.int .i64 (ce S g n)) ∧ ∃ vL', RefD w' p vS vL' S (wrL S L g n b) g ∧ Only (foot p vS vL) w w' ∧ (∀ x, vL'.ownBlock = some x → vL.ownBlock = some x ∨ w.heap.size ≤ x) := by
  by_cases he : ce S g n = 0
  · rcases dU (S := S) (g := g) (n := n) with h1 | h1 | ⟨_, rfl, k, rfl, hk⟩
    · omega
    · omega
    · have e : wrL S L false k b = L ++ [((k : Int), b)] := by unfold wrL; rw [if_pos he]
      rw [e, he]
      exact r_write_ok p k vS vL S L b w h hk hL
  · have e : wrL S L g n b = L := by unfold wrL; rw [if_neg he]
    rw [e]
    exact (r_write_no p vS vL S L g n b w h he).mono fun e w' ⟨h1, h2⟩ => ⟨h1, vL, h.below h2, Only.of_below _ h2, fun x hx => .inl hx⟩
section
variable {w : World} {p b off gg n c k : Nat} {vL : Value} {S : List Blk} {L : List (Int × Blk)} {g : Bool}
theorem faL0 : (Instr.fieldAt 177 (.pointer (some ⟨b, off, none⟩)) 0).run Tryz.prog w = .ok (.pointer (some ⟨b, off, none⟩)) w := by kernel_rfl
theorem faL1 : (Instr.fieldAt 177 (.pointer (some ⟨b, off, none⟩)) 1).run Tryz.prog w = .ok (.pointer (some ⟨b, off + 1, none⟩)) w := by kernel_rfl
theorem RefD.setS (h : RefD w p (.slice (some ⟨gg, 0, none⟩) n c) vL S L g) (hk : k < n) (x : Blk) : RefD (w.setCells gg (k * 64) (cel x)) p (.slice (some ⟨gg, 0, none⟩) n c) vL (S.set k x) L g := by
  have hO : Only (fun b => b = gg) w (w.setCells gg (k * 64) (cel x)) := (Only.refl (fun b => b = gg) w).setCells (.inl rfl) _ _
  refine ⟨hO.keep h.at_ (fun e => h.S_.cq h.at_ (by decide) (by rw [e]; rfl)), h.S_.store hk x, h.L_.only hO fun b hb e => ?_⟩
  rcases h.L_.other h.S_ (by decide) with e' | e'
  · rw [e'] at hb; cases hb
  · exact e' (by rw [hb, e]; rfl)
end
theorem r_flush_dead (p : Nat) (vS vL : Value) (S : List Blk) (L : List (Int × Blk)) (w : World) (h : RefD w p vS vL S L true) :
    Calls Tryz.prog 158 #[.pointer (some ⟨p, 0, none⟩)] w fun e w' => e = .returned (.int .i64 9) ∧ w = w' := by
  obtain ⟨c0, c1, c2⟩ := cells3 h.at_
  go_enter Tryz.func158, Tryz.ntmps158
  go_wp2
  go_ret
  exact ⟨rfl, rfl⟩
set_option maxHeartbeats 2000000 in
theorem r_flush_ok (p : Nat) (vS vL : Value) (S : List Blk) (L : List (Int × Blk)) (w : World) (h : RefD w p vS vL S L false) (hF : Fit S L) :
    Calls Tryz.prog 158 #[.pointer (some ⟨p, 0, none⟩)] w fun e w' => e = .returned (.int .i64 0) ∧ RefD w' p vS (.slice none 0 0) (flS S L) [] false ∧ Only (foot p vS vL) w w' := by
  obtain ⟨c0, c1, c2⟩ := cells3 h.at_
  obtain ⟨AL, cL, rfl, hl1, hl2⟩ := h.L_.form
  unfold maxLen at hl2
  have HH := Lib.hid h
  have HF := Lib.hid hF
  clear h hF
  go_enter Tryz.func158, Tryz.ntmps158
  go_wp2
  clear c0 c1 c2
  go_loopw [3] (fun i wr => ∃ j : Nat, j ≤ L.length ∧ i = .int .i64 j ∧ RefD wr p vS (.slice AL L.length cL) (flS S (L.take j)) L false ∧ Only (foot p vS (.slice AL L.length cL)) w wr) (fun i _ => L.length - (intOf i).toNat)
  case atStart => exact ⟨0, Nat.zero_le _, rfl, HH.out, Only.refl _ _⟩
  case round =>
    obtain ⟨j, hj, rfl, hr, hon⟩ := hrel
    obtain ⟨c0, c1, c2⟩ := cells3 hr.at_
    by_cases hlt : j < L.length
    · obtain ⟨k, hqk, hk⟩ := HF.out.at_ hlt
      have hlenS := fu S (L.take j)
      obtain ⟨gS, cS, rfl⟩ := hr.S_.slice hlenS (by omega)
      obtain ⟨bA, oA, hAe, hAl, cA, rA⟩ := hr.L_.rd.pair hlt
      have HS := Lib.hid (flS_succ (S := S) hlt)
      rw [hqk] at cA HS
      generalize (L.getD j (0, al)).2 = x at *
      have HRA := Lib.hid rA
      have HA := Lib.hid (⟨c0, c1⟩ : _ ∧ _)
      have HRr := Lib.hid hr
      have HON := Lib.hid hon
      subst hAe
      have HKT := Lib.hid (show wr.there gS (k * 64) 64 from by
        have := HRr.out.S_.there hk (j := 0) (m := 64) (Nat.le_refl _)
        rw [Nat.add_zero] at this
        exact this)
      clear hr hon rA hqk hlenS
      have hLL : (j : Int) < (L.length : Int) := by omega
      go_wp2_with fail
      refine wp_region_still_tail 21 (by kernel_rfl) (by kernel_rfl) ?_
      simp only [List.take_succ_cons, List.take_zero, List.drop_succ_cons, List.drop_zero]
      refine aw rfl (ah rfl (ev rfl)) ?_
      simp only [Act.put, aa, ae, af]
      refine aw rfl (az rfl (ev rfl)) ?_
      simp only [Act.put, aa, ae, af]
      refine aw rfl (ak rfl (ev rfl) faD0) ?_
      simp only [Act.put, aa, ae, af]
      refine aw rfl (av rfl (ev rfl) (ldB HA.out.1)) ?_
      simp only [Act.put, aa, ae, af]
      refine aw rfl (ah rfl (ev rfl)) ?_
      simp only [Act.put, aa, ae, af]
      refine aw rfl (az rfl (ev rfl)) ?_
      simp only [Act.put, aa, ae, af]
      refine aw rfl (ak rfl (ev rfl) faD1) ?_
      simp only [Act.put, aa, ae, af]
      refine aw rfl (av rfl (ev rfl) (ldSl HA.out.2)) ?_
      simp only [Act.put, aa, ae, af]
      refine aw rfl (ah rfl (ev rfl)) ?_
      simp only [Act.put, aa, ae, af]
      refine aw rfl (a8 (E := LooE) rfl (ev rfl) (ev rfl) hlt) ?_
      simp only [Act.put, aa, ae, af]
      refine aw rfl (ak rfl (ev rfl) faL0) ?_
      simp only [Act.put, aa, ae, af]
      refine aw rfl (av rfl (ev rfl) (ldI cA)) ?_
      simp only [Act.put, aa, ae, af]
      refine aw rfl (ah rfl (ev rfl)) ?_
      simp only [Act.put, aa, ae, af]
      refine aw rfl (az rfl (ev rfl)) ?_
      simp only [Act.put, aa, ae, af]
      refine aw rfl (ak rfl (ev rfl) faD1) ?_
      simp only [Act.put, aa, ae, af]
      refine aw rfl (av rfl (ev rfl) (ldSl HA.out.2)) ?_
      simp only [Act.put, aa, ae, af]
      refine aw rfl (ah rfl (ev rfl)) ?_
      simp only [Act.put, aa, ae, af]
      refine aw rfl (a8 (E := LooE) rfl (ev rfl) (ev rfl) hlt) ?_
      simp only [Act.put, aa, ae, af]
      refine aw rfl (ak rfl (ev rfl) faL1) ?_
      simp only [Act.put, aa, ae, af]
      refine aw rfl (aJ rfl (ev rfl) HRA.out) ?_
      simp only [Act.put, aa, ae, af]
      refine aw rfl (du (E := BlkE) rfl (ev rfl) (ev rfl) hk) ?_
      simp only [Act.put, aa, ae, af]
      refine wpStill_nil ?_
      change wpList _ _ _ _ _ wr.drew
      go_wp2_with (first | (refine aF rfl (aH rfl rfl rfl HKT.out) ?_))
      go_roundw
      case rel =>
        have hd : RefD wr.drew p (.slice (some ⟨gS, 0, none⟩) S.length cS) (.slice (some ⟨bA, oA, none⟩) L.length cL) (flS S (L.take j)) L false := ⟨HRr.out.at_, HRr.out.S_, HRr.out.L_⟩
        exact ⟨j + 1, by omega, by go_num, by rw [HS.out]; exact hd.setS hk x, HON.out.drew.setCells (.inl (.inr (.inl rfl))) _ _⟩
      case measure => simp [intOf]; omega
    · have hjn : j = L.length := by omega
      subst hjn
      have f1 := frozen_of_row wr p 1 _ _ hr.at_
      have HRr := Lib.hid hr
      have HON := Lib.hid hon
      clear hr hon
      have hLL : ¬((L.length : Int) < (L.length : Int)) := by omega
      go_wp2
      go_ret
      have hd := HRr.out.setL (aA.nil _ _)
      rw [List.take_length] at hd
      exact ⟨rfl, hd, HON.out.setCell (.inl (.inl rfl)) _⟩
set_option maxHeartbeats 800000 in
theorem refTorn_any (a b : Blk) (n : Int) (w : World) : Calls Tryz.prog 160 #[blk a, blk b, .int .i64 n] w fun e w' => e = .returned (blk (torn a b n)) ∧ Below w.heap.size w w' := by
  obtain ⟨hA, hB, hR, hO, hb⟩ := laid4 w a b al a
  obtain ⟨w4, hw4⟩ : ∃ w4, four_ w a b al a = w4 := ⟨_, rfl⟩
  rw [hw4] at hA hB hR hO hb
  have hA0 := World.rangeAt_alloc (World.rangeAt_alloc (b7 w (cel a) 65) (.cells (cel b).toArray 65)) (.cells (cel al).toArray 65)
  have HA0 := Lib.hid hA0
  have HW := Lib.hid hw4
  have HB := Lib.hid hB
  have HR := Lib.hid hR
  clear hw4 hA hB hR hA0
  go_enter Tryz.func160, Tryz.ntmps160
  go_wp2_with (first | (refine ai rfl (bD rfl rfl) ?_) | (refine ai rfl (aK rfl) ?_) | (refine ai rfl (aJ rfl rfl HA0.out) ?_) | (refine aF rfl (exec_fill rfl rfl rfl) ?_))
  have hs := HW.out
  unfold four_ at hs
  rw [hs]
  clear hs HW
  generalize hsz : w.heap.size = s at *
  go_loopw [8] (fun i wr => ∃ (j : Nat) (f : Nat → Int), j ≤ 64 ∧ ((j : Int) ≤ n ∨ j = 0) ∧ i = .int .i64 j ∧ wr.rowIs (s + 1 + 1 + 1) 65 64 (fun j => .int .u8 (f j)) ∧ (∀ m, m < 64 → f m = if m < j then byt b m else byt a m) ∧ Below (s + 1 + 1 + 1) w4 wr) (fun i _ => 64 - (intOf i).toNat)
  case atStart => exact ⟨0, byt a, by omega, .inr rfl, rfl, hO, fun m hm => rfl, Below.refl _ _⟩
  case round =>
    obtain ⟨j, f, hj, hjn, rfl, hrow, hf, hbl⟩ := hrel
    have HF := Lib.hid hf
    clear hf hO
    by_cases hlt : j < 64 ∧ (j : Int) < n
    · obtain ⟨h64, hn⟩ := hlt
      first
        | (exfalso; omega)
        | skip
          have hc1 := hrow.cell (i := j) (by omega)
          have hfr := hrow.frozen j
          have hb' := cO HB.out (by omega) hbl j _ (dX b h64)
          rw [Nat.zero_add] at hb'
          go_wp2_with fail
          go_roundw
          case rel =>
            refine ⟨j + 1, upd f j (byt b j), by omega, .inl (by omega), by go_num, row_put hrow _, ?_, hbl.setCell (by simp) _⟩
            intro m hm
            by_cases e : m = j
            · subst e; rw [upd_at, if_pos (by omega)]
            · rw [upd_off _ _ e, HF.out m hm]
              by_cases e2 : m < j
              · rw [if_pos e2, if_pos (by omega)]
              · rw [if_neg e2, if_neg (by omega)]
          case measure => simp [intOf]; omega
    · have hr := range_row (c := torn a b n) (o := 0) hrow (by omega) (fun m hm => by
        rw [Nat.zero_add, HF.out m hm, dY _ _ _ hm]
        by_cases e : m < j
        · rw [if_pos e, if_pos (by omega)]
        · rw [if_neg e, if_neg (by omega)])
      have ht := aL HR.out (by omega) hbl
      have hex : 64 ≤ j ∨ (j < 64 ∧ n ≤ (j : Int)) := by omega
      have HR2 := Lib.hid hr
      have HT2 := Lib.hid ht
      clear hr ht hlt
      rcases hex with h1 | ⟨h1, h2⟩
      all_goals
        go_wp2_with (first | (refine ai rfl (aJ rfl rfl HR2.out) ?_) | (refine aF rfl (aH rfl rfl rfl HT2.out) ?_))
        refine bodyPost_ret (res_blk rfl _ _ _ rfl (World.rangeAt_setCells_same _ _ _ _ (by rw [ax]; exact HT2.out))) rfl ⟨rfl, ?_⟩
        try rw [hsz]
        exact hb.trans (below_setCells (hbl.mono (by omega)) (by omega) _)
set_option maxRecDepth 100000 in
set_option maxHeartbeats 4000000 in
theorem r_crash (p : Nat) (vS vL : Value) (S : List Blk) (L : List (Int × Blk)) (g : Bool) (A : Option Addr) (n c : Nat) (P : List Int) (w : World) (h : RefD w p vS vL S L g) (hF : Fit S L) (hP : RdE dq w w.heap.size A n P) (hN : ∀ x, A = some x → 0 < n → ¬ foot p vS vL x.block) :
    Calls Tryz.prog 107 #[.pointer (some ⟨p, 0, none⟩), .slice A n c] w fun e w' => e = .returned (.int .i64 ((min L.length n : Nat) : Int)) ∧ RefD w' p vS (.slice none 0 0) (crI S L P L.length) [] g ∧ Only (foot p vS vL) w w' := by
  obtain ⟨AL, cL, rfl, hl1, hl2⟩ := h.L_.form
  unfold maxLen at hl2
  have HH := Lib.hid h
  have HF := Lib.hid hF
  have HP := Lib.hid hP
  have HN := Lib.hid hN
  have HPL := Lib.hid hP.1
  clear h hF hP hN
  go_enter Tryz.func107, Tryz.ntmps107
  go_wp2_with fail
  go_loopw [5, 6, 7] (fun t i v7 wr => ∃ j : Nat, j ≤ L.length ∧ i = .int .i64 j ∧ t = .int .i64 ((min j n : Nat) : Int) ∧ RefD wr p vS (.slice AL L.length cL) (crI S L P j) L g ∧ Only (foot p vS (.slice AL L.length cL)) w wr) (fun _ i _ _ => L.length - (intOf i).toNat)
  case atStart => exact ⟨0, Nat.zero_le _, rfl, by rw [Nat.zero_min]; rfl, HH.out, Only.refl _ _⟩
  case round =>
    obtain ⟨j, hj, rfl, rfl, hr, hon⟩ := hrel
    obtain ⟨c0, c1, c2⟩ := cells3 hr.at_
    have HB := Lib.hid (HP.out.only hon (Nat.le_refl _) HN.out)
    by_cases hlt : j < L.length
    · obtain ⟨k, hqk, hk⟩ := HF.out.at_ hlt
      have hlenS := crI_len S L P j
      have hstep : crI S L P (j + 1) = (crI S L P j).set k (torn ((crI S L P j).getD k al) (L.getD j (0, al)).2 (P.getD j 0)) := by rw [crI, hqk]; rfl
      obtain ⟨gS, cS, rfl⟩ := hr.S_.slice hlenS (by omega)
      obtain ⟨bA, oA, hAe, hAl, cA, rA⟩ := hr.L_.rd.pair hlt
      obtain ⟨bS, oS, hSe, hSl, rS⟩ := hr.S_.rd.blk hk
      rw [hqk] at cA
      injection hSe with hSe
      injection hSe with e1 e2
      subst e1 e2
      rw [Nat.zero_add] at rS
      generalize (L.getD j (0, al)).2 = x at *
      generalize (crI S L P j).getD k al = y at *
      have HST := Lib.hid hstep
      have HRr := Lib.hid hr
      have HON := Lib.hid hon
      have HKT := Lib.hid (show wr.there gS (k * 64) 64 from by
        have := HRr.out.S_.there hk (j := 0) (m := 64) (Nat.le_refl _)
        rw [Nat.add_zero] at this
        exact this)
      have HFACT := Lib.hid (⟨hr.at_, cA, rA, rS⟩ : _ ∧ _ ∧ _ ∧ _)
      subst hAe
      clear hr hon rA hqk hlenS hstep cA rS
      have hLL : (j : Int) < (L.length : Int) := by omega
      have hcell : j < n → ∃ bP oP, A = some ⟨bP, oP, none⟩ ∧ wr.cell? ⟨bP, oP + j, none⟩ = some (.int .i64 (P.getD j 0)) := fun h => by
        obtain ⟨bP, oP, e, _, hc⟩ := HB.out.int h
        exact ⟨bP, oP, e, hc⟩
      have hzero : ¬ j < n → P.getD j 0 = 0 := fun h => by
        rw [List.getD, List.getElem?_eq_none (by have := HPL.out; omega)]; rfl
      generalize P.getD j 0 = z at *
      have HZ := Lib.hid hzero
      have HCL := Lib.hid hcell
      clear hzero hcell
      by_cases hjn : j < n
      · obtain ⟨bP, oP, hAe, cP⟩ := HCL.out hjn
        have hmin : ((min (j + 1) n : Nat) : Int) = ((min j n : Nat) : Int) + 1 := by omega
        have HMIN := Lib.hid hmin
        have hmn : min j n ≤ 9223372036854775000 ∨ True := .inr trivial
        have hjb : ((min j n : Nat) : Int) = (j : Int) := by omega
        rw [hjb] at HMIN
        rw [hjb]
        have hjn' : (j : Int) < (n : Int) := by omega
        subst hAe
        clear hmin hmn hjb
        go_wp2_with fail
        refine bx (fun w' => w'.heap[p]? = some (.cells #[.slice (some ⟨gS, 0, none⟩) S.length cS, .slice (some ⟨bA, oA, none⟩) L.length cL, .bool g] 154) ∧ w'.cell? ⟨bA, oA + j * 65, none⟩ = some (.int .i64 (k : Int)) ∧ w'.rangeAt bA (oA + j * 65 + 1) (cel x) ∧ w'.rangeAt gS (k * 64) (cel y)) 37 (by kernel_rfl) ?_
        change cm _ _ _ _ _ _ 38 _ _ wr.drew
        have hS : wr.drew.heap[p]? = some (.cells #[.slice (some ⟨gS, 0, none⟩) S.length cS, .slice (some ⟨bA, oA, none⟩) L.length cL, .bool g] 154) ∧ wr.drew.cell? ⟨bA, oA + j * 65, none⟩ = some (.int .i64 (k : Int)) ∧ wr.drew.rangeAt bA (oA + j * 65 + 1) (cel x) ∧ wr.drew.rangeAt gS (k * 64) (cel y) := HFACT.out
        refine ap 0 rfl (by kernel_rfl) (by kernel_rfl) (by kernel_rfl) (by decide) (by kernel_rfl) rfl (fun w' hw => ah rfl (ev rfl)) (fun _ _ _ h => h) hS ?_
        simp only [Act.put, aa, ae, af]
        refine ap 1 rfl (by kernel_rfl) (by kernel_rfl) (by kernel_rfl) (by decide) (by kernel_rfl) rfl (fun w' hw => az rfl (ev rfl)) (fun _ _ _ h => h) hS ?_
        simp only [Act.put, aa, ae, af]
        refine ap 2 rfl (by kernel_rfl) (by kernel_rfl) (by kernel_rfl) (by decide) (by kernel_rfl) rfl (fun w' hw => ak rfl (ev rfl) faD0) (fun _ _ _ h => h) hS ?_
        simp only [Act.put, aa, ae, af]
        refine ap 3 rfl (by kernel_rfl) (by kernel_rfl) (by kernel_rfl) (by decide) (by kernel_rfl) rfl (fun w' hw => av rfl (ev rfl) (ldB (cells3 hw.1).1)) (fun _ _ _ h => h) hS ?_
        simp only [Act.put, aa, ae, af]
        refine ap 4 rfl (by kernel_rfl) (by kernel_rfl) (by kernel_rfl) (by decide) (by kernel_rfl) rfl (fun w' hw => ah rfl (ev rfl)) (fun _ _ _ h => h) hS ?_
        simp only [Act.put, aa, ae, af]
        refine ap 5 rfl (by kernel_rfl) (by kernel_rfl) (by kernel_rfl) (by decide) (by kernel_rfl) rfl (fun w' hw => az rfl (ev rfl)) (fun _ _ _ h => h) hS ?_
        simp only [Act.put, aa, ae, af]
        refine ap 6 rfl (by kernel_rfl) (by kernel_rfl) (by kernel_rfl) (by decide) (by kernel_rfl) rfl (fun w' hw => ak rfl (ev rfl) faD1) (fun _ _ _ h => h) hS ?_
        simp only [Act.put, aa, ae, af]
        refine ap 7 rfl (by kernel_rfl) (by kernel_rfl) (by kernel_rfl) (by decide) (by kernel_rfl) rfl (fun w' hw => av rfl (ev rfl) (ldSl (cells3 hw.1).2.1)) (fun _ _ _ h => h) hS ?_
        simp only [Act.put, aa, ae, af]
        refine ap 8 rfl (by kernel_rfl) (by kernel_rfl) (by kernel_rfl) (by decide) (by kernel_rfl) rfl (fun w' hw => ah rfl (ev rfl)) (fun _ _ _ h => h) hS ?_
        simp only [Act.put, aa, ae, af]
        refine ap 9 rfl (by kernel_rfl) (by kernel_rfl) (by kernel_rfl) (by decide) (by kernel_rfl) rfl (fun w' hw => a8 (E := LooE) rfl (ev rfl) (ev rfl) hlt) (fun _ _ _ h => h) hS ?_
        simp only [Act.put, aa, ae, af]
        refine ap 10 rfl (by kernel_rfl) (by kernel_rfl) (by kernel_rfl) (by decide) (by kernel_rfl) rfl (fun w' hw => ak rfl (ev rfl) faL0) (fun _ _ _ h => h) hS ?_
        simp only [Act.put, aa, ae, af]
        refine ap 11 rfl (by kernel_rfl) (by kernel_rfl) (by kernel_rfl) (by decide) (by kernel_rfl) rfl (fun w' hw => av rfl (ev rfl) (ldI hw.2.1)) (fun _ _ _ h => h) hS ?_
        simp only [Act.put, aa, ae, af]
        refine ap 12 rfl (by kernel_rfl) (by kernel_rfl) (by kernel_rfl) (by decide) (by kernel_rfl) rfl (fun w' hw => ah rfl (ev rfl)) (fun _ _ _ h => h) hS ?_
        simp only [Act.put, aa, ae, af]
        refine ap 13 rfl (by kernel_rfl) (by kernel_rfl) (by kernel_rfl) (by decide) (by kernel_rfl) rfl (fun w' hw => az rfl (ev rfl)) (fun _ _ _ h => h) hS ?_
        simp only [Act.put, aa, ae, af]
        refine ap 14 rfl (by kernel_rfl) (by kernel_rfl) (by kernel_rfl) (by decide) (by kernel_rfl) rfl (fun w' hw => ak rfl (ev rfl) faD0) (fun _ _ _ h => h) hS ?_
        simp only [Act.put, aa, ae, af]
        refine ap 15 rfl (by kernel_rfl) (by kernel_rfl) (by kernel_rfl) (by decide) (by kernel_rfl) rfl (fun w' hw => av rfl (ev rfl) (ldB (cells3 hw.1).1)) (fun _ _ _ h => h) hS ?_
        simp only [Act.put, aa, ae, af]
        refine ap 16 rfl (by kernel_rfl) (by kernel_rfl) (by kernel_rfl) (by decide) (by kernel_rfl) rfl (fun w' hw => ah rfl (ev rfl)) (fun _ _ _ h => h) hS ?_
        simp only [Act.put, aa, ae, af]
        refine ap 17 rfl (by kernel_rfl) (by kernel_rfl) (by kernel_rfl) (by decide) (by kernel_rfl) rfl (fun w' hw => az rfl (ev rfl)) (fun _ _ _ h => h) hS ?_
        simp only [Act.put, aa, ae, af]
        refine ap 18 rfl (by kernel_rfl) (by kernel_rfl) (by kernel_rfl) (by decide) (by kernel_rfl) rfl (fun w' hw => ak rfl (ev rfl) faD1) (fun _ _ _ h => h) hS ?_
        simp only [Act.put, aa, ae, af]
        refine ap 19 rfl (by kernel_rfl) (by kernel_rfl) (by kernel_rfl) (by decide) (by kernel_rfl) rfl (fun w' hw => av rfl (ev rfl) (ldSl (cells3 hw.1).2.1)) (fun _ _ _ h => h) hS ?_
        simp only [Act.put, aa, ae, af]
        refine ap 20 rfl (by kernel_rfl) (by kernel_rfl) (by kernel_rfl) (by decide) (by kernel_rfl) rfl (fun w' hw => ah rfl (ev rfl)) (fun _ _ _ h => h) hS ?_
        simp only [Act.put, aa, ae, af]
        refine ap 21 rfl (by kernel_rfl) (by kernel_rfl) (by kernel_rfl) (by decide) (by kernel_rfl) rfl (fun w' hw => a8 (E := LooE) rfl (ev rfl) (ev rfl) hlt) (fun _ _ _ h => h) hS ?_
        simp only [Act.put, aa, ae, af]
        refine ap 22 rfl (by kernel_rfl) (by kernel_rfl) (by kernel_rfl) (by decide) (by kernel_rfl) rfl (fun w' hw => ak rfl (ev rfl) faL0) (fun _ _ _ h => h) hS ?_
        simp only [Act.put, aa, ae, af]
        refine ap 23 rfl (by kernel_rfl) (by kernel_rfl) (by kernel_rfl) (by decide) (by kernel_rfl) rfl (fun w' hw => av rfl (ev rfl) (ldI hw.2.1)) (fun _ _ _ h => h) hS ?_
        simp only [Act.put, aa, ae, af]
        refine ap 24 rfl (by kernel_rfl) (by kernel_rfl) (by kernel_rfl) (by decide) (by kernel_rfl) rfl (fun w' hw => du (E := BlkE) rfl (ev rfl) (ev rfl) hk) (fun _ _ _ h => h) hS ?_
        simp only [Act.put, aa, ae, af]
        refine ap 25 rfl (by kernel_rfl) (by kernel_rfl) (by kernel_rfl) (by decide) (by kernel_rfl) rfl (fun w' hw => aJ rfl (ev rfl) hw.2.2.2) (fun _ _ _ h => h) hS ?_
        simp only [Act.put, aa, ae, af]
        refine ap 26 rfl (by kernel_rfl) (by kernel_rfl) (by kernel_rfl) (by decide) (by kernel_rfl) rfl (fun w' hw => ah rfl (ev rfl)) (fun _ _ _ h => h) hS ?_
        simp only [Act.put, aa, ae, af]
        refine ap 27 rfl (by kernel_rfl) (by kernel_rfl) (by kernel_rfl) (by decide) (by kernel_rfl) rfl (fun w' hw => az rfl (ev rfl)) (fun _ _ _ h => h) hS ?_
        simp only [Act.put, aa, ae, af]
        refine ap 28 rfl (by kernel_rfl) (by kernel_rfl) (by kernel_rfl) (by decide) (by kernel_rfl) rfl (fun w' hw => ak rfl (ev rfl) faD1) (fun _ _ _ h => h) hS ?_
        simp only [Act.put, aa, ae, af]
        refine ap 29 rfl (by kernel_rfl) (by kernel_rfl) (by kernel_rfl) (by decide) (by kernel_rfl) rfl (fun w' hw => av rfl (ev rfl) (ldSl (cells3 hw.1).2.1)) (fun _ _ _ h => h) hS ?_
        simp only [Act.put, aa, ae, af]
        refine ap 30 rfl (by kernel_rfl) (by kernel_rfl) (by kernel_rfl) (by decide) (by kernel_rfl) rfl (fun w' hw => ah rfl (ev rfl)) (fun _ _ _ h => h) hS ?_
        simp only [Act.put, aa, ae, af]
        refine ap 31 rfl (by kernel_rfl) (by kernel_rfl) (by kernel_rfl) (by decide) (by kernel_rfl) rfl (fun w' hw => a8 (E := LooE) rfl (ev rfl) (ev rfl) hlt) (fun _ _ _ h => h) hS ?_
        simp only [Act.put, aa, ae, af]
        refine ap 32 rfl (by kernel_rfl) (by kernel_rfl) (by kernel_rfl) (by decide) (by kernel_rfl) rfl (fun w' hw => ak rfl (ev rfl) faL1) (fun _ _ _ h => h) hS ?_
        simp only [Act.put, aa, ae, af]
        refine ap 33 rfl (by kernel_rfl) (by kernel_rfl) (by kernel_rfl) (by decide) (by kernel_rfl) rfl (fun w' hw => aJ rfl (ev rfl) hw.2.2.1) (fun _ _ _ h => h) hS ?_
        simp only [Act.put, aa, ae, af]
        refine ap 34 rfl (by kernel_rfl) (by kernel_rfl) (by kernel_rfl) (by decide) (by kernel_rfl) rfl (fun w' hw => ah rfl (ev rfl)) (fun _ _ _ h => h) hS ?_
        simp only [Act.put, aa, ae, af]
        refine dd 35 rfl (by kernel_rfl) rfl (au Tryz.call160 rfl (evc (ev rfl) (evc (ev rfl) (evc (ev rfl) evn)))) ((refTorn_any y x z wr.drew).mono ?_)
        rintro e w5 ⟨rfl, hb5⟩
        have hS5 : w5.heap[p]? = some (.cells #[.slice (some ⟨gS, 0, none⟩) S.length cS, .slice (some ⟨bA, oA, none⟩) L.length cL, .bool g] 154) ∧ w5.cell? ⟨bA, oA + j * 65, none⟩ = some (.int .i64 (k : Int)) ∧ w5.rangeAt bA (oA + j * 65 + 1) (cel x) ∧ w5.rangeAt gS (k * 64) (cel y) :=
          ⟨bK hS.1 hb5, (hb5.cell (p := ⟨bA, oA + j * 65, none⟩) hAl).trans hS.2.1, cO hS.2.2.1 hAl hb5, cO hS.2.2.2 hSl hb5⟩
        have hd : RefD wr.drew p (.slice (some ⟨gS, 0, none⟩) S.length cS) (.slice (some ⟨bA, oA, none⟩) L.length cL) (crI S L P j) L g := ⟨HRr.out.at_, HRr.out.S_, HRr.out.L_⟩
        have HD5 := Lib.hid (hd.below hb5)
        have HO5 := Lib.hid (HON.out.drew.cJ hb5)
        have HKT5 := Lib.hid (aL (w := wr.drew) HKT.out hSl hb5)
        clear hd hb5
        refine ⟨_, rfl, fun _ => hS5, ?_⟩
        simp only [Act.put, aa, ae, af]
        refine bl 36 rfl (by kernel_rfl) rfl (du (E := BlkE) rfl (ev rfl) (ev rfl) hk) (fun _ => hS5) ?_
        simp only [Act.put, aa, ae, af]
        refine ey 37 rfl (by kernel_rfl) rfl (aH rfl (ev rfl) (ev rfl) HKT5.out) (fun e => absurd rfl e) ?_
        simp only [Act.put]
        refine b8 (by kernel_rfl) ?_ _
        go_wp2_with fail
        go_roundw
        case rel => exact ⟨j + 1, by omega, by go_num, by rw [HMIN.out], by rw [HST.out]; exact HD5.out.setS hk _, HO5.out.setCells (.inl (.inr (.inl rfl))) _ _⟩
        case measure => simp [intOf]; omega
      · have HMIN := Lib.hid (show ((min (j + 1) n : Nat) : Int) = ((min j n : Nat) : Int) by omega)
        have hz0 := HZ.out hjn
        subst hz0
        have hjn' : ¬ (j : Int) < (n : Int) := by omega
        generalize ((min j n : Nat) : Int) = mn at *
        go_wp2_with fail
        refine bx (fun w' => w'.heap[p]? = some (.cells #[.slice (some ⟨gS, 0, none⟩) S.length cS, .slice (some ⟨bA, oA, none⟩) L.length cL, .bool g] 154) ∧ w'.cell? ⟨bA, oA + j * 65, none⟩ = some (.int .i64 (k : Int)) ∧ w'.rangeAt bA (oA + j * 65 + 1) (cel x) ∧ w'.rangeAt gS (k * 64) (cel y)) 37 (by kernel_rfl) ?_
        change cm _ _ _ _ _ _ 38 _ _ wr.drew
        have hS : wr.drew.heap[p]? = some (.cells #[.slice (some ⟨gS, 0, none⟩) S.length cS, .slice (some ⟨bA, oA, none⟩) L.length cL, .bool g] 154) ∧ wr.drew.cell? ⟨bA, oA + j * 65, none⟩ = some (.int .i64 (k : Int)) ∧ wr.drew.rangeAt bA (oA + j * 65 + 1) (cel x) ∧ wr.drew.rangeAt gS (k * 64) (cel y) := HFACT.out
        refine ap 0 rfl (by kernel_rfl) (by kernel_rfl) (by kernel_rfl) (by decide) (by kernel_rfl) rfl (fun w' hw => ah rfl (ev rfl)) (fun _ _ _ h => h) hS ?_
        simp only [Act.put, aa, ae, af]
        refine ap 1 rfl (by kernel_rfl) (by kernel_rfl) (by kernel_rfl) (by decide) (by kernel_rfl) rfl (fun w' hw => az rfl (ev rfl)) (fun _ _ _ h => h) hS ?_
        simp only [Act.put, aa, ae, af]
        refine ap 2 rfl (by kernel_rfl) (by kernel_rfl) (by kernel_rfl) (by decide) (by kernel_rfl) rfl (fun w' hw => ak rfl (ev rfl) faD0) (fun _ _ _ h => h) hS ?_
        simp only [Act.put, aa, ae, af]
        refine ap 3 rfl (by kernel_rfl) (by kernel_rfl) (by kernel_rfl) (by decide) (by kernel_rfl) rfl (fun w' hw => av rfl (ev rfl) (ldB (cells3 hw.1).1)) (fun _ _ _ h => h) hS ?_
        simp only [Act.put, aa, ae, af]
        refine ap 4 rfl (by kernel_rfl) (by kernel_rfl) (by kernel_rfl) (by decide) (by kernel_rfl) rfl (fun w' hw => ah rfl (ev rfl)) (fun _ _ _ h => h) hS ?_
        simp only [Act.put, aa, ae, af]
        refine ap 5 rfl (by kernel_rfl) (by kernel_rfl) (by kernel_rfl) (by decide) (by kernel_rfl) rfl (fun w' hw => az rfl (ev rfl)) (fun _ _ _ h => h) hS ?_
        simp only [Act.put, aa, ae, af]
        refine ap 6 rfl (by kernel_rfl) (by kernel_rfl) (by kernel_rfl) (by decide) (by kernel_rfl) rfl (fun w' hw => ak rfl (ev rfl) faD1) (fun _ _ _ h => h) hS ?_
        simp only [Act.put, aa, ae, af]
        refine ap 7 rfl (by kernel_rfl) (by kernel_rfl) (by kernel_rfl) (by decide) (by kernel_rfl) rfl (fun w' hw => av rfl (ev rfl) (ldSl (cells3 hw.1).2.1)) (fun _ _ _ h => h) hS ?_
        simp only [Act.put, aa, ae, af]
        refine ap 8 rfl (by kernel_rfl) (by kernel_rfl) (by kernel_rfl) (by decide) (by kernel_rfl) rfl (fun w' hw => ah rfl (ev rfl)) (fun _ _ _ h => h) hS ?_
        simp only [Act.put, aa, ae, af]
        refine ap 9 rfl (by kernel_rfl) (by kernel_rfl) (by kernel_rfl) (by decide) (by kernel_rfl) rfl (fun w' hw => a8 (E := LooE) rfl (ev rfl) (ev rfl) hlt) (fun _ _ _ h => h) hS ?_
        simp only [Act.put, aa, ae, af]
        refine ap 10 rfl (by kernel_rfl) (by kernel_rfl) (by kernel_rfl) (by decide) (by kernel_rfl) rfl (fun w' hw => ak rfl (ev rfl) faL0) (fun _ _ _ h => h) hS ?_
        simp only [Act.put, aa, ae, af]
        refine ap 11 rfl (by kernel_rfl) (by kernel_rfl) (by kernel_rfl) (by decide) (by kernel_rfl) rfl (fun w' hw => av rfl (ev rfl) (ldI hw.2.1)) (fun _ _ _ h => h) hS ?_
        simp only [Act.put, aa, ae, af]
        refine ap 12 rfl (by kernel_rfl) (by kernel_rfl) (by kernel_rfl) (by decide) (by kernel_rfl) rfl (fun w' hw => ah rfl (ev rfl)) (fun _ _ _ h => h) hS ?_
        simp only [Act.put, aa, ae, af]
        refine ap 13 rfl (by kernel_rfl) (by kernel_rfl) (by kernel_rfl) (by decide) (by kernel_rfl) rfl (fun w' hw => az rfl (ev rfl)) (fun _ _ _ h => h) hS ?_
        simp only [Act.put, aa, ae, af]
        refine ap 14 rfl (by kernel_rfl) (by kernel_rfl) (by kernel_rfl) (by decide) (by kernel_rfl) rfl (fun w' hw => ak rfl (ev rfl) faD0) (fun _ _ _ h => h) hS ?_
        simp only [Act.put, aa, ae, af]
        refine ap 15 rfl (by kernel_rfl) (by kernel_rfl) (by kernel_rfl) (by decide) (by kernel_rfl) rfl (fun w' hw => av rfl (ev rfl) (ldB (cells3 hw.1).1)) (fun _ _ _ h => h) hS ?_
        simp only [Act.put, aa, ae, af]
        refine ap 16 rfl (by kernel_rfl) (by kernel_rfl) (by kernel_rfl) (by decide) (by kernel_rfl) rfl (fun w' hw => ah rfl (ev rfl)) (fun _ _ _ h => h) hS ?_
        simp only [Act.put, aa, ae, af]
        refine ap 17 rfl (by kernel_rfl) (by kernel_rfl) (by kernel_rfl) (by decide) (by kernel_rfl) rfl (fun w' hw => az rfl (ev rfl)) (fun _ _ _ h => h) hS ?_
        simp only [Act.put, aa, ae, af]
        refine ap 18 rfl (by kernel_rfl) (by kernel_rfl) (by kernel_rfl) (by decide) (by kernel_rfl) rfl (fun w' hw => ak rfl (ev rfl) faD1) (fun _ _ _ h => h) hS ?_
        simp only [Act.put, aa, ae, af]
        refine ap 19 rfl (by kernel_rfl) (by kernel_rfl) (by kernel_rfl) (by decide) (by kernel_rfl) rfl (fun w' hw => av rfl (ev rfl) (ldSl (cells3 hw.1).2.1)) (fun _ _ _ h => h) hS ?_
        simp only [Act.put, aa, ae, af]
        refine ap 20 rfl (by kernel_rfl) (by kernel_rfl) (by kernel_rfl) (by decide) (by kernel_rfl) rfl (fun w' hw => ah rfl (ev rfl)) (fun _ _ _ h => h) hS ?_
        simp only [Act.put, aa, ae, af]
        refine ap 21 rfl (by kernel_rfl) (by kernel_rfl) (by kernel_rfl) (by decide) (by kernel_rfl) rfl (fun w' hw => a8 (E := LooE) rfl (ev rfl) (ev rfl) hlt) (fun _ _ _ h => h) hS ?_
        simp only [Act.put, aa, ae, af]
        refine ap 22 rfl (by kernel_rfl) (by kernel_rfl) (by kernel_rfl) (by decide) (by kernel_rfl) rfl (fun w' hw => ak rfl (ev rfl) faL0) (fun _ _ _ h => h) hS ?_
        simp only [Act.put, aa, ae, af]
        refine ap 23 rfl (by kernel_rfl) (by kernel_rfl) (by kernel_rfl) (by decide) (by kernel_rfl) rfl (fun w' hw => av rfl (ev rfl) (ldI hw.2.1)) (fun _ _ _ h => h) hS ?_
        simp only [Act.put, aa, ae, af]
        refine ap 24 rfl (by kernel_rfl) (by kernel_rfl) (by kernel_rfl) (by decide) (by kernel_rfl) rfl (fun w' hw => du (E := BlkE) rfl (ev rfl) (ev rfl) hk) (fun _ _ _ h => h) hS ?_
        simp only [Act.put, aa, ae, af]
        refine ap 25 rfl (by kernel_rfl) (by kernel_rfl) (by kernel_rfl) (by decide) (by kernel_rfl) rfl (fun w' hw => aJ rfl (ev rfl) hw.2.2.2) (fun _ _ _ h => h) hS ?_
        simp only [Act.put, aa, ae, af]
        refine ap 26 rfl (by kernel_rfl) (by kernel_rfl) (by kernel_rfl) (by decide) (by kernel_rfl) rfl (fun w' hw => ah rfl (ev rfl)) (fun _ _ _ h => h) hS ?_
        simp only [Act.put, aa, ae, af]
        refine ap 27 rfl (by kernel_rfl) (by kernel_rfl) (by kernel_rfl) (by decide) (by kernel_rfl) rfl (fun w' hw => az rfl (ev rfl)) (fun _ _ _ h => h) hS ?_
        simp only [Act.put, aa, ae, af]
        refine ap 28 rfl (by kernel_rfl) (by kernel_rfl) (by kernel_rfl) (by decide) (by kernel_rfl) rfl (fun w' hw => ak rfl (ev rfl) faD1) (fun _ _ _ h => h) hS ?_
        simp only [Act.put, aa, ae, af]
        refine ap 29 rfl (by kernel_rfl) (by kernel_rfl) (by kernel_rfl) (by decide) (by kernel_rfl) rfl (fun w' hw => av rfl (ev rfl) (ldSl (cells3 hw.1).2.1)) (fun _ _ _ h => h) hS ?_
        simp only [Act.put, aa, ae, af]
        refine ap 30 rfl (by kernel_rfl) (by kernel_rfl) (by kernel_rfl) (by decide) (by kernel_rfl) rfl (fun w' hw => ah rfl (ev rfl)) (fun _ _ _ h => h) hS ?_
        simp only [Act.put, aa, ae, af]
        refine ap 31 rfl (by kernel_rfl) (by kernel_rfl) (by kernel_rfl) (by decide) (by kernel_rfl) rfl (fun w' hw => a8 (E := LooE) rfl (ev rfl) (ev rfl) hlt) (fun _ _ _ h => h) hS ?_
        simp only [Act.put, aa, ae, af]
        refine ap 32 rfl (by kernel_rfl) (by kernel_rfl) (by kernel_rfl) (by decide) (by kernel_rfl) rfl (fun w' hw => ak rfl (ev rfl) faL1) (fun _ _ _ h => h) hS ?_
        simp only [Act.put, aa, ae, af]
        refine ap 33 rfl (by kernel_rfl) (by kernel_rfl) (by kernel_rfl) (by decide) (by kernel_rfl) rfl (fun w' hw => aJ rfl (ev rfl) hw.2.2.1) (fun _ _ _ h => h) hS ?_
        simp only [Act.put, aa, ae, af]
        refine ap 34 rfl (by kernel_rfl) (by kernel_rfl) (by kernel_rfl) (by decide) (by kernel_rfl) rfl (fun w' hw => ah rfl (ev rfl)) (fun _ _ _ h => h) hS ?_
        simp only [Act.put, aa, ae, af]
        refine dd 35 rfl (by kernel_rfl) rfl (au Tryz.call160 rfl (evc (ev rfl) (evc (ev rfl) (evc (ev rfl) evn)))) ((refTorn_any y x 0 wr.drew).mono ?_)
        rintro e w5 ⟨rfl, hb5⟩
        have hS5 : w5.heap[p]? = some (.cells #[.slice (some ⟨gS, 0, none⟩) S.length cS, .slice (some ⟨bA, oA, none⟩) L.length cL, .bool g] 154) ∧ w5.cell? ⟨bA, oA + j * 65, none⟩ = some (.int .i64 (k : Int)) ∧ w5.rangeAt bA (oA + j * 65 + 1) (cel x) ∧ w5.rangeAt gS (k * 64) (cel y) :=
          ⟨bK hS.1 hb5, (hb5.cell (p := ⟨bA, oA + j * 65, none⟩) hAl).trans hS.2.1, cO hS.2.2.1 hAl hb5, cO hS.2.2.2 hSl hb5⟩
        have hd : RefD wr.drew p (.slice (some ⟨gS, 0, none⟩) S.length cS) (.slice (some ⟨bA, oA, none⟩) L.length cL) (crI S L P j) L g := ⟨HRr.out.at_, HRr.out.S_, HRr.out.L_⟩
        have HD5 := Lib.hid (hd.below hb5)
        have HO5 := Lib.hid (HON.out.drew.cJ hb5)
        have HKT5 := Lib.hid (aL (w := wr.drew) HKT.out hSl hb5)
        clear hd hb5
        refine ⟨_, rfl, fun _ => hS5, ?_⟩
        simp only [Act.put, aa, ae, af]
        refine bl 36 rfl (by kernel_rfl) rfl (du (E := BlkE) rfl (ev rfl) (ev rfl) hk) (fun _ => hS5) ?_
        simp only [Act.put, aa, ae, af]
        refine ey 37 rfl (by kernel_rfl) rfl (aH rfl (ev rfl) (ev rfl) HKT5.out) (fun e => absurd rfl e) ?_
        simp only [Act.put]
        refine b8 (by kernel_rfl) ?_ _
        go_wp2_with fail
        go_roundw
        case rel => exact ⟨j + 1, by omega, by go_num, by rw [HMIN.out], by rw [HST.out]; exact HD5.out.setS hk _, HO5.out.setCells (.inl (.inr (.inl rfl))) _ _⟩
        case measure => simp [intOf]; omega
    · have hjn : j = L.length := by omega
      subst hjn
      have f1 := frozen_of_row wr p 1 _ _ hr.at_
      have HRr := Lib.hid hr
      have HON := Lib.hid hon
      clear hr hon
      have hLL : ¬((L.length : Int) < (L.length : Int)) := by omega
      generalize hmn : ((min L.length n : Nat) : Int) = mn at *
      have HMN := Lib.hid hmn
      clear hmn
      go_wp2
      go_ret
      exact ⟨by rw [HMN.out]; rfl, HRr.out.setL (aA.nil _ _), HON.out.setCell (.inl (.inl rfl)) _⟩
section
variable {w : World} {p b off gg n c k i : Nat} {vL : Value} {S : List Blk} {L : List (Int × Blk)} {g : Bool}
theorem RefD.setByte (h : RefD w p (.slice (some ⟨gg, 0, none⟩) n c) vL S L g) (hk : k < n) (hi : i < 64) (v : UInt8) : RefD (w.setCell ⟨gg, k * 64 + i, none⟩ (.int .u8 (v.toNat : Int))) p (.slice (some ⟨gg, 0, none⟩) n c) vL (S.set k ((S.getD k al).set i v)) L g := by
  have hO : Only (fun b => b = gg) w (w.setCell ⟨gg, k * 64 + i, none⟩ (.int .u8 (v.toNat : Int))) := ct w gg _ _
  refine ⟨hO.keep h.at_ (fun e => h.S_.cq h.at_ (by decide) (by rw [e]; rfl)), ?_, h.L_.only hO fun b hb e => ?_⟩
  · refine h.S_.put hk (j := i) (vs := [.int .u8 (v.toNat : Int)]) ((S.getD k al).set i v) ?_ (by show i + 1 ≤ 64; omega)
    show cel ((S.getD k al).set i v) = (cel (S.getD k al)).take i ++ [_] ++ (cel (S.getD k al)).drop (i + 1)
    rw [← cel_set _ hi, List.set_eq_take_append_cons_drop, if_pos (by rw [ax]; exact hi)]
    simp
  · rcases h.L_.other h.S_ (by decide) with e' | e'
    · rw [e'] at hb; cases hb
    · exact e' (by rw [hb, e]; rfl)
end
set_option maxHeartbeats 2000000 in
theorem r_rot_ok (p k i : Nat) (u : UInt8) (vS vL : Value) (S : List Blk) (L : List (Int × Blk)) (w : World) (h : RefD w p vS vL S L false) (hk : k < S.length) (hi : i < 64) :
    Calls Tryz.prog 108 #[.pointer (some ⟨p, 0, none⟩), .int .i64 k, .int .i64 i, .int .u8 (u.toNat : Int)] w fun e w' => e = .returned (.int .i64 0) ∧ RefD w' p vS vL (S.set k (rotB (S.getD k al) i u)) L false ∧ Only (foot p vS vL) w w' := by
  obtain ⟨c0, c1, c2⟩ := cells3 h.at_
  obtain ⟨gS, cS, rfl⟩ := h.S_.slice rfl (by omega)
  obtain ⟨bS, oS, hSe, hSl, rS⟩ := h.S_.rd.blk hk
  injection hSe with hSe
  injection hSe with e1 e2
  subst e1 e2
  obtain ⟨y, hy⟩ : ∃ y, S.getD k al = y := ⟨_, rfl⟩
  have HY := Lib.hid hy
  rw [hy] at rS
  have hc := rS i _ (dX _ hi)
  rw [Nat.zero_add, eR _ hi] at hc
  have hkl : (k : Int) < (S.length : Int) := by omega
  have hil : (i : Int) < 64 := by omega
  have HT := Lib.hid (show w.there gS (k * 64 + i) 1 from h.S_.there hk (j := i) (m := 1) (by show i + 1 ≤ 64; omega))
  have hf : w.frozen? ⟨gS, k * 64 + i, none⟩ = false := by have := (HT.out 0 (by omega)).2; simpa using this
  have HH := Lib.hid h
  have HA := Lib.hid c0
  have HR : rotB (S.getD k al) i u = y.set i (y[i] ^^^ u) := by rw [hy]; unfold rotB; rw [dif_pos hi]
  have HRR := Lib.hid HR
  have HC := Lib.hid hc
  clear h rS HR hy
  go_enter Tryz.func108, Tryz.ntmps108
  go_wp2_with fail
  refine wp_region_still_tail 19 (by kernel_rfl) (by kernel_rfl) ?_
  simp only [List.take_succ_cons, List.take_zero, List.drop_succ_cons, List.drop_zero]
  refine aw rfl (ah rfl (ev rfl)) ?_
  simp only [Act.put, aa, ae, af]
  refine aw rfl (az rfl (ev rfl)) ?_
  simp only [Act.put, aa, ae, af]
  refine aw rfl (ak rfl (ev rfl) faD0) ?_
  simp only [Act.put, aa, ae, af]
  refine aw rfl (av rfl (ev rfl) (ldB HA.out)) ?_
  simp only [Act.put, aa, ae, af]
  refine aw rfl (ah rfl (ev rfl)) ?_
  simp only [Act.put, aa, ae, af]
  refine aw rfl (ah rfl (ev rfl)) ?_
  simp only [Act.put, aa, ae, af]
  refine aw rfl (ah rfl (ev rfl)) ?_
  simp only [Act.put, aa, ae, af]
  refine aw rfl (az rfl (ev rfl)) ?_
  simp only [Act.put, aa, ae, af]
  refine aw rfl (ak rfl (ev rfl) faD0) ?_
  simp only [Act.put, aa, ae, af]
  refine aw rfl (av rfl (ev rfl) (ldB HA.out)) ?_
  simp only [Act.put, aa, ae, af]
  refine aw rfl (ah rfl (ev rfl)) ?_
  simp only [Act.put, aa, ae, af]
  refine aw rfl (ah rfl (ev rfl)) ?_
  simp only [Act.put, aa, ae, af]
  refine aw rfl (fx rfl (ev rfl) (ev rfl) hk) ?_
  simp only [Act.put, aa, ae, af]
  refine aw rfl (dS rfl (ev rfl) (ev rfl) (run_ixB hi)) ?_
  simp only [Act.put, aa, ae, af]
  refine aw rfl (av rfl (ev rfl) (ldU HC.out)) ?_
  simp only [Act.put, aa, ae, af]
  refine aw rfl (ah rfl (ev rfl)) ?_
  simp only [Act.put, aa, ae, af]
  refine aw rfl (exec_xor8 rfl (ev rfl) (ev rfl)) ?_
  simp only [Act.put, aa, ae, af]
  refine aw rfl (fx rfl (ev rfl) (ev rfl) hk) ?_
  simp only [Act.put, aa, ae, af]
  refine aw rfl (dS rfl (ev rfl) (ev rfl) (run_ixB hi)) ?_
  simp only [Act.put, aa, ae, af]
  refine wpStill_nil ?_
  change wpList _ _ _ _ _ w.drew
  have hcd : w.drew.cell? ⟨gS, k * 64 + i, none⟩ = some (.int .u8 (y[i].toNat : Int)) := HC.out
  have hfd : w.drew.frozen? ⟨gS, k * 64 + i, none⟩ = false := hf
  go_wp2_with fail
  go_ret
  refine ⟨rfl, ?_, (Only.refl _ w).drew.setCell (.inl (.inr (.inl rfl))) _⟩
  rw [HRR.out]
  have hset := HH.out.setByte hk hi (y[i] ^^^ u)
  rw [HY.out] at hset
  simp only [UInt8.toNat_xor] at hset
  exact ⟨hset.at_, hset.S_, hset.L_⟩
theorem r_rot_no (p : Nat) (n i : Int) (u : UInt8) (vS vL : Value) (S : List Blk) (L : List (Int × Blk)) (g : Bool) (w : World) (h : RefD w p vS vL S L g) (he : rotE S g n i ≠ 0) :
    Calls Tryz.prog 108 #[.pointer (some ⟨p, 0, none⟩), .int .i64 n, .int .i64 i, .int .u8 (u.toNat : Int)] w fun e w' => e = .returned (.int .i64 (rotE S g n i)) ∧ w = w' := by
  obtain ⟨c0, c1, c2⟩ := cells3 h.at_
  obtain ⟨A, c, rfl, hc1, hc2⟩ := h.S_.form
  have hor : n < 0 ∨ (0 ≤ n ∧ (S.length : Int) ≤ n) ∨ (0 ≤ n ∧ n < S.length ∧ i < 0) ∨ (0 ≤ n ∧ n < S.length ∧ 0 ≤ i ∧ 64 ≤ i) ∨ (0 ≤ n ∧ n < S.length ∧ 0 ≤ i ∧ i < 64) := by omega
  rcases hor with h1 | ⟨h1, h2⟩ | ⟨h1, h2, h3⟩ | ⟨h1, h2, h3, h4⟩ | ⟨h1, h2, h3, h4⟩
  rotate_right 1
  · cases g
    · exact absurd (show rotE S false n i = 0 by unfold rotE; rw [if_pos ⟨h1, h2, h3, h4⟩]; rfl) he
    · have HE := Lib.hid (show rotE S true n i = 9 by unfold rotE; rw [if_pos ⟨h1, h2, h3, h4⟩]; rfl)
      clear he
      go_enter Tryz.func108, Tryz.ntmps108
      go_wp2
      go_ret
      exact ⟨aQ HE.out.symm, rfl⟩
  all_goals
    have HE := Lib.hid (show rotE S g n i = 2 by unfold rotE; rw [if_neg (by omega)])
    clear he
    go_enter Tryz.func108, Tryz.ntmps108
    go_wp2
    go_ret
    exact ⟨aQ HE.out.symm, rfl⟩
theorem r_rot (p : Nat) (n i : Int) (u : UInt8) (vS vL : Value) (S : List Blk) (L : List (Int × Blk)) (g : Bool) (w : World) (h : RefD w p vS vL S L g) :
    Calls Tryz.prog 108 #[.pointer (some ⟨p, 0, none⟩), .int .i64 n, .int .i64 i, .int .u8 (u.toNat : Int)] w fun e w' => e = .returned (.int .i64 (rotE S g n i)) ∧ RefD w' p vS vL (rotS S g n i u) L g ∧ Only (foot p vS vL) w w' := by
  by_cases he : rotE S g n i = 0
  · have hin : 0 ≤ n ∧ n < S.length ∧ 0 ≤ i ∧ i < 64 := by
      by_cases h0 : 0 ≤ n ∧ n < S.length ∧ 0 ≤ i ∧ i < 64
      · exact h0
      · unfold rotE at he; rw [if_neg h0] at he; omega
    have hg : g = false := by
      cases g
      · rfl
      · unfold rotE at he; rw [if_pos hin] at he; simp at he
    subst hg
    obtain ⟨k, rfl⟩ := Int.eq_ofNat_of_zero_le hin.1
    obtain ⟨j, rfl⟩ := Int.eq_ofNat_of_zero_le hin.2.2.1
    have e : rotS S false k j u = S.set k (rotB (S.getD k al) j u) := by unfold rotS; rw [if_pos he]; rfl
    rw [e, he]
    exact r_rot_ok p k j u vS vL S L w h (by omega) (by omega)
  · have e : rotS S g n i u = S := by unfold rotS; rw [if_neg he]
    rw [e]
    exact (r_rot_no p n i u vS vL S L g w h he).mono fun e w' ⟨h1, h2⟩ => by subst h2; exact ⟨h1, h, Only.refl _ _⟩
set_option maxHeartbeats 1000000 in
theorem r_new_ok (k : Nat) (w : World) (h1 : 1 ≤ k) (h2 : k ≤ 512) :
    Calls Tryz.prog 104 #[.int .i64 k] w fun e w' => ∃ p vS, e = .returned (.tuple #[.pointer (some ⟨p, 0, none⟩), .int .i64 0]) ∧ RefD w' p vS (.slice none 0 0) (List.replicate k al) [] false ∧ Below w.heap.size w w' ∧ ∀ b, foot p vS (.slice none 0 0) b → w.heap.size ≤ b := by
  go_enter Tryz.func104, Tryz.ntmps104
  have HM := Lib.hid (heap_alloc_new w (.cells (madeCells (cel al).toArray (k * 64)) 65))
  have HB := Lib.hid ((Below.refl w.heap.size w).alloc (Nat.le_refl _) (.cells (madeCells (cel al).toArray (k * 64)) 65))
  have HSZ := Lib.hid (World.size_alloc w (.cells (madeCells (cel al).toArray (k * 64)) 65))
  go_wp2_with (first | (refine ai rfl (exec_make (n := k) rfl rfl rfl (by omega)) ?_))
  generalize w.alloc (.cells (madeCells (cel al).toArray (k * 64)) 65) = w1 at *
  go_ret2
  have hS : aA BlkE w1 0 (.slice (some ⟨w.heap.size, 0, none⟩) k k) (List.replicate k al) := aA.of_block (E := BlkE) HM.out (by rw [← flat_zeros]; rfl) (Nat.zero_le _) (by simp) (by unfold maxLen; omega)
  have hnw := heap_alloc_new w1 (.cells #[.slice (some ⟨w.heap.size, 0, none⟩) k k, .slice none 0 0, .bool false] 154)
  rw [HSZ.out] at hnw
  refine ⟨w.heap.size + 1, _, rfl, ⟨hnw, hS.below ((Below.refl _ _).alloc (Nat.le_refl _) _), aA.nil _ _⟩, HB.out.alloc HB.out.size _, fun b hb => ?_⟩
  rcases hb with rfl | hb | hb
  · omega
  · simp [Value.ownBlock] at hb; omega
  · simp [Value.ownBlock] at hb
theorem r_new_no (n : Int) (w : World) (h : ¬(1 ≤ n ∧ n ≤ 512)) :
    Calls Tryz.prog 104 #[.int .i64 n] w fun e w' => e = .returned (.tuple #[.pointer none, .int .i64 2]) ∧ w = w' := by
  have hor : n < 1 ∨ (1 ≤ n ∧ 512 < n) := by omega
  clear h
  rcases hor with h | ⟨h, h'⟩
  all_goals
    go_enter Tryz.func104, Tryz.ntmps104
    go_wp2
    go_ret2
    exact ⟨rfl, rfl⟩
end Go.Proofs.YtcafafdimcecpaaGreatDoor
