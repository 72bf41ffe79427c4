/-
  The reference's device: Sure, Read.
-/
import Derived.Test.YtokdmcikoaagmaaDskR
namespace Go.Proofs.Ytokdmcikoaagmaa
open Go.RowKit
set_option linter.unusedVariables false

def sureB (S : List Blk) (g : Bool) (n : Int) : Blk := if askE S g n = 0 then S.getD n.toNat zeroB else zeroB
theorem sureB_no {S : List Blk} {g : Bool} {n : Int} (h : askE S g n ≠ 0) : sureB S g n = zeroB := by unfold sureB; rw [if_neg h]
theorem sureB_ok {S : List Blk} {g : Bool} {k : Nat} (h : askE S g (k : Int) = 0) : sureB S g (k : Int) = S.getD k zeroB := by unfold sureB; rw [if_pos h]; rfl
theorem askE_is {S : List Blk} {g : Bool} {n : Int} : askE S g n = 2 ∨ askE S g n = 9 ∨ (askE S g n = 0 ∧ g = false ∧ ∃ k : Nat, n = k ∧ k < S.length) := by
  unfold askE
  split
  · rename_i h
    cases g
    · exact .inr (.inr ⟨rfl, rfl, n.toNat, by omega, by omega⟩)
    · exact .inr (.inl rfl)
  · exact .inl rfl
set_option maxHeartbeats 1000000 in
theorem r_sure (p : Nat) (vS vL : Value) (S : List Blk) (L : List (Int × Blk)) (g : Bool) (n : Int) (w : World) (h : RefD w p vS vL S L g) :
    Calls Try.prog 29 #[.pointer (some ⟨p, 0, none⟩), .int .i64 n] w fun e w' => e = .returned (.tuple #[blk (sureB S g n), .int .i64 (askE S g n)]) ∧ Below w.heap.size w w' := by
  have hA := (Below.refl w.heap.size w).alloc (Nat.le_refl _) (.cells (cel zeroB).toArray 33)
  have h1 := h.below hA
  have HT := Lib.hid (there_new w zeroB 33)
  have HA := Lib.hid hA
  clear hA
  rcases askE_is (S := S) (g := g) (n := n) with he | he | ⟨he, rfl, k, rfl, hk⟩
  · have HS := Lib.hid (sureB_no (S := S) (g := g) (n := n) (by omega))
    have HE := Lib.hid he
    clear he
    go_enter Try.func29, Try.ntmps29
    go_wp2_with (first | (refine wpList_val rfl (exec_alloc rfl) ?_) | fail)
    refine (r_asks p vS vL S L g n _ h1).mono ?_
    rintro e w1 ⟨rfl, rfl⟩
    rw [HE.out]
    go_wp2_with (first | (refine wpList_val rfl (exec_build (c := zeroB) (parts := []) rfl rfl) ?_) | (refine wpList_nul rfl (exec_store rfl rfl rfl HT.out) ?_))
    refine bodyPost_ret (res_blk2 rfl _ _ _ rfl (World.rangeAt_setCells_same _ _ _ _ (by rw [cel_length]; exact HT.out))) rfl ⟨by rw [HS.out, HE.out]; rfl, below_setCells HA.out (Nat.le_refl _) _⟩
  · have HS := Lib.hid (sureB_no (S := S) (g := g) (n := n) (by omega))
    have HE := Lib.hid he
    clear he
    go_enter Try.func29, Try.ntmps29
    go_wp2_with (first | (refine wpList_val rfl (exec_alloc rfl) ?_) | fail)
    refine (r_asks p vS vL S L g n _ h1).mono ?_
    rintro e w1 ⟨rfl, rfl⟩
    rw [HE.out]
    go_wp2_with (first | (refine wpList_val rfl (exec_build (c := zeroB) (parts := []) rfl rfl) ?_) | (refine wpList_nul rfl (exec_store rfl rfl rfl HT.out) ?_))
    refine bodyPost_ret (res_blk2 rfl _ _ _ rfl (World.rangeAt_setCells_same _ _ _ _ (by rw [cel_length]; exact HT.out))) rfl ⟨by rw [HS.out, HE.out]; rfl, below_setCells HA.out (Nat.le_refl _) _⟩
  · have HS := Lib.hid (sureB_ok he)
    have HE := Lib.hid he
    clear he
    obtain ⟨A, c, rfl, hrd, hc1, hc2⟩ := h1.S_.open_ rfl
    obtain ⟨b, off, rfl, hb, hr⟩ := hrd.blk hk
    obtain ⟨c0, c1, c2⟩ := cells3 h1.at_
    generalize S.getD k zeroB = x at *
    have HR := Lib.hid hr
    clear hr hrd
    go_enter Try.func29, Try.ntmps29
    go_wp2_with (first | (refine wpList_val rfl (exec_alloc rfl) ?_) | fail)
    refine (r_asks p _ vL S L false k _ h1).mono ?_
    rintro e w1 ⟨rfl, rfl⟩
    rw [HE.out]
    go_wp2_with (first | (refine wpList_val rfl (exec_load rfl rfl HR.out) ?_) | (refine wpList_nul rfl (exec_store rfl rfl rfl HT.out) ?_))
    refine bodyPost_ret (res_blk2 rfl _ _ _ rfl (World.rangeAt_setCells_same _ _ _ _ (by rw [cel_length]; exact HT.out))) rfl ⟨by rw [HS.out, HE.out]; rfl, below_setCells HA.out (Nat.le_refl _) _⟩
/-- What was written last of a sector. -/
def lastW (L : List (Int × Blk)) (n : Int) (b : Blk) : Blk := L.foldl (fun b q => if q.1 = n then q.2 else b) b
theorem lastW_succ {L : List (Int × Blk)} {i : Nat} (n : Int) (b : Blk) (hi : i < L.length) : lastW (L.take (i + 1)) n b = if (L.getD i (0, zeroB)).1 = n then (L.getD i (0, zeroB)).2 else lastW (L.take i) n b := by
  rw [List.take_add_one, List.getD, List.getElem?_eq_getElem hi]
  simp only [lastW, Option.toList_some, List.foldl_append, List.foldl_cons, List.foldl_nil, Option.getD_some]
def readB (S : List Blk) (L : List (Int × Blk)) (g : Bool) (n : Int) : Blk := if askE S g n = 0 then lastW L n (S.getD n.toNat zeroB) else zeroB
theorem readB_no {S : List Blk} {L : List (Int × Blk)} {g : Bool} {n : Int} (h : askE S g n ≠ 0) : readB S L g n = zeroB := by unfold readB; rw [if_neg h]
theorem readB_ok {S : List Blk} {L : List (Int × Blk)} {g : Bool} {k : Nat} (h : askE S g (k : Int) = 0) : readB S L g (k : Int) = lastW L k (S.getD k zeroB) := by unfold readB; rw [if_pos h]; rfl
theorem r_read_no (p : Nat) (vS vL : Value) (S : List Blk) (L : List (Int × Blk)) (g : Bool) (n : Int) (w : World) (h : RefD w p vS vL S L g) (he0 : askE S g n ≠ 0) :
    Calls Try.prog 27 #[.pointer (some ⟨p, 0, none⟩), .int .i64 n] w fun e w' => e = .returned (.tuple #[blk (readB S L g n), .int .i64 (askE S g n)]) ∧ Below w.heap.size w w' := by
  have hA := (Below.refl w.heap.size w).alloc (Nat.le_refl _) (.cells (cel zeroB).toArray 33)
  have h1 := h.below hA
  have HT := Lib.hid (there_new w zeroB 33)
  have HA := Lib.hid hA
  have HS := Lib.hid (readB_no (L := L) he0)
  clear hA
  rcases askE_is (S := S) (g := g) (n := n) with he | he | ⟨he, _⟩
  · have HE := Lib.hid he
    clear he he0
    go_enter Try.func27, Try.ntmps27
    go_wp2_with (first | (refine wpList_val rfl (exec_alloc rfl) ?_) | fail)
    refine (r_asks p vS vL S L g n _ h1).mono ?_
    rintro e w1 ⟨rfl, rfl⟩
    rw [HE.out]
    go_wp2_with (first | (refine wpList_val rfl (exec_build (c := zeroB) (parts := []) rfl rfl) ?_) | (refine wpList_nul rfl (exec_store rfl rfl rfl HT.out) ?_))
    refine bodyPost_ret (res_blk2 rfl _ _ _ rfl (World.rangeAt_setCells_same _ _ _ _ (by rw [cel_length]; exact HT.out))) rfl ⟨by rw [HS.out, HE.out]; rfl, below_setCells HA.out (Nat.le_refl _) _⟩
  · have HE := Lib.hid he
    clear he he0
    go_enter Try.func27, Try.ntmps27
    go_wp2_with (first | (refine wpList_val rfl (exec_alloc rfl) ?_) | fail)
    refine (r_asks p vS vL S L g n _ h1).mono ?_
    rintro e w1 ⟨rfl, rfl⟩
    rw [HE.out]
    go_wp2_with (first | (refine wpList_val rfl (exec_build (c := zeroB) (parts := []) rfl rfl) ?_) | (refine wpList_nul rfl (exec_store rfl rfl rfl HT.out) ?_))
    refine bodyPost_ret (res_blk2 rfl _ _ _ rfl (World.rangeAt_setCells_same _ _ _ _ (by rw [cel_length]; exact HT.out))) rfl ⟨by rw [HS.out, HE.out]; rfl, below_setCells HA.out (Nat.le_refl _) _⟩
  · exact absurd he he0
set_option maxHeartbeats 2000000 in
theorem r_read_ok (p k : Nat) (vS vL : Value) (S : List Blk) (L : List (Int × Blk)) (w : World) (h : RefD w p vS vL S L false) (hk : k < S.length) :
    Calls Try.prog 27 #[.pointer (some ⟨p, 0, none⟩), .int .i64 k] w fun e w' => e = .returned (.tuple #[blk (readB S L false k), .int .i64 0]) ∧ Below w.heap.size w w' := by
  have hA := (Below.refl w.heap.size w).alloc (Nat.le_refl _) (.cells (cel zeroB).toArray 33)
  have h1 := h.below hA
  have he : askE S false k = 0 := askE_ok (by omega)
  have HE := Lib.hid he
  have HS := Lib.hid (readB_ok (L := L) he)
  have HN1 := new1 w (cel zeroB).toArray 33
  clear he
  obtain ⟨A, c, rfl, hrd, hc1, hc2⟩ := h1.S_.open_ rfl
  obtain ⟨b, off, rfl, hb, hr⟩ := hrd.blk hk
  obtain ⟨c0, c1, c2⟩ := cells3 h1.at_
  generalize S.getD k zeroB = x at *
  have HR := Lib.hid hr
  have HH := Lib.hid h1
  have HA := Lib.hid hA
  have HN := Lib.hid HN1
  have HSZ := Lib.hid (World.size_alloc w (.cells (cel zeroB).toArray 33))
  clear hr hrd h1 hA h HN1
  go_enter Try.func27, Try.ntmps27
  go_wp2_with (first | (refine wpList_val rfl (exec_alloc rfl) ?_) | fail)
  generalize w.alloc (.cells (cel zeroB).toArray 33) = w1 at *
  refine (r_asks p _ vL S L false k _ HH.out).mono ?_
  rintro e w2 ⟨rfl, rfl⟩
  rw [HE.out]
  go_wp2_with (first | (refine wpList_val rfl (exec_load rfl rfl HR.out) ?_) | (refine wpList_val rfl (exec_alloc rfl) ?_) | (refine wpList_nul rfl (exec_fill rfl rfl rfl) ?_) | fail)
  have HY := Lib.hid (new1 w1 (cel x).toArray 33)
  have HH2 := Lib.hid (HH.out.below ((Below.refl _ _).alloc (Nat.le_refl _) (.cells (cel x).toArray 33)))
  have HK2 := Lib.hid (blk_past HN.out (.cells (cel x).toArray 33))
  have HA2 := Lib.hid (HA.out.alloc HA.out.size (.cells (cel x).toArray 33))
  have HF := Lib.hid HH.out.lt
  have hyw : w.heap.size < w1.heap.size := by rw [HSZ.out]; omega
  have HSZ2 := Lib.hid (World.size_alloc w1 (.cells (cel x).toArray 33))
  clear HH HN HA c0 c1 c2 HR
  generalize hy : w1.heap.size = y at *
  generalize w1.alloc (.cells (cel x).toArray 33) = w2 at *
  clear hy
  go_wp2_with fail
  go_loopw [8] (fun i wr => ∃ j : Nat, j ≤ L.length ∧ i = .int .i64 j ∧ Only (fun b => b = y) w2 wr ∧ wr.heap[y]? = some (.cells (cel (lastW (L.take j) k x)).toArray 33)) (fun i _ => L.length - (intOf i).toNat)
  case atStart => exact ⟨0, Nat.zero_le _, rfl, Only.refl _ _, HY.out⟩
  case round =>
    obtain ⟨j, hj, rfl, hon, hY⟩ := hrel
    have hH := HH2.out.only hon (fun b hb e => by have := HF.out b hb; omega)
    obtain ⟨c0, c1, c2⟩ := cells3 hH.at_
    obtain ⟨AL, cL, rfl, hrd, hl1, hl2⟩ := hH.L_.open_ rfl
    unfold maxLen at hl2
    have HON := Lib.hid hon
    have HYW := Lib.hid hY
    clear hon hY hH
    by_cases hlt : j < L.length
    · have HNX := Lib.hid (lastW_succ (L := L) (k : Int) x hlt)
      obtain ⟨bA, oA, rfl, hA, cA, rA⟩ := hrd.pair hlt
      generalize L.getD j (0, zeroB) = q at *
      obtain ⟨qn, qb⟩ := q
      have HRA := Lib.hid rA
      have HTY := Lib.hid (blk_there HYW.out)
      clear rA hrd
      have hAw : bA ≠ y := by have := HF.out bA (.inr (.inr rfl)); omega
      have hLL : (j : Int) < (L.length : Int) := by omega
      by_cases e : qn = (k : Int)
      · simp only [e, if_true] at HNX
        subst e
        go_wp2_with (first | (refine wpList_val rfl (exec_load rfl rfl HRA.out) ?_) | (refine wpList_nul rfl (exec_store rfl rfl rfl HTY.out) ?_))
        go_roundw
        case rel => exact ⟨j + 1, by omega, by go_num, HON.out.setCells (.inl rfl) _ _, by rw [HNX.out]; exact blk_laid HYW.out⟩
        case measure => simp [intOf]; omega
      · rw [if_neg e] at HNX
        go_wp2_with (first | (refine wpList_val rfl (exec_load rfl rfl HRA.out) ?_) | (refine wpList_nul rfl (exec_store rfl rfl rfl HTY.out) ?_))
        go_roundw
        case rel => exact ⟨j + 1, by omega, by go_num, HON.out, by rw [HNX.out]; exact HYW.out⟩
        case measure => simp [intOf]; omega
    · have hjn : j = L.length := by omega
      subst hjn
      have HR := Lib.hid (HON.out.keep HK2.out (by omega))
      have HTR := Lib.hid (blk_there HR.out)
      have HRY := Lib.hid (blk_range HYW.out)
      rw [List.take_length] at HRY
      generalize lastW L (k : Int) x = z at *
      have hLL : ¬((L.length : Int) < (L.length : Int)) := by omega
      go_wp2_with (first | (refine wpList_val rfl (exec_load rfl rfl HRY.out) ?_) | (refine wpList_nul rfl (exec_store rfl rfl rfl HTR.out) ?_))
      refine bodyPost_ret (res_blk2 rfl _ _ _ rfl (World.rangeAt_setCells_same _ _ _ _ (by rw [cel_length]; exact HTR.out))) rfl ⟨by rw [HS.out]; rfl, ?_⟩
      exact below_setCells (HA2.out.trans (HON.out.below (fun b hb => by omega) (by rw [HSZ2.out]; omega))) (Nat.le_refl _) _
theorem r_read (p : Nat) (vS vL : Value) (S : List Blk) (L : List (Int × Blk)) (g : Bool) (n : Int) (w : World) (h : RefD w p vS vL S L g) :
    Calls Try.prog 27 #[.pointer (some ⟨p, 0, none⟩), .int .i64 n] w fun e w' => e = .returned (.tuple #[blk (readB S L g n), .int .i64 (askE S g n)]) ∧ Below w.heap.size w w' := by
  by_cases he : askE S g n = 0
  · rcases askE_is (S := S) (g := g) (n := n) with h1 | h1 | ⟨_, rfl, k, rfl, hk⟩
    · omega
    · omega
    · rw [he]; exact r_read_ok p k vS vL S L w h hk
  · exact r_read_no p vS vL S L g n w h he
end Go.Proofs.Ytokdmcikoaagmaa
