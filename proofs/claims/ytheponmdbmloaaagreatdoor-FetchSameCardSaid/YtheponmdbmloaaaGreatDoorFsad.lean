import Derived.Test.YtheponmdbmloaaaGreatDoorFsac
import Derived.Test.YtheponmdbmloaaaGreatDoorFsZ
namespace Go.Proofs.YtheponmdbmloaaaGreatDoor
open Go.RowKit Go.Shelf
set_option linter.unusedVariables false
attribute [local go_sem] Oper.semAt_some
def cmd (L : List (Int × Blk)) : Nat → List (Nat × (Int × Blk))
  | 0 => []
  | d + 1 => cmd L d ++ [(L.length - 1 - d, L.getD (L.length - 1 - d) (0, al))]
theorem cmd_len (L : List (Int × Blk)) (d : Nat) : (cmd L d).length = d := by
  induction d with
  | zero => rfl
  | succ d ih => rw [cmd, List.length_append, ih]; rfl
theorem cmd_mem (L : List (Int × Blk)) (d i : Nat) (h1 : L.length - d ≤ i) (h2 : i < L.length) : (i, L.getD i (0, al)) ∈ cmd L d := by
  induction d with
  | zero => omega
  | succ d ih =>
    rw [cmd]
    by_cases e : L.length - d ≤ i
    · exact List.mem_append.2 (.inl (ih e))
    · have : i = L.length - 1 - d := by omega
      subst this
      exact List.mem_append.2 (.inr (by simp))
def encW (x : Nat × (Int × Blk)) : Array Value := #[.int .i64 (x.1 : Int), .agg (c9 x.2).toArray]
set_option maxHeartbeats 1000000 in
theorem backward_in (F : Fence) (n : Nat) (h : F.fn 81) (hro : F.round = none) (a : Option Addr) (len cap : Nat) (w : World) :
    CallsIn F n Tryz.prog 81 #[.slice a len cap] w fun e w' => e = .returned (.func (.func 85) #[] #[.pointer (some ⟨w.heap.size, 0, none⟩)]) ∧ w' = w.alloc (.cells #[.slice a len cap] 103) := by
  refine callsIn_of_wp Tryz.func81 rfl h ?_ hro
  simp only [Tryz.ntmps81, List.size_toArray, List.length_cons, List.length_nil, Nat.reduceAdd, Nat.reduceSub, Array.replicate_succ, Array.replicate_zero, List.push_toArray, List.append_toArray, List.nil_append, List.cons_append]
  gi_wp2
  go_ret
  exact ⟨rfl, rfl⟩
set_option maxRecDepth 100000 in
set_option maxHeartbeats 2000000 in
theorem back1_in (F : Fence) (n : Nat) (h40 : F.fn 85) (hro : F.round = none) (hn : 1 ≤ n) (l Bs n₀ : Nat) (A : Option Addr) (cap : Nat) (L : List (Int × Blk)) (hLl : L.length ≤ 1000000) (J Jx : List (Nat × (Int × Blk)) → World → Prop)
    (hY : ∀ pre x W, J pre W → pre.length < L.length → YieldAt F (n - 1) Tryz.prog l (encW x) W fun e W' =>
      (e = .returned (.bool true) ∧ J (pre ++ [x]) W' ∧ Below n₀ W W') ∨ (e = .returned (.bool false) ∧ Jx (pre ++ [x]) W'))
    (W : World) (hBn : Bs < n₀) (hBs : W.cell? ⟨Bs, 0, none⟩ = some (.slice A L.length cap)) (hL : RdE LwE W n₀ A L.length L) (h0 : J [] W) :
    CallsIn F n Tryz.prog 85 #[.func (.yield l) #[] #[], .pointer (some ⟨Bs, 0, none⟩)] W fun e W' => (∃ v, e = .returned v) ∧
      ((∃ ys, ys = cmd L L.length ∧ J ys W') ∨ (∃ pre, (∃ d, d ≤ L.length ∧ pre = cmd L d) ∧ Jx pre W')) := by
  refine callsIn_of_wp Tryz.func85 rfl h40 ?_ hro
  simp only [Tryz.ntmps85, List.size_toArray, List.length_cons, List.length_nil, Nat.reduceAdd, Nat.reduceSub, Array.replicate_succ, Array.replicate_zero, List.push_toArray, List.append_toArray, List.nil_append, List.cons_append]
  gi_wp2
  gi_loopw [3] (fun i wr => ∃ r : Nat, r ≤ L.length ∧ i = .int .i64 ((r : Int) - 1) ∧ J (cmd L (L.length - r)) wr ∧ Below n₀ W wr)
    (fun i _ => (intOf i + 1).toNat)
  case atStart => exact ⟨L.length, Nat.le_refl _, rfl, by rw [Nat.sub_self]; exact h0, Below.refl _ _⟩
  case round =>
    obtain ⟨r, hr, rfl, hJs, hnx⟩ := hrel
    have hbx : wr.cell? ⟨Bs, 0, none⟩ = some (.slice A L.length cap) := (hnx.cell (p := ⟨Bs, 0, none⟩) hBn).trans hBs
    have hLr := hL.below hnx
    cases r with
    | zero =>
      clear hLr hbx
      rw [Nat.sub_zero] at hJs
      have e : ((0 : Nat) : Int) - 1 = -1 := rfl
      rw [e]
      gi_wp2
      go_end0
      exact ⟨⟨_, rfl⟩, .inl ⟨_, rfl, hJs⟩⟩
    | succ m =>
      have e : ((m + 1 : Nat) : Int) - 1 = (m : Int) := by omega
      rw [e]
      clear e
      have hlt : m < L.length := hr
      obtain ⟨bA, oA, rfl, hbA, rA⟩ := RdE.pairs hLr hlt
      have hnext : cmd L (L.length - m) = cmd L (L.length - (m + 1)) ++ [(m, L.getD m (0, al))] := by
        have e1 : L.length - m = (L.length - (m + 1)) + 1 := by omega
        rw [e1, cmd]
        have e2 : L.length - 1 - (L.length - (m + 1)) = m := by omega
        rw [e2]
      have HNX := Lib.hid hnext
      obtain ⟨fn, tmps, assign, body, hy, hR⟩ := hY _ (m, L.getD m (0, al)) wr hJs (by rw [cmd_len]; omega)
      rw [← hnext] at hR
      have HRA := Lib.hid rA
      generalize L.getD m (0, al) = q at *
      unfold encW at hy
      dsimp only at hy
      clear hnext rA hLr
      gi_wp2_with (first | (refine cy rfl rfl rfl (exec_indexE (E := LwE) rfl rfl rfl hlt) ?_) | (refine cy rfl rfl rfl (exec_loadW rfl rfl HRA.out) ?_) | fail)
      refine hR.mono ?_
      rintro e W3 (⟨rfl, hJ3, hk3⟩ | ⟨rfl, hJx3⟩)
      · gi_wp2
        go_roundw
        case rel => exact ⟨m, by omega, rfl, hJ3, hnx.trans hk3⟩
        case measure => simp [intOf]
      · gi_wp2
        refine bodyPost_ret (results_none rfl _ _ _) rfl ?_
        exact ⟨⟨_, rfl⟩, .inr ⟨_, ⟨L.length - m, by omega, rfl⟩, hJx3⟩⟩
theorem back_stops (F : Fence) (n : Nat) (h40 : F.fn 85) (hro : F.round = none) (hn : 1 ≤ n) (Bs : Nat) (A : Option Addr) (cap : Nat) (L : List (Int × Blk)) (hLl : L.length ≤ 1000000) (w : World) (hBn : Bs < w.heap.size) (hBs : w.cell? ⟨Bs, 0, none⟩ = some (.slice A L.length cap)) (hL : RdE LwE w w.heap.size A L.length L) :
    SeqStopsK F n Tryz.prog 85 #[.pointer (some ⟨Bs, 0, none⟩)] encW (Below w.heap.size) (fun ys => ys = cmd L L.length) (fun pre => ∃ d, d ≤ L.length ∧ pre = cmd L d) L.length w := fun l J Jx W hW _ _ hY h0 =>
  back1_in F n h40 hro hn l Bs w.heap.size A cap L hLl J Jx hY W hBn ((hW.cell (p := ⟨Bs, 0, none⟩) hBn).trans hBs) (hL.below hW) h0
set_option maxRecDepth 100000
attribute [local go_sem] Oper.semAt_some
theorem res_blkc {fn : Func} {p u : Tmp} {c : Blk} {e : Int} (h : fn.results = #[.cell p 38, .cell u 40]) (tmps : Array Value) (w : World) (b b' : Nat) (hp : tmps.getD p undef = .pointer (some ⟨b, 0, none⟩)) (hu : tmps.getD u undef = .pointer (some ⟨b', 0, none⟩)) (hc : w.rangeAt b 0 (cel c)) (he : w.cell? ⟨b', 0, none⟩ = some (.int .i64 e)) :
    (results fn tmps).run Tryz.prog w = .ok (.tuple #[blk c, .int .i64 e]) w := by
  have hl : (loadVar 38 ⟨b, 0, none⟩).run Tryz.prog w = .ok (blk c) w := run_loadVar_mid w b 0 38 (cel c) _ hc undB rfl (by rw [aw]; exact sizeB)
  have hl2 : (loadVar 40 ⟨b', 0, none⟩).run Tryz.prog w = .ok (.int .i64 e) w := by simp [go_sem, he]
  have hp' : tmps[p]?.getD undef = .pointer (some ⟨b, 0, none⟩) := by simpa using hp
  have hu' : tmps[u]?.getD undef = .pointer (some ⟨b', 0, none⟩) := by simpa using hu
  simp [results, h, hp', hu', asAddr, hl, hl2]
theorem range_other {w : World} {b b' o i : Nat} {cs : List Value} (h : w.rangeAt b o cs) (hne : b ≠ b') (v : Value) : (w.setCell ⟨b', i, none⟩ v).rangeAt b o cs := fun j u hj => by
  rw [World.cell?_of_block (w := w) (a := ⟨b, o + j, none⟩) (heap_setCell_other w ⟨b', i, none⟩ b v hne)]
  exact h j u hj
def rd3 (w : World) (n : Int) : World := ((w.alloc (.cells #[.int .i64 n] 3)).alloc (.cells (cel al).toArray 38)).alloc (.cells #[.int .i64 0] 40)
theorem rd3_facts (w : World) (n : Int) : Below w.heap.size w (rd3 w n) ∧ (rd3 w n).heap[w.heap.size]? = some (.cells #[.int .i64 n] 3) ∧ (rd3 w n).heap[w.heap.size + 1]? = some (.cells (cel al).toArray 38) ∧ (rd3 w n).heap[w.heap.size + 1 + 1]? = some (.cells #[.int .i64 0] 40) ∧ (rd3 w n).heap.size = w.heap.size + 1 + 1 + 1 := by
  unfold rd3
  have e1 := World.size_alloc (w := w) (o := .cells #[.int .i64 n] 3)
  have e2 := World.size_alloc (w := w.alloc (.cells #[.int .i64 n] 3)) (o := .cells (cel al).toArray 38)
  have e3 := World.size_alloc (w := (w.alloc (.cells #[.int .i64 n] 3)).alloc (.cells (cel al).toArray 38)) (o := .cells #[.int .i64 0] 40)
  have n1 := new1 w #[.int .i64 n] 3
  have n2 := new1 (w.alloc (.cells #[.int .i64 n] 3)) (cel al).toArray 38
  have n3 := new1 ((w.alloc (.cells #[.int .i64 n] 3)).alloc (.cells (cel al).toArray 38)) #[.int .i64 0] 40
  rw [e2, e1] at n3
  rw [e1] at n2
  refine ⟨(((Below.refl _ w).alloc (Nat.le_refl _) _).alloc (by omega) _).alloc (by omega) _, aY (aY n1 _) _, aY n2 _, n3, by omega⟩
theorem one_cell {w : World} {b : Nat} {v : Value} {t : TypeId} (h : w.heap[b]? = some (.cells #[v] t (0, 0))) : w.cell? ⟨b, 0, none⟩ = some v ∧ w.frozen? ⟨b, 0, none⟩ = false := by
  refine ⟨?_, frozen_of_row w b 0 _ t h⟩
  rw [cell_of_row w b 0 _ t (0, 0) h]; rfl
set_option maxHeartbeats 1000000 in
theorem p_read_no (p : Nat) (vS vL : Value) (S : List Blk) (L : List (Int × Blk)) (g : Bool) (n : Int) (w : World) (h : PD w p vS vL S L g) (he0 : cE S g n ≠ 0) :
    Calls Tryz.prog 71 #[.pointer (some ⟨p, 0, none⟩), .int .i64 n] w fun e w' => e = .returned (.tuple #[blk (readB S L g n), .int .i64 (cE S g n)]) ∧ Below w.heap.size w w' := by
  obtain ⟨hA, k0, k1, k2, hsz⟩ := rd3_facts w n
  have h1 := h.below hA
  have HA := Lib.hid hA
  have HT := Lib.hid (bU k1)
  obtain ⟨c0, f0⟩ := one_cell k0
  have hO : Only (fun b => b = w.heap.size + 1) (rd3 w n) ((rd3 w n).setCells (w.heap.size + 1) 0 (cel al)) := (Only.refl (fun b => b = w.heap.size + 1) (rd3 w n)).setCells (.inl rfl) _ _
  have k2' := hO.keep k2 (by omega)
  obtain ⟨c2, f2⟩ := one_cell k2'
  have HS := Lib.hid (readB_no (L := L) he0)
  clear hA k0 k1 k2 hO k2'
  rcases askE_is (S := S) (g := g) (n := n) with he | he | ⟨he, _⟩
  rotate_right 1
  · exact absurd he he0
  all_goals
    have HE := Lib.hid he
    clear he he0
    go_enter Tryz.func71, Tryz.ntmps71
    unfold rd3 at *
    go_wp2_with (first | (refine ah rfl (aU rfl) ?_) | fail)
    generalize ((w.alloc (.cells #[.int .i64 n] 3)).alloc (.cells (cel al).toArray 38)).alloc (.cells #[.int .i64 0] 40) = w3 at *
    refine (du p vS vL S L g n w3 h1).mono ?_
    rintro e w1 ⟨rfl, rfl⟩
    rw [HE.out]
    go_wp2_with (first | (refine ah rfl (cR (c := al) (parts := []) rfl rfl) ?_) | (refine aX rfl (aP rfl rfl rfl ?ht) ?_; (case ht => exact HT.out)) | fail)
    have hr1 : (w3.setCells (w.heap.size + 1) 0 (cel al)).rangeAt (w.heap.size + 1) 0 (cel al) := World.rangeAt_setCells_same _ _ _ _ (by rw [aw]; exact HT.out)
    have hr2 := range_other (b' := w.heap.size + 1 + 1) (i := 0) hr1 (by omega)
    have hb2 := (below_setCells HA.out (show w.heap.size ≤ w.heap.size + 1 by omega) (o := 0) (cel al))
    refine bodyPost_ret (res_blkc rfl _ _ _ _ rfl rfl (hr2 _) (World.cell?_setCell_same' _ _ _ (by rw [c2]; rfl))) rfl ⟨by rw [HS.out, HE.out], hb2.setCell (p := ⟨w.heap.size + 1 + 1, 0, none⟩) (by show _ ≤ w.heap.size + 1 + 1; omega) _⟩
attribute [local go_sem] Oper.semAt_some
theorem lastW_none {L : List (Int × Blk)} {n : Int} {b : Blk} (h : ∀ q ∈ L, q.1 ≠ n) : lastW L n b = b := by
  unfold lastW
  induction L generalizing b with
  | nil => rfl
  | cons q L ih =>
    rw [List.foldl_cons, if_neg (h q (by simp)), ih fun q hq => h q (by simp [hq])]
theorem lastW_at {L : List (Int × Blk)} {n : Int} {b : Blk} {i : Nat} (hi : i < L.length) (h : (L.getD i (0, al)).1 = n) (hb : ∀ j, i < j → j < L.length → (L.getD j (0, al)).1 ≠ n) : lastW L n b = (L.getD i (0, al)).2 := by
  have key : ∀ m, i + 1 + m ≤ L.length → lastW (L.take (i + 1 + m)) n b = (L.getD i (0, al)).2 := by
    intro m
    induction m with
    | zero => intro _; rw [Nat.add_zero, lastW_succ n b hi, if_pos h]
    | succ m ih =>
      intro hm
      rw [← Nat.add_assoc, lastW_succ n b (by omega), if_neg (hb _ (by omega) (by omega))]
      exact ih (by omega)
  have := key (L.length - (i + 1)) (by omega)
  rwa [show i + 1 + (L.length - (i + 1)) = L.length from by omega, List.take_length] at this
def NoK (k : Int) (pre : List (Nat × (Int × Blk))) : Prop := ∀ x ∈ pre, x.2.1 ≠ k
def HitK (s : Nat) (k : Int) (pre : List (Nat × (Int × Blk))) (W : World) : Prop := ∃ ini last, pre = ini ++ [last] ∧ NoK k ini ∧ last.2.1 = k ∧ W.rangeAt (s + 1) 0 (cel last.2.2) ∧ W.cell? ⟨s + 1 + 1, 0, none⟩ = some (.int .i64 0)
theorem pair_at {w : World} {b : Nat} {q : Int × Blk} {t : TypeId} (h : w.heap[b]? = some (.cells (c9 q).toArray t (0, 0))) : w.cell? ⟨b, 0, none⟩ = some (.int .i64 q.1) ∧ w.rangeAt b 1 (cel q.2) := by
  have hr : w.rangeAt b 0 (c9 q) := fun j v hj => by
    rw [cell_of_row _ _ (0 + j) (c9 q).toArray t (0, 0) h]
    simpa using hj
  refine ⟨hr 0 _ rfl, fun j v hj => ?_⟩
  have := hr (j + 1) v hj
  rwa [show 0 + (j + 1) = 1 + j from by omega] at this
theorem dQ (b : Nat) : ∀ (vs : List Value) (o : Nat) (w : World), KeepsOthers w (w.setCells b o vs)
  | [], _, w => KeepsOthers.refl w
  | v :: r, o, w => (KeepsOthers.setCell w ⟨b, o, none⟩ v).trans (dQ b r (o + 1) _)
set_option maxRecDepth 100000 in
set_option maxHeartbeats 4000000 in
theorem p_read_ok (p k : Nat) (vS vL : Value) (S : List Blk) (L : List (Int × Blk)) (w : World) (h : PD w p vS vL S L false) (hk : k < S.length) (hLl : L.length ≤ 1000000) :
    Calls Tryz.prog 71 #[.pointer (some ⟨p, 0, none⟩), .int .i64 k] w fun e w' => e = .returned (.tuple #[blk (readB S L false k), .int .i64 0]) ∧ Below w.heap.size w w' := by
  obtain ⟨gS, cS, rfl⟩ := h.alive.slice rfl (by omega)
  obtain ⟨hA, k0, k1, k2, hsz⟩ := rd3_facts w (k : Int)
  have h1 := h.below hA
  have HA := Lib.hid hA
  have HE := Lib.hid (askE_ok (S := S) (n := (k : Int)) (by omega))
  have HK0 := Lib.hid k0
  have HK1 := Lib.hid k1
  have HK2 := Lib.hid k2
  obtain ⟨c0, f0⟩ := one_cell k0
  obtain ⟨AL, cL, rfl, hl1, hl2⟩ := h1.L_.form
  obtain ⟨d0, d1, d2, d3⟩ := cH h1.at_
  clear hA k0 k1 k2
  refine (callsIn_wide (n := 3)).1 ?_
  refine callsIn_of_wp_marks Tryz.func71 rfl trivial ?_ rfl
  refine wpIn_wide.2 ?_
  simp only [Tryz.ntmps71, List.size_toArray, List.length_cons, List.length_nil, Nat.reduceAdd, Nat.reduceSub, Array.replicate_succ, Array.replicate_zero, List.push_toArray, List.append_toArray, List.nil_append, List.cons_append]
  unfold rd3 at *
  go_wp2_with (first | (refine ah rfl (aU rfl) ?_) | fail)
  generalize ((w.alloc (.cells #[.int .i64 (k : Int)] 3)).alloc (.cells (cel al).toArray 38)).alloc (.cells #[.int .i64 0] 40) = w3 at *
  refine (du p _ _ S L false k w3 h1).mono ?_
  rintro e w4 ⟨rfl, rfl⟩
  rw [HE.out]
  go_wp2_with fail
  refine (callsIn_wide.1 (backward_in Fence.wide 3 trivial rfl AL L.length cL w3)).mono ?_
  rintro e w4 ⟨rfl, rfl⟩
  go_wp2_with fail
  have hB0 := HA.out.alloc HA.out.size (.cells #[.slice AL L.length cL] 103)
  have hbox := new1 w3 #[.slice AL L.length cL] 103
  have h2 := h1.below ((Below.refl _ w3).alloc (Nat.le_refl _) (.cells #[.slice AL L.length cL] 103))
  have k0 := aY HK0.out (.cells #[.slice AL L.length cL] 103)
  have k1 := aY HK1.out (.cells #[.slice AL L.length cL] 103)
  have k2 := aY HK2.out (.cells #[.slice AL L.length cL] 103)
  have hsz0 := World.size_alloc w3 (.cells #[.slice AL L.length cL] 103)
  rw [hsz] at hbox hsz0
  generalize w3.alloc (.cells #[.slice AL L.length cL] 103) = W0 at *
  clear c0 f0 d0 d1 d2 d3 h1 HA HK0 HK1 HK2 hsz
  have HK0 := Lib.hid k0
  have HK1 := Lib.hid k1
  have HK2 := Lib.hid k2
  have HH2 := Lib.hid h2
  have HB0 := Lib.hid hB0
  have hpw : p < w.heap.size := h.lt p (.inl rfl)
  have HH := Lib.hid h
  refine (wpIn_wide (n := 3)).1 ?_
  refine wpIn_rangeFunc_ownH rfl (by omega) (gf := 85) (lb := #[.pointer (some ⟨w.heap.size + 1 + 1 + 1, 0, none⟩)]) rfl trivial (enters_of Tryz.func85 (by kernel_rfl) rfl)
    (back_stops Fence.wide 2 trivial rfl (by omega) (w.heap.size + 1 + 1 + 1) AL cL L hLl W0 (by omega) (one_cell hbox).1 h2.L_.rd) belowK_t (belowK_b (Nat.le_refl _)) (Below.refl _ _) (fun _ => rfl)
    (fun pre W => NoK (k : Int) pre ∧ Below W0.heap.size W0 W)
    (fun c pre W => (c = .ret ∧ HitK w.heap.size (k : Int) pre W) ∧ Below w.heap.size w W)
    (OwnFrom.and (ownFrom_pure _ _) (ownFrom_below (Nat.le_refl _) (Nat.le_refl _)))
    (fun c => OwnFrom.and (Own.from (fun s A B row hs hg hr => by obtain ⟨hc, ini, last, e1, e2, e3, e4, e5⟩ := hs; exact ⟨hc, ini, last, e1, e2, e3, fun j v hj => cell_kept (e4 j v hj) hg hr, cell_kept e5 hg hr⟩) _) (ownFrom_below (Nat.le_refl _) (by omega)))
    ⟨fun x hx => absurd hx (by simp), Below.refl _ _⟩
    (fun x a' W => ∃ Bx, W0.heap.size ≤ Bx ∧ W.heap[Bx]? = some (.cells (c9 x.2).toArray LwE.t) ∧ a' = { tmps := #[.pointer (some ⟨p, 0, none⟩), .int .i64 (k : Int), undef, .pointer (some ⟨w.heap.size, 0, none⟩), .pointer (some ⟨w.heap.size + 1, 0, none⟩), .pointer (some ⟨w.heap.size + 1 + 1, 0, none⟩), .int .i64 0, undef, .pointer (some ⟨Bx, 0, none⟩), .pointer (some ⟨p, 0, none⟩), .int .i64 (k : Int), .int .i64 0, .int .i64 0, .bool false, undef, undef, .pointer (some ⟨p, 0, none⟩), .pointer (some ⟨p, 0, none⟩), .pointer (some ⟨p, 2, none⟩), .slice AL L.length cL, .func (.func 85) #[] #[.pointer (some ⟨w.heap.size + 1 + 1 + 1, 0, none⟩)], .int .i64 (x.1 : Int), .agg (c9 x.2).toArray, undef, undef, undef, undef, undef, undef, undef, undef, undef, undef, undef, undef, undef], defers := [] })
    (fun x a' _ X Y row hs hg hr => by
      obtain ⟨Bx, e1, e2, e3⟩ := hs
      exact ⟨Bx, e1, (hg.block Bx (aH e2) (fun e => by obtain ⟨_, o, ho, hc⟩ := hr Bx e.symm; rw [e2] at ho; cases ho; cases hc)).trans e2, e3⟩)
    ?assign ?body ?done ?stop
  case assign =>
    rintro l pre x W K ⟨hne, hb⟩ hK
    simp only [encW, List.zip_toArray, List.zip_cons_cons, List.zip_nil_right, List.foldl_toArray, List.foldl_cons, List.foldl_nil, List.setIfInBounds_toArray, List.set_cons_succ, List.set_cons_zero]
    refine wpIn_region_lit ?_
    refine cy rfl rfl rfl (exec_allocW rfl) ?_
    refine wpListIn_nul rfl rfl rfl (exec_fillW (a := x.2) rfl rfl rfl) ?_
    refine wpListIn_nil ?_
    exact hK _ _ ((KeepsOthers.alloc _ _).from _) ((Below.refl _ W).alloc hb.size _) ⟨hne, hb.alloc hb.size _⟩ ⟨W.heap.size, hb.size, heap_alloc_new W _, rfl⟩
  case body =>
    rintro l pre x a' W hl _ ⟨hne, hb⟩ ⟨Bx, hBx, hbx, rfl⟩ hlt
    obtain ⟨i, q1, qb⟩ := x
    have hn : W.cell? ⟨w.heap.size, 0, none⟩ = some (.int .i64 (k : Int)) := (one_cell (ao HK0.out hb)).1
    have hk1 := ao HK1.out hb
    have hk2 := ao HK2.out hb
    obtain ⟨hx1, hx2⟩ := pair_at hbx
    have HX2 := Lib.hid hx2
    have HT := Lib.hid (bU hk1)
    have hO : Only (fun b => b = w.heap.size + 1) W (W.setCells (w.heap.size + 1) 0 (cel qb)) := (Only.refl (fun b => b = w.heap.size + 1) W).setCells (.inl rfl) _ _
    have hk2' := hO.keep hk2 (by omega)
    obtain ⟨c2, f2⟩ := one_cell hk2'
    have HB := Lib.hid hb
    have HNE := Lib.hid hne
    have HK2' := Lib.hid hk2'
    clear hb hne hbx hx2 hk1 hk2 hO hk2'
    by_cases hq : q1 = (k : Int)
    · subst hq
      gi_wp2_with (first | (refine cy rfl rfl rfl (am rfl rfl faV0) ?_) | (refine cy rfl rfl rfl (am rfl rfl faV1) ?_) | (refine cy rfl rfl rfl (aG rfl rfl HX2.out) ?_) | (refine wpListIn_nul rfl rfl rfl (aP rfl rfl rfl ?ht) ?_; (case ht => exact HT.out)) | fail)
      have hr1 : (W.setCells (w.heap.size + 1) 0 (cel qb)).rangeAt (w.heap.size + 1) 0 (cel qb) := World.rangeAt_setCells_same _ _ _ _ (by rw [aw]; exact HT.out)
      have hr2 := range_other (b' := w.heap.size + 1 + 1) (i := 0) hr1 (by omega)
      have hbw := HB0.out.trans (HB.out.mono (by omega))
      have hb2 := below_setCells hbw (show w.heap.size ≤ w.heap.size + 1 by omega) (o := 0) (cel qb)
      exact ⟨((dQ _ _ _ _).trans (KeepsOthers.setCell _ _ _)).from _, ⟨rfl, pre, (i, (k : Int), qb), rfl, HNE.out, rfl, hr2 _, World.cell?_setCell_same' _ _ _ (by rw [c2]; rfl)⟩, hb2.setCell (p := ⟨w.heap.size + 1 + 1, 0, none⟩) (by show _ ≤ w.heap.size + 1 + 1; omega) _⟩
    · have hq' : (q1 == (k : Int)) = false := by simpa using hq
      gi_wp2_with (first | (refine cy rfl rfl rfl (am rfl rfl faV0) ?_) | (refine cy rfl rfl rfl (am rfl rfl faV1) ?_) | fail)
      exact ⟨KeepsFrom.refl _ _, Below.refl _ _, fun y hy => (List.mem_append.1 hy).elim (HNE.out y) (fun e => by simp at e; subst e; exact hq), by have := HB.out; rwa [hsz0] at this⟩
  case done =>
    rintro D ys W hD rfl ⟨hne, hb⟩ hK
    have hrd : readB S L false (k : Int) = S.getD k al := by
      rw [readB_ok HE.out]
      refine lastW_none fun q hq => ?_
      obtain ⟨j, hj, rfl⟩ := List.getElem_of_mem hq
      have := hne _ (cmd_mem L L.length j (by omega) hj)
      simpa [List.getD, List.getElem?_eq_getElem hj] using this
    have h3 := HH2.out.below hb
    obtain ⟨c0, c1, c2, c3⟩ := cH h3.at_
    have hn : W.cell? ⟨w.heap.size, 0, none⟩ = some (.int .i64 (k : Int)) := (one_cell (ao HK0.out hb)).1
    obtain ⟨b, off, hbe, _, hr⟩ := h3.alive.rd.blk hk
    injection hbe with hbe
    injection hbe with hb1 hb2
    subst hb1 hb2
    rw [Nat.zero_add] at hr
    have HRD0 := hrd
    generalize S.getD k al = x at *
    have HRD := Lib.hid HRD0
    clear HRD0
    have hk1 := ao HK1.out hb
    have hk2 := ao HK2.out hb
    have HT := Lib.hid (bU hk1)
    have hO : Only (fun b => b = w.heap.size + 1) W (W.setCells (w.heap.size + 1) 0 (cel x)) := (Only.refl (fun b => b = w.heap.size + 1) W).setCells (.inl rfl) _ _
    have hk2' := hO.keep hk2 (by omega)
    have HK2W := Lib.hid hk2
    have HA := Lib.hid c1
    have HN := Lib.hid hn
    have HR := Lib.hid hr
    have HB := Lib.hid hb
    have HKD := Lib.hid hK
    clear hrd h3 c0 c1 c2 c3 hn hr hk1 hk2 hO hk2' hne hb hK
    go_wp2_with fail
    refine wp_region_still_tail 7 (by kernel_rfl) (by kernel_rfl) ?_
    simp only [List.take_succ_cons, List.take_zero, List.drop_succ_cons, List.drop_zero]
    refine az rfl (ag rfl (ev rfl)) ?_
    simp only [Act.put, aa, ac, ae]
    refine az rfl (bk rfl (ev rfl)) ?_
    simp only [Act.put, aa, ac, ae]
    refine az rfl (am rfl (ev rfl) faP1) ?_
    simp only [Act.put, aa, ac, ae]
    refine az rfl (au rfl (ev rfl) (ldB HA.out)) ?_
    simp only [Act.put, aa, ac, ae]
    refine az rfl (au rfl (ev rfl) (ldI HN.out)) ?_
    simp only [Act.put, aa, ac, ae]
    refine az rfl (dM rfl (ev rfl) (ev rfl) hk) ?_
    simp only [Act.put, aa, ac, ae]
    refine az rfl (aG rfl (ev rfl) HR.out) ?_
    simp only [Act.put, aa, ac, ae]
    refine wpStill_nil ?_
    change wpList _ _ _ _ _ W.drew
    have HTd : W.drew.there (w.heap.size + 1) 0 64 := HT.out
    have HTd' := Lib.hid HTd
    have hk2d : (W.drew.setCells (w.heap.size + 1) 0 (cel x)).heap[w.heap.size + 1 + 1]? = some (.cells #[.int .i64 0] 40) := (cW _ _ _ W.drew _ (by omega)).trans HK2W.out
    obtain ⟨c2, f2⟩ := one_cell hk2d
    have HKd := ((dQ (w.heap.size + 1) (cel x) 0 W.drew).trans (KeepsOthers.setCell _ ⟨w.heap.size + 1 + 1, 0, none⟩ (.int .i64 0))).same D _ HKD.out rfl
    have HKH := Lib.hid HKd
    have hr1 : (W.drew.setCells (w.heap.size + 1) 0 (cel x)).rangeAt (w.heap.size + 1) 0 (cel x) := World.rangeAt_setCells_same _ _ _ _ (by rw [aw]; exact HTd)
    have HR2 := Lib.hid (range_other (b' := w.heap.size + 1 + 1) (i := 0) hr1 (by omega) (.int .i64 0))
    have HE2 := Lib.hid (World.cell?_setCell_same' (W.drew.setCells (w.heap.size + 1) 0 (cel x)) ⟨w.heap.size + 1 + 1, 0, none⟩ (.int .i64 0) (by rw [c2]; rfl))
    have hbw := bd (HB0.out.trans (HB.out.mono (by omega)))
    have HB2 := Lib.hid ((below_setCells hbw (show w.heap.size ≤ w.heap.size + 1 by omega) (o := 0) (cel x)).setCell (p := ⟨w.heap.size + 1 + 1, 0, none⟩) (by show _ ≤ w.heap.size + 1 + 1; omega) (.int .i64 0))
    clear hk2d HKd hr1 hbw HTd
    go_wp2_with (first | (refine aX rfl (aP rfl rfl rfl ?ht) ?_; (case ht => exact HTd'.out)) | fail)
    refine ⟨by simp, .inl ⟨_, _, rfl, run_takeDeferred HKH.out, ?_⟩⟩
    refine ⟨.tuple #[blk x, .int .i64 0], res_blkc rfl _ _ _ _ rfl rfl (fun j v hj => cell_kept (HR2.out j v hj) (grownBy_putObj' _ D (.deferred none)) (fun r e => by cases e; exact ⟨_, HKH.out, rfl⟩)) (cell_kept HE2.out (grownBy_putObj' _ D (.deferred none)) (fun r e => by cases e; exact ⟨_, HKH.out, rfl⟩)), by rw [HRD.out], HB2.out.trans (belowK_b (w := w) (Nat.le_refl _) _ D _ _ (by omega) HKH.out rfl rfl)⟩
  case stop =>
    rintro D c pre W hD ⟨d, hd, rfl⟩ ⟨⟨rfl, ini, last, e1, e2, e3, e4, e5⟩, hb⟩ hK
    have hrd : readB S L false (k : Int) = last.2.2 := by
      rw [readB_ok HE.out]
      cases d with
      | zero => simp [cmd] at e1
      | succ d =>
        rw [cmd] at e1
        obtain ⟨e6, e7⟩ := List.append_inj' e1 rfl
        subst e6
        have e8 : (L.length - 1 - d, L.getD (L.length - 1 - d) (0, al)) = last := by simpa using e7
        subst e8
        refine lastW_at (i := L.length - 1 - d) (by omega) e3 fun j h1 h2 => ?_
        exact e2 _ (cmd_mem L d j (by omega) h2)
    gi_wp2
    refine ⟨by simp, .inl ⟨_, _, rfl, run_takeDeferred hK, ?_⟩⟩
    refine ⟨.tuple #[blk last.2.2, .int .i64 0], res_blkc rfl _ _ _ _ rfl rfl (fun j v hj => cell_kept (e4 j v hj) (grownBy_putObj' _ D (.deferred none)) (fun r e => by cases e; exact ⟨_, hK, rfl⟩)) (cell_kept e5 (grownBy_putObj' _ D (.deferred none)) (fun r e => by cases e; exact ⟨_, hK, rfl⟩)), by rw [hrd], hb.trans (belowK_b (w := w) (Nat.le_refl _) W D _ _ (by omega) hK rfl rfl)⟩
open Go.RowKit
theorem p_read (p : Nat) (vS vL : Value) (S : List Blk) (L : List (Int × Blk)) (g : Bool) (n : Int) (w : World) (h : PD w p vS vL S L g) (hLl : L.length ≤ 1000000) :
    Calls Tryz.prog 71 #[.pointer (some ⟨p, 0, none⟩), .int .i64 n] w fun e w' => e = .returned (.tuple #[blk (readB S L g n), .int .i64 (cE S g n)]) ∧ Below w.heap.size w w' := by
  by_cases he : cE S g n = 0
  · rcases askE_is (S := S) (g := g) (n := n) with h1 | h1 | ⟨_, rfl, k, rfl, hk⟩
    · omega
    · omega
    · rw [he]
      exact p_read_ok p k vS vL S L w h hk hLl
  · exact p_read_no p vS vL S L g n w h he
def Pv (w : World) (F : Nat → Prop) (p : Nat) (S : List Blk) (L : List (Int × Blk)) (g : Bool) : Prop := ∃ vS vL, F = foot p vS vL ∧ PD w p vS vL S L g ∧ Fit S L ∧ S.length ≤ 512 ∧ L.length ≤ 1000000
section
variable {w w' : World} {F G : Nat → Prop} {p : Nat} {S : List Blk} {L : List (Int × Blk)} {g : Bool}
theorem Pv.lt (h : Pv w F p S L g) : ∀ b, F b → b < w.heap.size := by
  obtain ⟨vS, vL, rfl, h, _⟩ := h
  exact h.lt
theorem Pv.only (h : Pv w F p S L g) (k : Only G w w') (hn : ∀ b, F b → ¬ G b) : Pv w' F p S L g := by
  obtain ⟨vS, vL, rfl, h, hF⟩ := h
  exact ⟨vS, vL, rfl, h.only k hn, hF⟩
theorem dG (h : w = w') : Below w.heap.size w w' := by subst h; exact Below.refl _ _
end
def theDev : Dev where
  Dv := Pv
  lt := Pv.lt
  only := Pv.only
  fit := fun ⟨_, _, _, h, hF, _⟩ => ⟨hF, h.one⟩
  cap := fun ⟨_, _, _, _, _, hS, _⟩ => hS
  new_ok := fun k w h1 h2 => by
    refine (p_new_ok k w h1 h2).mono ?_
    rintro e w' ⟨p, vS, he, hr, hb, hf⟩
    exact ⟨p, _, he, ⟨vS, _, rfl, hr, Fit.nil _, by rw [List.length_replicate]; exact h2, Nat.zero_le _⟩, hb, hf⟩
  new_no := fun n w h => (p_new_no n w h).mono fun e w' ⟨h1, h2⟩ => ⟨h1, dG h2⟩
  read := fun n ⟨vS, vL, _, h, _, _, hL⟩ => p_read _ vS vL _ _ _ n _ h hL
  sure := fun n ⟨vS, vL, _, h, _⟩ => p_sure _ vS vL _ _ _ n _ h
  write := fun {w F p S L g} n b hL ⟨vS, vL, e0, h, hF, hS, _⟩ => by
    subst e0
    refine (p_write p vS vL S L g n b w h hL).mono ?_
    rintro e w' ⟨he, vL', h1, h2, h3⟩
    refine ⟨he, _, ⟨vS, vL', rfl, h1, hF.wr g n b, hS, ?_⟩, h2, fun k hk => ?_⟩
    · unfold wrL
      split
      · rw [List.length_append]; simp; omega
      · omega
    · rcases hk with e | e | e
      · exact .inl (.inl e)
      · exact .inl (.inr (.inl e))
      · rcases h3 k e with e | e
        · exact .inl (.inr (.inr e))
        · exact .inr e
  flush := fun {w F p S L g} ⟨vS, vL, e0, h, hF, hS, hL⟩ => by
    subst e0
    cases g
    · refine (p_flush_ok p vS vL S L w h hF).mono ?_
      rintro e w' ⟨he, h1, h2⟩
      refine ⟨he, _, ⟨vS, _, rfl, h1, Fit.nil _, by rw [if_neg (by simp), flS_len]; exact hS, Nat.zero_le _⟩, h2, fun k hk => ?_⟩
      rcases hk with e | e | e
      · exact .inl (.inl e)
      · exact .inl (.inr (.inl e))
      · simp [Value.ownBlock] at e
    · refine (p_flush_dead p vS vL S L w h).mono ?_
      rintro e w' ⟨he, rfl⟩
      exact ⟨he, _, ⟨vS, vL, rfl, h, hF, hS, hL⟩, Only.refl _ _, Grow.same _ _⟩
  fail := fun {w F p S L g} ⟨vS, vL, e0, h, hF, hS, hL⟩ => by
    subst e0
    refine (p_fail p vS vL S L g w h).mono ?_
    rintro e w' ⟨he, h1, h2⟩
    refine ⟨he, _, ⟨_, _, rfl, h1, Fit.nil _, hS, Nat.zero_le _⟩, h2, fun k hk => ?_⟩
    rcases hk with e | e | e
    · exact .inl (.inl e)
    · simp [Value.ownBlock] at e
    · simp [Value.ownBlock] at e
  dead := fun ⟨vS, vL, _, h, _⟩ => (p_dead _ vS vL _ _ _ _ h).mono fun e w' ⟨h1, h2⟩ => ⟨h1, dG h2⟩
  cZ := fun ⟨vS, vL, _, h, _⟩ => (p_sectors _ vS vL _ _ _ _ h).mono fun e w' ⟨h1, h2⟩ => ⟨h1, dG h2⟩
def zeroD : Array Value := #[.int .i64 0, .slice none 0 0, .slice none 0 0, .bool false]
def NoP (w : World) (v : Value) : Prop := v = .pointer none ∨ ∃ p, v = .pointer (some ⟨p, 0, none⟩) ∧ w.heap[p]? = some (.cells zeroD 105)
theorem n_made {w : World} {v : Value} (h : NoP w v) : Calls Tryz.prog 57 #[v] w fun e w' => e = .returned (.bool false) ∧ w = w' := by
  rcases h with rfl | ⟨p, rfl, h⟩
  · go_enter Tryz.func57, Tryz.ntmps57
    go_wp2
    go_ret
    exact ⟨rfl, rfl⟩
  · obtain ⟨c0, c1, c2, c3⟩ := cH h
    go_enter Tryz.func57, Tryz.ntmps57
    go_wp2
    go_ret
    exact ⟨rfl, rfl⟩
theorem n_sectors {w : World} {v : Value} (h : NoP w v) : Calls Tryz.prog 73 #[v] w fun e w' => e = .returned (.int .i64 0) ∧ Below w.heap.size w w' := by
  go_enter Tryz.func73, Tryz.ntmps73
  go_wp2_with fail
  refine (n_made h).mono ?_
  rintro e w1 ⟨rfl, rfl⟩
  go_wp2_with fail
  go_ret
  exact ⟨rfl, Below.refl _ _⟩
def Dev.K (D : Dev) : DvK := ⟨D.Dv, D.lt, D.only⟩
def bz (D : Dev) : BKind where
  K := D.K
  s := 79
  t := 75
  und := Tryz.underlying79
  info := by kernel_rfl
  o := 81
  cs := fun v left bX steps => #[v, .int .i64 steps, .int .i64 left, .bool bX]
  ne := by decide
section
variable {D : Dev} {w w' : World} {p : Nat} {v : Value} {Fs : Nat → Nat → Prop} {ps : List Nat} {M : BenS}
theorem BenAt.pcells (h : BenAt (bz D) w p v Fs ps M) : w.cell? ⟨p, 0, none⟩ = some v ∧ w.cell? ⟨p, 1, none⟩ = some (.int .i64 M.steps) ∧ w.cell? ⟨p, 2, none⟩ = some (.int .i64 M.left) ∧ w.cell? ⟨p, 3, none⟩ = some (.bool M.bX) := cH h.at_
theorem b_devices (h : BenAt (bz D) w p v Fs ps M) :
    Calls Tryz.prog 33 #[.pointer (some ⟨p, 0, none⟩)] w fun e w' => e = .returned (.int .i64 (M.ds.length : Int)) ∧ w = w' := by
  obtain ⟨g, c, rfl, _, _⟩ := h.slice
  obtain ⟨c0, c1, c2, c3⟩ := h.pcells
  go_enter Tryz.func33, Tryz.ntmps33
  go_wp2
  go_ret
  exact ⟨rfl, rfl⟩
theorem b_made (h : BenAt (bz D) w p v Fs ps M) :
    Calls Tryz.prog 56 #[.pointer (some ⟨p, 0, none⟩)] w fun e w' => e = .returned (.bool true) ∧ w = w' := by
  have h1 : 0 < M.ds.length := h.one
  go_enter Tryz.func56, Tryz.ntmps56
  go_wp2_with fail
  refine (b_devices h).mono ?_
  rintro e w1 ⟨rfl, rfl⟩
  go_wp2_with fail
  go_ret
  exact ⟨rfl, rfl⟩
theorem b_dark (h : BenAt (bz D) w p v Fs ps M) :
    Calls Tryz.prog 69 #[.pointer (some ⟨p, 0, none⟩)] w fun e w' => e = .returned (.bool M.bX) ∧ w = w' := by
  obtain ⟨c0, c1, c2, c3⟩ := h.pcells
  go_enter Tryz.func69, Tryz.ntmps69
  go_wp2
  go_ret
  exact ⟨rfl, rfl⟩
theorem b_device_no (h : BenAt (bz D) w p v Fs ps M) {d : Int} (hd : ¬(0 ≤ d ∧ d < M.ds.length)) :
    Calls Tryz.prog 28 #[.pointer (some ⟨p, 0, none⟩), .int .i64 d] w fun e w' => e = .returned (.tuple #[.pointer none, .int .i64 2]) ∧ w = w' := by
  have hm := Lib.hid (b_made h)
  obtain ⟨g, c, rfl, _, _⟩ := h.slice
  obtain ⟨c0, c1, c2, c3⟩ := h.pcells
  clear h
  by_cases h0 : d < 0
  · clear hd
    go_enter Tryz.func28, Tryz.ntmps28
    go_wp2_with fail
    refine hm.out.mono ?_
    rintro e w1 ⟨rfl, rfl⟩
    go_wp2_with fail
    go_ret2
    exact ⟨rfl, rfl⟩
  · have h1 : ¬(d < (M.ds.length : Int)) := by omega
    clear hd
    go_enter Tryz.func28, Tryz.ntmps28
    go_wp2_with fail
    refine hm.out.mono ?_
    rintro e w1 ⟨rfl, rfl⟩
    go_wp2_with fail
    go_ret2
    exact ⟨rfl, rfl⟩
theorem b_device_ok (h : BenAt (bz D) w p v Fs ps M) {k : Nat} (hk : k < M.ds.length) :
    Calls Tryz.prog 28 #[.pointer (some ⟨p, 0, none⟩), .int .i64 k] w fun e w' => e = .returned (.tuple #[.pointer (some ⟨ps.getD k 0, 0, none⟩), .int .i64 0]) ∧ w = w' := by
  have hm := Lib.hid (b_made h)
  obtain ⟨g, c, rfl, _, _⟩ := h.slice
  obtain ⟨c0, c1, c2, c3⟩ := h.pcells
  have hc := h.cell hk
  generalize ps.getD k 0 = q at *
  clear h
  go_enter Tryz.func28, Tryz.ntmps28
  go_wp2_with fail
  refine hm.out.mono ?_
  rintro e w1 ⟨rfl, rfl⟩
  go_wp2_with fail
  go_ret2
  exact ⟨rfl, rfl⟩
theorem b_lit_no (h : BenAt (bz D) w p v Fs ps M) {d : Int} (hd : litE M d ≠ 0) :
    Calls Tryz.prog 46 #[.pointer (some ⟨p, 0, none⟩), .int .i64 d] w fun e w' => e = .returned (.tuple #[.pointer none, .int .i64 (litE M d)]) ∧ w = w' := by
  have hm := Lib.hid (b_dark h)
  rcases dp M d with ⟨e, hdk⟩ | ⟨e, hdk, ho⟩ | ⟨e, _⟩
  · rw [e]
    have HD := Lib.hid hdk
    clear e hdk hd h
    go_enter Tryz.func46, Tryz.ntmps46
    go_wp2_with fail
    refine hm.out.mono ?_
    rintro e w1 ⟨rfl, rfl⟩
    rw [HD.out]
    go_wp2_with fail
    go_ret2
    exact ⟨rfl, rfl⟩
  · rw [e]
    have HD := Lib.hid hdk
    have HO := Lib.hid (b_device_no h ho)
    clear e hdk hd h ho
    go_enter Tryz.func46, Tryz.ntmps46
    go_wp2_with fail
    refine hm.out.mono ?_
    rintro e w1 ⟨rfl, rfl⟩
    rw [HD.out]
    go_wp2_with fail
    refine HO.out.mono ?_
    rintro e w1 ⟨rfl, rfl⟩
    go_wp2_with fail
    go_ret2
    exact ⟨rfl, rfl⟩
  · exact absurd e hd
theorem b_lit_ok (h : BenAt (bz D) w p v Fs ps M) {k : Nat} (hdk : M.bX = false) (hk : k < M.ds.length) :
    Calls Tryz.prog 46 #[.pointer (some ⟨p, 0, none⟩), .int .i64 k] w fun e w' => e = .returned (.tuple #[.pointer (some ⟨ps.getD k 0, 0, none⟩), .int .i64 0]) ∧ w = w' := by
  have hm := Lib.hid (b_dark h)
  have HD := Lib.hid hdk
  have HO := Lib.hid (b_device_ok h hk)
  clear hdk h
  generalize ps.getD k 0 = q at *
  go_enter Tryz.func46, Tryz.ntmps46
  go_wp2_with fail
  refine hm.out.mono ?_
  rintro e w1 ⟨rfl, rfl⟩
  rw [HD.out]
  go_wp2_with fail
  refine HO.out.mono ?_
  rintro e w1 ⟨rfl, rfl⟩
  go_wp2_with fail
  go_ret2
  exact ⟨rfl, rfl⟩
end
section
variable {D : Dev} {w w' : World} {p : Nat} {v : Value} {Fs : Nat → Nat → Prop} {ps : List Nat} {M : BenS}
theorem b_sectors (d : Int) (h : BenAt (bz D) w p v Fs ps M) :
    Calls Tryz.prog 62 #[.pointer (some ⟨p, 0, none⟩), .int .i64 d] w fun e w' => e = .returned (.int .i64 (seN6 M d)) ∧ Below w.heap.size w w' := by
  rcases hasE_is M d with ⟨e, ho⟩ | ⟨e, k, rfl, hk⟩
  · have HS : Hid (seN6 M d = 0) := Lib.hid (by unfold seN6; rw [if_neg (by omega)])
    have HO := Lib.hid (b_device_no h ho)
    clear e h ho
    go_enter Tryz.func62, Tryz.ntmps62
    go_wp2_with fail
    refine HO.out.mono ?_
    rintro e w1 ⟨rfl, rfl⟩
    go_wp2_with fail
    refine (n_sectors (.inl rfl)).mono ?_
    rintro e w2 ⟨rfl, hb⟩
    go_wp2_with fail
    go_ret
    exact ⟨cl HS.out.symm, hb⟩
  · obtain ⟨x, hx⟩ : ∃ x, M.ds.getD k bp = x := ⟨_, rfl⟩
    have hat := h.devs.at_ k hk
    rw [hx] at hat
    have HS : Hid (seN6 M (k : Int) = (x.S.length : Int)) := Lib.hid (by unfold seN6; rw [if_pos e, M.dev_nat, hx])
    have HO := Lib.hid (b_device_ok h hk)
    have HD := Lib.hid (D.cZ hat)
    clear e h hat hx
    generalize ps.getD k 0 = q at *
    go_enter Tryz.func62, Tryz.ntmps62
    go_wp2_with fail
    refine HO.out.mono ?_
    rintro e w1 ⟨rfl, rfl⟩
    go_wp2_with fail
    refine HD.out.mono ?_
    rintro e w2 ⟨rfl, hb⟩
    go_wp2_with fail
    go_ret
    exact ⟨cl HS.out.symm, hb⟩
theorem b_fail (d : Int) (h : BenAt (bz D) w p v Fs ps M) :
    Calls Tryz.prog 9 #[.pointer (some ⟨p, 0, none⟩), .int .i64 d] w fun e w' => e = .returned (.int .i64 (hasE M d)) ∧ Left (bz D) w p v Fs ps M.ds.length (faS6 M d) w' := by
  rcases hasE_is M d with ⟨e, ho⟩ | ⟨e, k, rfl, hk⟩
  · have HL := Lib.hid (Left.same h (M' := faS6 M d) (by unfold faS6; rw [if_neg (by omega)]))
    have HO := Lib.hid (b_device_no h ho)
    have HE := Lib.hid e
    clear e h ho
    go_enter Tryz.func9, Tryz.ntmps9
    go_wp2_with fail
    refine HO.out.mono ?_
    rintro e w1 ⟨rfl, rfl⟩
    go_wp2_with fail
    go_ret
    exact ⟨cl HE.out.symm, HL.out⟩
  · obtain ⟨x, hx⟩ : ∃ x, M.ds.getD k bp = x := ⟨_, rfl⟩
    have hat := h.devs.at_ k hk
    rw [hx] at hat
    have HS : Hid (faS6 M (k : Int) = M.put k ⟨x.S, [], true⟩) := Lib.hid (by unfold faS6; rw [if_pos e, ← hx]; rfl)
    have HO := Lib.hid (b_device_ok h hk)
    have HD := Lib.hid (D.fail hat)
    have HE := Lib.hid e
    have HH := Lib.hid h
    clear e h hat hx
    go_enter Tryz.func9, Tryz.ntmps9
    go_wp2_with fail
    refine HO.out.mono ?_
    rintro e w1 ⟨rfl, rfl⟩
    go_wp2_with fail
    refine HD.out.mono ?_
    rintro e w2 ⟨rfl, F', h1, h2, h3⟩
    go_wp2_with fail
    go_ret
    exact ⟨cl HE.out.symm, Left.turn HH.out hk h2 h3 (d := ⟨x.S, [], true⟩) h1 HS.out⟩
theorem b_step_cut (f : Value) (h : BenAt (bz D) w p v Fs ps M) (hl : M.left = 1) :
    Calls Tryz.prog 48 #[.pointer (some ⟨p, 0, none⟩), f] w fun e w' => e = .returned (.int .i64 8) ∧ BenAt (bz D) w' p v Fs ps M.night ∧ Only (fun b => b = p) w w' := by
  obtain ⟨c0, c1, c2, c3⟩ := h.pcells
  have f3 := frozen_of_row w p 3 _ _ h.at_
  rw [hl] at c2
  have HH := Lib.hid h
  have HL := Lib.hid hl
  clear h hl
  go_enter Tryz.func48, Tryz.ntmps48
  go_wp2_with fail
  go_ret
  have ho := only_set w p 3 (.bool true)
  refine ⟨rfl, HH.out.obj _ _ _ ho ?_, ho⟩
  have := heap_setCell_same w p 3 _ _ (.bool true) HH.out.at_
  simpa [bz] using this
theorem step_obj (h : BenAt (bz D) w p v Fs ps M) (h2 : 1 < M.left) : BenAt (bz D) ((w.setCell ⟨p, 2, none⟩ (.int .i64 ((M.left : Int) - 1))).setCell ⟨p, 1, none⟩ (.int .i64 ((M.steps : Int) + 1))) p v Fs ps M.done ∧ Only (fun b => b = p) w ((w.setCell ⟨p, 2, none⟩ (.int .i64 ((M.left : Int) - 1))).setCell ⟨p, 1, none⟩ (.int .i64 ((M.steps : Int) + 1))) := by
  have ho := (only_set w p 2 (.int .i64 ((M.left : Int) - 1))).setCell (p := ⟨p, 1, none⟩) (.inl rfl) (.int .i64 ((M.steps : Int) + 1))
  refine ⟨h.obj _ _ _ ho ?_, ho⟩
  have h3 := heap_setCell_same _ p 1 _ _ (.int .i64 ((M.steps : Int) + 1)) (heap_setCell_same w p 2 _ _ (.int .i64 ((M.left : Int) - 1)) h.at_)
  have e : ((M.left - 1 : Nat) : Int) = (M.left : Int) - 1 := by omega
  simpa [bz, e] using h3
theorem step_obj0 (h : BenAt (bz D) w p v Fs ps M) (h2 : M.left = 0) : BenAt (bz D) (w.setCell ⟨p, 1, none⟩ (.int .i64 ((M.steps : Int) + 1))) p v Fs ps M.done ∧ Only (fun b => b = p) w (w.setCell ⟨p, 1, none⟩ (.int .i64 ((M.steps : Int) + 1))) := by
  have ho := only_set w p 1 (.int .i64 ((M.steps : Int) + 1))
  refine ⟨h.obj _ _ _ ho ?_, ho⟩
  have h3 := heap_setCell_same w p 1 _ _ (.int .i64 ((M.steps : Int) + 1)) h.at_
  simpa [bz, h2] using h3
theorem b_step_do (fid : FuncId) (bs cs : Array Value) (h : BenAt (bz D) w p v Fs ps M) (hl : M.left ≠ 1) (hs : M.steps < 1000000) (hll : M.left < 9223372036854775808) (hf : ∀ (args : Array Value) (w : World), (callFunc fid args).run Tryz.prog w = .ok (.enter fid args) w) (Q : Int → World → Prop)
    (hdo : ∀ w1, BenAt (bz D) w1 p v Fs ps M.done → Only (fun b => b = p) w w1 → Calls Tryz.prog fid (bs ++ cs) w1 fun e w2 => ∃ x, e = .returned (.int .i64 x) ∧ Q x w2) :
    Calls Tryz.prog 48 #[.pointer (some ⟨p, 0, none⟩), .func (.func fid) bs cs] w fun e w2 => ∃ x, e = .returned (.int .i64 x) ∧ Q x w2 := by
  obtain ⟨c0, c1, c2, c3⟩ := h.pcells
  have f2 := frozen_of_row w p 2 _ _ h.at_
  have f1 := frozen_of_row w p 1 _ _ h.at_
  have HH := Lib.hid h
  clear h
  have hl1 : ((M.left : Int) == 1) = false := by simpa using (by omega : ¬ (M.left : Int) = 1)
  by_cases h2 : 1 < M.left
  · have HT := Lib.hid (step_obj HH.out h2)
    go_enter Tryz.func48, Tryz.ntmps48
    go_wp2_with fail
    refine (hdo _ HT.out.1 HT.out.2).mono ?_
    rintro e w3 ⟨x, rfl, hq⟩
    go_wp2_with fail
    go_ret
    exact ⟨x, rfl, hq⟩
  · have hl0 : M.left = 0 := by omega
    have HT := Lib.hid (step_obj0 HH.out hl0)
    rw [hl0] at c2
    clear hl1 hl hll h2 hl0
    go_enter Tryz.func48, Tryz.ntmps48
    go_wp2_with fail
    refine (hdo _ HT.out.1 HT.out.2).mono ?_
    rintro e w3 ⟨x, rfl, hq⟩
    go_wp2_with fail
    go_ret
    exact ⟨x, rfl, hq⟩
end
section
variable {D : Dev} {w w' : World} {p : Nat} {v : Value} {Fs : Nat → Nat → Prop} {ps : List Nat} {M : BenS}
set_option maxHeartbeats 1000000 in
theorem b_read (d n : Int) (h : BenAt (bz D) w p v Fs ps M) :
    Calls Tryz.prog 54 #[.pointer (some ⟨p, 0, none⟩), .int .i64 d, .int .i64 n] w fun e w' => e = .returned (.tuple #[blk (rdB6 M d n), .int .i64 (bO M d n)]) ∧ Below w.heap.size w w' := by
  have hA := (Below.refl w.heap.size w).alloc (Nat.le_refl _) (.cells (cel al).toArray 38)
  have h1 := h.below hA
  have HT := Lib.hid (dl w al 38)
  have HA := Lib.hid hA
  by_cases hl : litE M d = 0
  · rcases dp M d with ⟨e, _⟩ | ⟨e, _⟩ | ⟨e, hdk, k, rfl, hk⟩
    · omega
    · omega
    obtain ⟨x, hx⟩ : ∃ x, M.ds.getD k bp = x := ⟨_, rfl⟩
    have hat := h1.devs.at_ k hk
    rw [hx] at hat
    have HB : Hid (rdB6 M (k : Int) n = readB x.S x.L x.g n) := Lib.hid (by unfold rdB6; rw [if_pos e, ← hx]; rfl)
    have HE : Hid (bO M (k : Int) n = cE x.S x.g n) := Lib.hid (by unfold bO; rw [if_pos e, ← hx]; rfl)
    have HO := Lib.hid (b_lit_ok h1 hdk hk)
    have HD := Lib.hid (D.read n hat)
    have HSZ := Lib.hid (World.size_alloc w (.cells (cel al).toArray 38))
    clear e h h1 hat hx hdk hA hl
    rw [HB.out, HE.out]
    clear HB HE
    generalize readB x.S x.L x.g n = y at *
    generalize cE x.S x.g n = z at *
    generalize ps.getD k 0 = q at *
    go_enter Tryz.func54, Tryz.ntmps54
    go_wp2_with (first | (refine ah rfl (aU rfl) ?_) | fail)
    refine HO.out.mono ?_
    rintro e w1 ⟨rfl, rfl⟩
    go_wp2_with fail
    refine HD.out.mono ?_
    rintro e w2 ⟨rfl, hb⟩
    have HT2 := Lib.hid (bg HT.out (by rw [HSZ.out]; omega) hb)
    have HB2 := Lib.hid (HA.out.trans (hb.mono (by rw [HSZ.out]; omega)))
    clear hb
    go_wp2_with (first | (refine aX rfl (aP rfl rfl rfl HT2.out) ?_) | fail)
    exact bodyPost_ret (ch rfl _ _ _ rfl (World.rangeAt_setCells_same _ _ _ _ (by rw [aw]; exact HT2.out))) rfl ⟨rfl, below_setCells HB2.out (Nat.le_refl _) _⟩
  · have HB : Hid (rdB6 M d n = al) := Lib.hid (by unfold rdB6; rw [if_neg hl])
    have HE : Hid (bO M d n = litE M d) := Lib.hid (by unfold bO; rw [if_neg hl])
    have HO := Lib.hid (b_lit_no h1 hl)
    clear h h1 hA
    rw [HB.out, HE.out]
    rcases dp M d with ⟨e, _⟩ | ⟨e, _⟩ | ⟨e, _⟩
    rotate_right 1
    · exact absurd e hl
    all_goals
      rw [e] at HO ⊢
      clear e hl
      go_enter Tryz.func54, Tryz.ntmps54
      go_wp2_with (first | (refine ah rfl (aU rfl) ?_) | fail)
      refine HO.out.mono ?_
      rintro e w1 ⟨rfl, rfl⟩
      go_wp2_with (first | (refine ah rfl (cR (c := al) (parts := []) rfl rfl) ?_) | (refine aX rfl (aP rfl rfl rfl HT.out) ?_))
      exact bodyPost_ret (ch rfl _ _ _ rfl (World.rangeAt_setCells_same _ _ _ _ (by rw [aw]; exact HT.out))) rfl ⟨rfl, below_setCells HA.out (Nat.le_refl _) _⟩
theorem b_flush_no (d : Int) (h : BenAt (bz D) w p v Fs ps M) (hl : flA6 M d ≠ 0) :
    Calls Tryz.prog 88 #[.pointer (some ⟨p, 0, none⟩), .int .i64 d] w fun e w' => e = .returned (.int .i64 (flE6 M d)) ∧ Left (bz D) w p v Fs ps M.ds.length (flS6 M d) w' := by
  have HE : Hid (flE6 M d = flA6 M d) := Lib.hid (by unfold flE6; rw [if_neg hl])
  have HL : Hid (∀ w', Below w.heap.size w w' → Left (bz D) w p v Fs ps M.ds.length (flS6 M d) w') := Lib.hid (fun w' hb => by
    have e : flS6 M d = M := by unfold flS6; rw [if_neg hl]
    rw [e]
    exact ⟨Fs, ps, h.below hb, Only.of_below _ hb, Grow.same _ _⟩)
  by_cases h0 : litE M d = 0
  · rcases dp M d with ⟨e, _⟩ | ⟨e, _⟩ | ⟨e, hdk, k, rfl, hk⟩
    · omega
    · omega
    obtain ⟨x, hx⟩ : ∃ x, M.ds.getD k bp = x := ⟨_, rfl⟩
    have hat := h.devs.at_ k hk
    rw [hx] at hat
    have hg : x.g = true := by
      cases hg : x.g
      · exfalso; apply hl; unfold flA6; rw [if_pos e, show M.dev (k : Int) = x from hx, hg, if_neg (by decide)]
      · rfl
    have H9 : Hid (flA6 M (k : Int) = 9) := Lib.hid (by unfold flA6; rw [if_pos e, show M.dev (k : Int) = x from hx, hg, if_pos rfl])
    have HO := Lib.hid (b_lit_ok h hdk hk)
    have HD := Lib.hid (D.dead hat)
    have HG := Lib.hid hg
    clear e h hat hx hdk hl h0 hg
    generalize ps.getD k 0 = q at *
    go_enter Tryz.func88, Tryz.ntmps88
    go_wp2_with fail
    refine HO.out.mono ?_
    rintro e w1 ⟨rfl, rfl⟩
    go_wp2_with fail
    refine HD.out.mono ?_
    rintro e w2 ⟨rfl, hb⟩
    rw [HG.out]
    have HBB := Lib.hid hb
    clear hb
    go_wp2_with fail
    go_ret
    exact ⟨cl (by rw [HE.out, H9.out]), HL.out _ HBB.out⟩
  · have HA : Hid (flA6 M d = litE M d) := Lib.hid (by unfold flA6; rw [if_neg h0])
    have HO := Lib.hid (b_lit_no h h0)
    clear h hl
    rw [HE.out, HA.out]
    rcases dp M d with ⟨e, _⟩ | ⟨e, _⟩ | ⟨e, _⟩
    rotate_right 1
    · exact absurd e h0
    all_goals
      rw [e] at HO ⊢
      clear e h0
      go_enter Tryz.func88, Tryz.ntmps88
      go_wp2_with fail
      refine HO.out.mono ?_
      rintro e w1 ⟨rfl, rfl⟩
      go_wp2_with fail
      go_ret
      exact ⟨rfl, HL.out _ (Below.refl _ _)⟩
theorem b_flush (d : Int) (h : BenAt (bz D) w p v Fs ps M) (hs : M.steps < 1000000) (hll : M.left < 9223372036854775808) :
    Calls Tryz.prog 88 #[.pointer (some ⟨p, 0, none⟩), .int .i64 d] w fun e w' => e = .returned (.int .i64 (flE6 M d)) ∧ Left (bz D) w p v Fs ps M.ds.length (flS6 M d) w' := by
  by_cases hl : flA6 M d = 0
  rotate_left 1
  · exact b_flush_no d h hl
  have hlit : litE M d = 0 := by
    unfold flA6 at hl
    by_cases h0 : litE M d = 0
    · exact h0
    · rw [if_neg h0] at hl; exact hl
  rcases dp M d with ⟨e, _⟩ | ⟨e, _⟩ | ⟨e, hdk, k, rfl, hk⟩
  · omega
  · omega
  obtain ⟨x, hx⟩ : ∃ x, M.ds.getD k bp = x := ⟨_, rfl⟩
  have hat := h.devs.at_ k hk
  rw [hx] at hat
  have hg : x.g = false := by
    cases hg : x.g
    · rfl
    · exfalso; unfold flA6 at hl; rw [if_pos e, show M.dev (k : Int) = x from hx, hg, if_pos rfl] at hl; omega
  have HEE : Hid (flE6 M (k : Int) = M.stepE) := Lib.hid (by unfold flE6; rw [if_pos hl])
  have HO := Lib.hid (b_lit_ok h hdk hk)
  have HD := Lib.hid (D.dead hat)
  have HG := Lib.hid hg
  obtain ⟨q, hq⟩ : ∃ q, ps.getD k 0 = q := ⟨_, rfl⟩
  rw [hq] at HO HD
  by_cases h1 : M.left = 1
  · have HE : Hid (M.stepE = 8) := Lib.hid (by unfold BenS.stepE; rw [if_pos h1])
    have HS : Hid (flS6 M (k : Int) = M.night) := Lib.hid (by unfold flS6; rw [if_pos hl, if_pos h1])
    have HH := Lib.hid h
    have H1 := Lib.hid h1
    clear e h hat hx hdk hl hg h1 hlit hs hll hq
    go_enter Tryz.func88, Tryz.ntmps88
    go_wp2_with fail
    refine HO.out.mono ?_
    rintro e w1 ⟨rfl, rfl⟩
    go_wp2_with fail
    refine HD.out.mono ?_
    rintro e w2 ⟨rfl, hb⟩
    rw [HG.out]
    have HBB := Lib.hid hb
    clear hb
    go_wp2_with fail
    refine (b_step_cut _ (HH.out.below HBB.out) H1.out).mono ?_
    rintro e w3 ⟨rfl, h3, ho3⟩
    go_wp2_with fail
    go_ret
    refine ⟨cl (by rw [HEE.out, HE.out]), ?_⟩
    rw [HS.out]
    exact ⟨Fs, ps, h3, (Only.of_below _ HBB.out).trans (footB_obj _ ho3) fun b hb => .inl hb, Grow.same _ _⟩
  · have HE : Hid (M.stepE = 0) := Lib.hid (by unfold BenS.stepE; rw [if_neg h1])
    have HS : Hid (flS6 M (k : Int) = M.done.put k ⟨flS x.S x.L, [], x.g⟩) := Lib.hid (by unfold flS6; rw [if_pos hl, if_neg h1, show M.dev (k : Int) = x from hx]; rfl)
    have HH := Lib.hid h
    have H1 := Lib.hid h1
    have HX := Lib.hid hx
    have HSS := Lib.hid hs
    have HLL := Lib.hid hll
    have HQ := Lib.hid hq
    clear e h hat hx hdk hl hg h1 hlit hs hll hq
    go_enter Tryz.func88, Tryz.ntmps88
    go_wp2_with fail
    refine HO.out.mono ?_
    rintro e w1 ⟨rfl, rfl⟩
    go_wp2_with fail
    refine HD.out.mono ?_
    rintro e w2 ⟨rfl, hb⟩
    rw [HG.out]
    have HBB := Lib.hid hb
    clear hb
    go_wp2_with fail
    refine (b_step_do 95 #[.pointer (some ⟨q, 0, none⟩)] #[] (HH.out.below HBB.out) H1.out HSS.out HLL.out Tryz.call95 (fun z w3 => z = 0 ∧ Left (bz D) w2 p v Fs ps M.ds.length (flS6 M (k : Int)) w3) ?_).mono ?_
    · intro w3 h3 ho3
      have hat3 := h3.devs.at_ k hk
      rw [show M.done.ds.getD k bp = x from HX.out, HG.out, HQ.out] at hat3
      refine (D.flush hat3).mono ?_
      rintro e w4 ⟨he, F', g1, g2, g3⟩
      refine ⟨0, by simpa using he, rfl, Left.behind ho3 (Left.turn h3 hk g2 g3 (d := ⟨flS x.S x.L, [], x.g⟩) (show D.Dv _ _ _ _ _ _ by rw [HG.out, HQ.out]; simpa using g1) HS.out)⟩
    · rintro e w4 ⟨z, rfl, rfl, Fs', ps', h4, ho4, hg4⟩
      go_wp2_with fail
      go_ret
      refine ⟨cl (by rw [HEE.out, HE.out]), Fs', ps', h4, (Only.of_below _ HBB.out).trans ho4 fun b hb => .inl hb, fun b hb => ?_⟩
      rcases hg4 b hb with e | e
      · exact .inl e
      · exact .inr (Nat.le_trans HBB.out.size e)
end
section
variable {D : Dev} {w w' : World} {p : Nat} {v : Value} {Fs : Nat → Nat → Prop} {ps : List Nat} {M : BenS}
def wr3 (w : World) (n : Int) (b : Blk) (q : Option Addr) : World := ((w.alloc (.cells #[.int .i64 n] 3)).alloc (.cells (cel b).toArray 38)).alloc (.cells #[.pointer q] 75)
theorem wr3_facts (w : World) (n : Int) (b : Blk) (q : Option Addr) : Below w.heap.size w (wr3 w n b q) ∧ (wr3 w n b q).heap[w.heap.size]? = some (.cells #[.int .i64 n] 3) ∧ (wr3 w n b q).heap[w.heap.size + 1]? = some (.cells (cel b).toArray 38) ∧ (wr3 w n b q).heap[w.heap.size + 1 + 1]? = some (.cells #[.pointer q] 75) ∧ (wr3 w n b q).heap.size = w.heap.size + 1 + 1 + 1 := by
  unfold wr3
  have e1 := World.size_alloc (w := w) (o := .cells #[.int .i64 n] 3)
  have e2 := World.size_alloc (w := w.alloc (.cells #[.int .i64 n] 3)) (o := .cells (cel b).toArray 38)
  have e3 := World.size_alloc (w := (w.alloc (.cells #[.int .i64 n] 3)).alloc (.cells (cel b).toArray 38)) (o := .cells #[.pointer q] 75)
  have n1 := new1 w #[.int .i64 n] 3
  have n2 := new1 (w.alloc (.cells #[.int .i64 n] 3)) (cel b).toArray 38
  have n3 := new1 ((w.alloc (.cells #[.int .i64 n] 3)).alloc (.cells (cel b).toArray 38)) #[.pointer q] 75
  rw [e2, e1] at n3
  rw [e1] at n2
  refine ⟨(((Below.refl _ w).alloc (Nat.le_refl _) _).alloc (by omega) _).alloc (by omega) _, aY (aY n1 _) _, aY n2 _, n3, by omega⟩
theorem b_clo {q a b c : Nat} {n : Int} {x : Blk} {F : Nat → Prop} {S : List Blk} {L : List (Int × Blk)} {g : Bool} (h : D.Dv w F q S L g) (hL : L.length < 1000000) (hq : w.heap[a]? = some (.cells #[.pointer (some ⟨q, 0, none⟩)] 75)) (hn : w.heap[b]? = some (.cells #[.int .i64 n] 3)) (hx : w.heap[c]? = some (.cells (cel x).toArray 38)) :
    Calls Tryz.prog 49 #[.pointer (some ⟨a, 0, none⟩), .pointer (some ⟨b, 0, none⟩), .pointer (some ⟨c, 0, none⟩)] w fun e w' => e = .returned (.int .i64 (cE S g n)) ∧ ∃ F', D.Dv w' F' q S (wrL S L g n x) g ∧ Only F w w' ∧ Grow w F F' := by
  obtain ⟨c1, f1⟩ := one_cell hq
  obtain ⟨c2, f2⟩ := one_cell hn
  have HR := Lib.hid (blk_range hx)
  have HD := Lib.hid (D.write n x hL h)
  clear h hq hn hx
  go_enter Tryz.func49, Tryz.ntmps49
  go_wp2_with (first | (refine ah rfl (aG rfl rfl HR.out) ?_) | fail)
  refine HD.out.mono ?_
  rintro e w4 ⟨rfl, F', g1, g2, g3⟩
  go_wp2_with fail
  go_ret
  exact ⟨rfl, F', g1, g2, g3⟩
set_option maxHeartbeats 1000000 in
theorem b_write_lit (d n : Int) (x : Blk) (h : BenAt (bz D) w p v Fs ps M) (h0 : litE M d ≠ 0) :
    Calls Tryz.prog 22 #[.pointer (some ⟨p, 0, none⟩), .int .i64 d, .int .i64 n, blk x] w fun e w' => e = .returned (.int .i64 (litE M d)) ∧ Below w.heap.size w w' := by
  have hA : Below w.heap.size w ((w.alloc (.cells #[.int .i64 n] 3)).alloc (.cells (cel x).toArray 38)) := ((Below.refl _ w).alloc (Nat.le_refl _) _).alloc (by rw [World.size_alloc]; omega) _
  have HO := Lib.hid (b_lit_no (h.below hA) h0)
  have HF := Lib.hid (wr3_facts w n x none).1
  clear h hA
  rcases dp M d with ⟨e, _⟩ | ⟨e, _⟩ | ⟨e, _⟩
  rotate_right 1
  · exact absurd e h0
  all_goals
    rw [e] at HO ⊢
    clear e h0
    go_enter Tryz.func22, Tryz.ntmps22
    go_wp2_with (first | (refine ah rfl (bH rfl rfl) ?_) | fail)
    refine HO.out.mono ?_
    rintro e w1 ⟨rfl, rfl⟩
    go_wp2_with fail
    go_ret
    exact ⟨rfl, HF.out⟩
end
end Go.Proofs.YtheponmdbmloaaaGreatDoor
