/-
  Steps of a fenced walk by what one operation does to the world (as wpList_val, wpList_nul in XReg).
  slices.Backward over the loose writes: its contract.
  The program's device: Read.
  The program's device: Read, what is there.
  The program's device as what the laws lean on.
  A device that is none: nil, or one that nothing made: what its methods answer.
-/
import Derived.RangeFuncNested
import Derived.RangeFuncBound
import Derived.RangeFuncCalls
import Derived.RangeFuncLeaves
import Derived.Shelf.Abstract
import Derived.Shelf.RegionOpen
import Derived.WalkKit
import Derived.OwnWalkIn
import Derived.TacticsInMore
import Derived.LoopNIn
import Derived.LoopIn
import Derived.Test.YtpcdcnnnkblhiaaMF
import Derived.Test.YtpcdcnnnkblhiaaME
namespace Go.Proofs.Ytpcdcnnnkblhiaa
open Go.RowKit
set_option linter.unusedVariables false
set_option maxRecDepth 100000

def noDefer (o : Oper) : Bool := match o.op with
  | .defer _ => false
  | _ => true
theorem noDefer_spec {o : Oper} (h : noDefer o = true) : ∀ c, o.op ≠ .defer c := by
  intro c e
  unfold noDefer at h
  rw [e] at h
  cases h
section
variable {F : Fence} {n : Nat} {P : Program} {ops : Array Oper} {rest : List Oper} {o : Oper} {a : Act} {w w' : World} {Q : Exit → Act → World → Prop} {v : Value}
theorem wpListIn_val (hg : o.guard = none) (hd : noDefer o = true) (ha : o.about P w a.eval = none) (h : (execOp a.eval o).run P w = .ok (.value v) w') (hr : wpListIn F n P ops Q rest (a.put o.dst v) w') : wpListIn F n P ops Q (o :: rest) a w := by
  refine wpListIn_plain hg fun K hK => ?_
  unfold Oper.wpIn
  refine ⟨fun f hf => (by rw [ha] at hf; cases hf), ?_⟩
  rw [Oper.semAt_plain F _ _ (noDefer_spec hd), h]
  exact hK _ _ hr
theorem wpListIn_nul (hg : o.guard = none) (hd : noDefer o = true) (ha : o.about P w a.eval = none) (h : (execOp a.eval o).run P w = .ok .skip w') (hr : wpListIn F n P ops Q rest (a.put o.dst undef) w') : wpListIn F n P ops Q (o :: rest) a w := by
  refine wpListIn_plain hg fun K hK => ?_
  unfold Oper.wpIn
  refine ⟨fun f hf => (by rw [ha] at hf; cases hf), ?_⟩
  rw [Oper.semAt_plain F _ _ (noDefer_spec hd), h]
  exact hK _ _ hr
end
end Go.Proofs.Ytpcdcnnnkblhiaa
namespace Go.Proofs.Ytpcdcnnnkblhiaa
open Go.RowKit Go.Shelf
set_option linter.unusedVariables false

attribute [local go_sem] Oper.semAt_some

/-- What has come behind d rounds: the last ones first. -/
def cmd (L : List (Int × Blk)) : Nat → List (Nat × (Int × Blk))
  | 0 => []
  | d + 1 => cmd L d ++ [(L.length - 1 - d, L.getD (L.length - 1 - d) (0, zeroB))]
theorem cmd_len (L : List (Int × Blk)) (d : Nat) : (cmd L d).length = d := by
  induction d with
  | zero => rfl
  | succ d ih => rw [cmd, List.length_append, ih]; rfl
theorem cmd_mem (L : List (Int × Blk)) (d i : Nat) (h1 : L.length - d ≤ i) (h2 : i < L.length) : (i, L.getD i (0, zeroB)) ∈ cmd L d := by
  induction d with
  | zero => omega
  | succ d ih =>
    rw [cmd]
    by_cases e : L.length - d ≤ i
    · exact List.mem_append.2 (.inl (ih e))
    · have : i = L.length - 1 - d := by omega
      subst this
      exact List.mem_append.2 (.inr (by simp))
def encW (x : Nat × (Int × Blk)) : Array Value := #[.int .i64 (x.1 : Int), .agg (cel65 x.2).toArray]
set_option maxHeartbeats 1000000 in
theorem backward_in (F : Fence) (n : Nat) (h : F.fn 64) (hro : F.round = none) (a : Option Addr) (len cap : Nat) (w : World) :
    CallsIn F n Try.prog 64 #[.slice a len cap] w fun e w' => e = .returned (.func (.func 78) #[] #[.pointer (some ⟨w.heap.size, 0, none⟩)]) ∧ w' = w.alloc (.cells #[.slice a len cap] 79) := by
  refine callsIn_of_wp Try.func64 rfl h ?_ hro
  simp only [Try.ntmps64, List.size_toArray, List.length_cons, List.length_nil, Nat.reduceAdd, Nat.reduceSub, Array.replicate_succ, Array.replicate_zero, List.push_toArray, List.append_toArray, List.nil_append, List.cons_append]
  gi_wp2
  go_ret
  exact ⟨rfl, rfl⟩
set_option maxRecDepth 100000 in
set_option maxHeartbeats 2000000 in
/-- The closure: the last one first; for every loop body that keeps what lay below n₀. -/
theorem back1_in (F : Fence) (n : Nat) (h40 : F.fn 78) (hro : F.round = none) (hn : 1 ≤ n) (l Bs n₀ : Nat) (A : Option Addr) (cap : Nat) (L : List (Int × Blk)) (hLl : L.length ≤ 1000000) (J Jx : List (Nat × (Int × Blk)) → World → Prop)
    (hY : ∀ pre x W, J pre W → pre.length < L.length → YieldAt F (n - 1) Try.prog l (encW x) W fun e W' =>
      (e = .returned (.bool true) ∧ J (pre ++ [x]) W' ∧ Below n₀ W W') ∨ (e = .returned (.bool false) ∧ Jx (pre ++ [x]) W'))
    (W : World) (hBn : Bs < n₀) (hBs : W.cell? ⟨Bs, 0, none⟩ = some (.slice A L.length cap)) (hL : RdE LwE W n₀ A L.length L) (h0 : J [] W) :
    CallsIn F n Try.prog 78 #[.func (.yield l) #[] #[], .pointer (some ⟨Bs, 0, none⟩)] W fun e W' => (∃ v, e = .returned v) ∧
      ((∃ ys, ys = cmd L L.length ∧ J ys W') ∨ (∃ pre, (∃ d, d ≤ L.length ∧ pre = cmd L d) ∧ Jx pre W')) := by
  refine callsIn_of_wp Try.func78 rfl h40 ?_ hro
  simp only [Try.ntmps78, List.size_toArray, List.length_cons, List.length_nil, Nat.reduceAdd, Nat.reduceSub, Array.replicate_succ, Array.replicate_zero, List.push_toArray, List.append_toArray, List.nil_append, List.cons_append]
  gi_wp2
  gi_loopw [3] (fun i wr => ∃ r : Nat, r ≤ L.length ∧ i = .int .i64 ((r : Int) - 1) ∧ J (cmd L (L.length - r)) wr ∧ Below n₀ W wr)
    (fun i _ => (intOf i + 1).toNat)
  case atStart => exact ⟨L.length, Nat.le_refl _, rfl, by rw [Nat.sub_self]; exact h0, Below.refl _ _⟩
  case round =>
    obtain ⟨r, hr, rfl, hJs, hnx⟩ := hrel
    have hbx : wr.cell? ⟨Bs, 0, none⟩ = some (.slice A L.length cap) := (hnx.cell (p := ⟨Bs, 0, none⟩) hBn).trans hBs
    have hLr := hL.below hnx
    cases r with
    | zero =>
      clear hLr hbx
      rw [Nat.sub_zero] at hJs
      have e : ((0 : Nat) : Int) - 1 = -1 := rfl
      rw [e]
      gi_wp2
      go_end0
      exact ⟨⟨_, rfl⟩, .inl ⟨_, rfl, hJs⟩⟩
    | succ m =>
      have e : ((m + 1 : Nat) : Int) - 1 = (m : Int) := by omega
      rw [e]
      clear e
      have hlt : m < L.length := hr
      obtain ⟨bA, oA, rfl, hbA, rA⟩ := RdE.pairs hLr hlt
      have hnext : cmd L (L.length - m) = cmd L (L.length - (m + 1)) ++ [(m, L.getD m (0, zeroB))] := by
        have e1 : L.length - m = (L.length - (m + 1)) + 1 := by omega
        rw [e1, cmd]
        have e2 : L.length - 1 - (L.length - (m + 1)) = m := by omega
        rw [e2]
      have HNX := Lib.hid hnext
      obtain ⟨fn, tmps, assign, body, hy, hR⟩ := hY _ (m, L.getD m (0, zeroB)) wr hJs (by rw [cmd_len]; omega)
      rw [← hnext] at hR
      have HRA := Lib.hid rA
      generalize L.getD m (0, zeroB) = q at *
      unfold encW at hy
      dsimp only at hy
      clear hnext rA hLr
      gi_wp2_with (first | (refine wpListIn_val rfl rfl rfl (exec_indexE (E := LwE) rfl rfl rfl hlt) ?_) | (refine wpListIn_val rfl rfl rfl (exec_loadW rfl rfl HRA.out) ?_) | fail)
      refine hR.mono ?_
      rintro e W3 (⟨rfl, hJ3, hk3⟩ | ⟨rfl, hJx3⟩)
      · gi_wp2
        go_roundw
        case rel => exact ⟨m, by omega, rfl, hJ3, hnx.trans hk3⟩
        case measure => simp [intOf]
      · gi_wp2
        refine bodyPost_ret (results_none rfl _ _ _) rfl ?_
        exact ⟨⟨_, rfl⟩, .inr ⟨_, ⟨L.length - m, by omega, rfl⟩, hJx3⟩⟩
/-- slices.Backward(s) hands back a value of that contract. -/
theorem back_stops (F : Fence) (n : Nat) (h40 : F.fn 78) (hro : F.round = none) (hn : 1 ≤ n) (Bs : Nat) (A : Option Addr) (cap : Nat) (L : List (Int × Blk)) (hLl : L.length ≤ 1000000) (w : World) (hBn : Bs < w.heap.size) (hBs : w.cell? ⟨Bs, 0, none⟩ = some (.slice A L.length cap)) (hL : RdE LwE w w.heap.size A L.length L) :
    SeqStopsK F n Try.prog 78 #[.pointer (some ⟨Bs, 0, none⟩)] encW (Below w.heap.size) (fun ys => ys = cmd L L.length) (fun pre => ∃ d, d ≤ L.length ∧ pre = cmd L d) L.length w := fun l J Jx W hW _ _ hY h0 =>
  back1_in F n h40 hro hn l Bs w.heap.size A cap L hLl J Jx hY W hBn ((hW.cell (p := ⟨Bs, 0, none⟩) hBn).trans hBs) (hL.below hW) h0
end Go.Proofs.Ytpcdcnnnkblhiaa
namespace Go.Proofs.Ytpcdcnnnkblhiaa
open Go.RowKit Go.Shelf
set_option linter.unusedVariables false
set_option maxRecDepth 100000

attribute [local go_sem] Oper.semAt_some

theorem res_blkc {fn : Func} {p u : Tmp} {c : Blk} {e : Int} (h : fn.results = #[.cell p 34, .cell u 25]) (tmps : Array Value) (w : World) (b b' : Nat) (hp : tmps.getD p undef = .pointer (some ⟨b, 0, none⟩)) (hu : tmps.getD u undef = .pointer (some ⟨b', 0, none⟩)) (hc : w.rangeAt b 0 (cel c)) (he : w.cell? ⟨b', 0, none⟩ = some (.int .i64 e)) :
    (results fn tmps).run Try.prog w = .ok (.tuple #[blk c, .int .i64 e]) w := by
  have hl : (loadVar 34 ⟨b, 0, none⟩).run Try.prog w = .ok (blk c) w := run_loadVar_mid w b 0 34 (cel c) _ hc undB rfl (by rw [cel_length]; exact sizeB)
  have hl2 : (loadVar 25 ⟨b', 0, none⟩).run Try.prog w = .ok (.int .i64 e) w := by simp [go_sem, he]
  have hp' : tmps[p]?.getD undef = .pointer (some ⟨b, 0, none⟩) := by simpa using hp
  have hu' : tmps[u]?.getD undef = .pointer (some ⟨b', 0, none⟩) := by simpa using hu
  simp [results, h, hp', hu', asAddr, hl, hl2]
theorem range_other {w : World} {b b' o i : Nat} {cs : List Value} (h : w.rangeAt b o cs) (hne : b ≠ b') (v : Value) : (w.setCell ⟨b', i, none⟩ v).rangeAt b o cs := fun j u hj => by
  rw [World.cell?_of_block (w := w) (a := ⟨b, o + j, none⟩) (heap_setCell_other w ⟨b', i, none⟩ b v hne)]
  exact h j u hj
/-- What Read lays ahead: its argument, its two results. -/
def rd3 (w : World) (n : Int) : World := ((w.alloc (.cells #[.int .i64 n] 3)).alloc (.cells (cel zeroB).toArray 34)).alloc (.cells #[.int .i64 0] 25)
theorem rd3_facts (w : World) (n : Int) : Below w.heap.size w (rd3 w n) ∧ (rd3 w n).heap[w.heap.size]? = some (.cells #[.int .i64 n] 3) ∧ (rd3 w n).heap[w.heap.size + 1]? = some (.cells (cel zeroB).toArray 34) ∧ (rd3 w n).heap[w.heap.size + 1 + 1]? = some (.cells #[.int .i64 0] 25) ∧ (rd3 w n).heap.size = w.heap.size + 1 + 1 + 1 := by
  unfold rd3
  have e1 := World.size_alloc (w := w) (o := .cells #[.int .i64 n] 3)
  have e2 := World.size_alloc (w := w.alloc (.cells #[.int .i64 n] 3)) (o := .cells (cel zeroB).toArray 34)
  have e3 := World.size_alloc (w := (w.alloc (.cells #[.int .i64 n] 3)).alloc (.cells (cel zeroB).toArray 34)) (o := .cells #[.int .i64 0] 25)
  have n1 := new1 w #[.int .i64 n] 3
  have n2 := new1 (w.alloc (.cells #[.int .i64 n] 3)) (cel zeroB).toArray 34
  have n3 := new1 ((w.alloc (.cells #[.int .i64 n] 3)).alloc (.cells (cel zeroB).toArray 34)) #[.int .i64 0] 25
  rw [e2, e1] at n3
  rw [e1] at n2
  refine ⟨(((Below.refl _ w).alloc (Nat.le_refl _) _).alloc (by omega) _).alloc (by omega) _, blk_past (blk_past n1 _) _, blk_past n2 _, n3, by omega⟩
theorem one_cell {w : World} {b : Nat} {v : Value} {t : TypeId} (h : w.heap[b]? = some (.cells #[v] t (0, 0))) : w.cell? ⟨b, 0, none⟩ = some v ∧ w.frozen? ⟨b, 0, none⟩ = false := by
  refine ⟨?_, frozen_of_row w b 0 _ t h⟩
  rw [cell_of_row w b 0 _ t (0, 0) h]; rfl
set_option maxHeartbeats 1000000 in
theorem p_read_no (p : Nat) (vS vL : Value) (S : List Blk) (L : List (Int × Blk)) (g : Bool) (n : Int) (w : World) (h : PD w p vS vL S L g) (he0 : askE S g n ≠ 0) :
    Calls Try.prog 31 #[.pointer (some ⟨p, 0, none⟩), .int .i64 n] w fun e w' => e = .returned (.tuple #[blk (readB S L g n), .int .i64 (askE S g n)]) ∧ Below w.heap.size w w' := by
  obtain ⟨hA, k0, k1, k2, hsz⟩ := rd3_facts w n
  have h1 := h.below hA
  have HA := Lib.hid hA
  have HT := Lib.hid (blk_there k1)
  obtain ⟨c0, f0⟩ := one_cell k0
  have hO : Only (fun b => b = w.heap.size + 1) (rd3 w n) ((rd3 w n).setCells (w.heap.size + 1) 0 (cel zeroB)) := (Only.refl (fun b => b = w.heap.size + 1) (rd3 w n)).setCells (.inl rfl) _ _
  have k2' := hO.keep k2 (by omega)
  obtain ⟨c2, f2⟩ := one_cell k2'
  have HS := Lib.hid (readB_no (L := L) he0)
  clear hA k0 k1 k2 hO k2'
  rcases askE_is (S := S) (g := g) (n := n) with he | he | ⟨he, _⟩
  rotate_right 1
  · exact absurd he he0
  all_goals
    have HE := Lib.hid he
    clear he he0
    go_enter Try.func31, Try.ntmps31
    unfold rd3 at *
    go_wp2_with (first | (refine wpList_val rfl (exec_alloc rfl) ?_) | fail)
    generalize ((w.alloc (.cells #[.int .i64 n] 3)).alloc (.cells (cel zeroB).toArray 34)).alloc (.cells #[.int .i64 0] 25) = w3 at *
    refine (p_refusal p vS vL S L g n w3 h1).mono ?_
    rintro e w1 ⟨rfl, rfl⟩
    rw [HE.out]
    go_wp2_with (first | (refine wpList_val rfl (exec_build (c := zeroB) (parts := []) rfl rfl) ?_) | (refine wpList_nul rfl (exec_store rfl rfl rfl ?ht) ?_; (case ht => exact HT.out)) | fail)
    have hr1 : (w3.setCells (w.heap.size + 1) 0 (cel zeroB)).rangeAt (w.heap.size + 1) 0 (cel zeroB) := World.rangeAt_setCells_same _ _ _ _ (by rw [cel_length]; exact HT.out)
    have hr2 := range_other (b' := w.heap.size + 1 + 1) (i := 0) hr1 (by omega)
    have hb2 := (below_setCells HA.out (show w.heap.size ≤ w.heap.size + 1 by omega) (o := 0) (cel zeroB))
    refine bodyPost_ret (res_blkc rfl _ _ _ _ rfl rfl (hr2 _) (World.cell?_setCell_same' _ _ _ (by rw [c2]; rfl))) rfl ⟨by rw [HS.out, HE.out], hb2.setCell (p := ⟨w.heap.size + 1 + 1, 0, none⟩) (by show _ ≤ w.heap.size + 1 + 1; omega) _⟩
end Go.Proofs.Ytpcdcnnnkblhiaa
namespace Go.Proofs.Ytpcdcnnnkblhiaa
open Go.RowKit Go.Shelf
set_option linter.unusedVariables false

attribute [local go_sem] Oper.semAt_some

theorem lastW_none {L : List (Int × Blk)} {n : Int} {b : Blk} (h : ∀ q ∈ L, q.1 ≠ n) : lastW L n b = b := by
  unfold lastW
  induction L generalizing b with
  | nil => rfl
  | cons q L ih =>
    rw [List.foldl_cons, if_neg (h q (by simp)), ih fun q hq => h q (by simp [hq])]
theorem lastW_at {L : List (Int × Blk)} {n : Int} {b : Blk} {i : Nat} (hi : i < L.length) (h : (L.getD i (0, zeroB)).1 = n) (hb : ∀ j, i < j → j < L.length → (L.getD j (0, zeroB)).1 ≠ n) : lastW L n b = (L.getD i (0, zeroB)).2 := by
  have key : ∀ m, i + 1 + m ≤ L.length → lastW (L.take (i + 1 + m)) n b = (L.getD i (0, zeroB)).2 := by
    intro m
    induction m with
    | zero => intro _; rw [Nat.add_zero, lastW_succ n b hi, if_pos h]
    | succ m ih =>
      intro hm
      rw [← Nat.add_assoc, lastW_succ n b (by omega), if_neg (hb _ (by omega) (by omega))]
      exact ih (by omega)
  have := key (L.length - (i + 1)) (by omega)
  rwa [show i + 1 + (L.length - (i + 1)) = L.length from by omega, List.take_length] at this
def NoK (k : Int) (pre : List (Nat × (Int × Blk))) : Prop := ∀ x ∈ pre, x.2.1 ≠ k
/-- A round has found it: it lies in the results' cells. -/
def HitK (s : Nat) (k : Int) (pre : List (Nat × (Int × Blk))) (W : World) : Prop := ∃ ini last, pre = ini ++ [last] ∧ NoK k ini ∧ last.2.1 = k ∧ W.rangeAt (s + 1) 0 (cel last.2.2) ∧ W.cell? ⟨s + 1 + 1, 0, none⟩ = some (.int .i64 0)
theorem pair_at {w : World} {b : Nat} {q : Int × Blk} {t : TypeId} (h : w.heap[b]? = some (.cells (cel65 q).toArray t (0, 0))) : w.cell? ⟨b, 0, none⟩ = some (.int .i64 q.1) ∧ w.rangeAt b 1 (cel q.2) := by
  have hr : w.rangeAt b 0 (cel65 q) := fun j v hj => by
    rw [cell_of_row _ _ (0 + j) (cel65 q).toArray t (0, 0) h]
    simpa using hj
  refine ⟨hr 0 _ rfl, fun j v hj => ?_⟩
  have := hr (j + 1) v hj
  rwa [show 0 + (j + 1) = 1 + j from by omega] at this
theorem keeps_setCells (b : Nat) : ∀ (vs : List Value) (o : Nat) (w : World), KeepsOthers w (w.setCells b o vs)
  | [], _, w => KeepsOthers.refl w
  | v :: r, o, w => (KeepsOthers.setCell w ⟨b, o, none⟩ v).trans (keeps_setCells b r (o + 1) _)
set_option maxRecDepth 100000 in
set_option maxHeartbeats 4000000 in
theorem p_read_ok (p k : Nat) (vS vL : Value) (S : List Blk) (L : List (Int × Blk)) (w : World) (h : PD w p vS vL S L false) (hk : k < S.length) (hLl : L.length ≤ 1000000) :
    Calls Try.prog 31 #[.pointer (some ⟨p, 0, none⟩), .int .i64 k] w fun e w' => e = .returned (.tuple #[blk (readB S L false k), .int .i64 0]) ∧ Below w.heap.size w w' := by
  obtain ⟨gS, cS, rfl⟩ := h.alive.slice rfl (by omega)
  obtain ⟨hA, k0, k1, k2, hsz⟩ := rd3_facts w (k : Int)
  have h1 := h.below hA
  have HA := Lib.hid hA
  have HE := Lib.hid (askE_ok (S := S) (n := (k : Int)) (by omega))
  have HK0 := Lib.hid k0
  have HK1 := Lib.hid k1
  have HK2 := Lib.hid k2
  obtain ⟨c0, f0⟩ := one_cell k0
  obtain ⟨AL, cL, rfl, hl1, hl2⟩ := h1.L_.form
  obtain ⟨d0, d1, d2, d3⟩ := cells4 h1.at_
  clear hA k0 k1 k2
  refine (callsIn_wide (n := 3)).1 ?_
  refine callsIn_of_wp_marks Try.func31 rfl trivial ?_ rfl
  refine wpIn_wide.2 ?_
  simp only [Try.ntmps31, List.size_toArray, List.length_cons, List.length_nil, Nat.reduceAdd, Nat.reduceSub, Array.replicate_succ, Array.replicate_zero, List.push_toArray, List.append_toArray, List.nil_append, List.cons_append]
  unfold rd3 at *
  go_wp2_with (first | (refine wpList_val rfl (exec_alloc rfl) ?_) | fail)
  generalize ((w.alloc (.cells #[.int .i64 (k : Int)] 3)).alloc (.cells (cel zeroB).toArray 34)).alloc (.cells #[.int .i64 0] 25) = w3 at *
  refine (p_refusal p _ _ S L false k w3 h1).mono ?_
  rintro e w4 ⟨rfl, rfl⟩
  rw [HE.out]
  go_wp2_with fail
  refine (callsIn_wide.1 (backward_in Fence.wide 3 trivial rfl AL L.length cL w3)).mono ?_
  rintro e w4 ⟨rfl, rfl⟩
  go_wp2_with fail
  have hB0 := HA.out.alloc HA.out.size (.cells #[.slice AL L.length cL] 79)
  have hbox := new1 w3 #[.slice AL L.length cL] 79
  have h2 := h1.below ((Below.refl _ w3).alloc (Nat.le_refl _) (.cells #[.slice AL L.length cL] 79))
  have k0 := blk_past HK0.out (.cells #[.slice AL L.length cL] 79)
  have k1 := blk_past HK1.out (.cells #[.slice AL L.length cL] 79)
  have k2 := blk_past HK2.out (.cells #[.slice AL L.length cL] 79)
  have hsz0 := World.size_alloc w3 (.cells #[.slice AL L.length cL] 79)
  rw [hsz] at hbox hsz0
  generalize w3.alloc (.cells #[.slice AL L.length cL] 79) = W0 at *
  clear c0 f0 d0 d1 d2 d3 h1 HA HK0 HK1 HK2 hsz
  have HK0 := Lib.hid k0
  have HK1 := Lib.hid k1
  have HK2 := Lib.hid k2
  have HH2 := Lib.hid h2
  have HB0 := Lib.hid hB0
  have hpw : p < w.heap.size := h.lt p (.inl rfl)
  have HH := Lib.hid h
  refine (wpIn_wide (n := 3)).1 ?_
  refine wpIn_rangeFunc_ownH rfl (by omega) (gf := 78) (lb := #[.pointer (some ⟨w.heap.size + 1 + 1 + 1, 0, none⟩)]) rfl trivial (enters_of Try.func78 (by kernel_rfl) rfl)
    (back_stops Fence.wide 2 trivial rfl (by omega) (w.heap.size + 1 + 1 + 1) AL cL L hLl W0 (by omega) (one_cell hbox).1 h2.L_.rd) belowK_t (belowK_b (Nat.le_refl _)) (Below.refl _ _) (fun _ => rfl)
    (fun pre W => NoK (k : Int) pre ∧ Below W0.heap.size W0 W)
    (fun c pre W => (c = .ret ∧ HitK w.heap.size (k : Int) pre W) ∧ Below w.heap.size w W)
    (OwnFrom.and (ownFrom_pure _ _) (ownFrom_below (Nat.le_refl _) (Nat.le_refl _)))
    (fun c => OwnFrom.and (Own.from (fun s A B row hs hg hr => by obtain ⟨hc, ini, last, e1, e2, e3, e4, e5⟩ := hs; exact ⟨hc, ini, last, e1, e2, e3, fun j v hj => cell_kept (e4 j v hj) hg hr, cell_kept e5 hg hr⟩) _) (ownFrom_below (Nat.le_refl _) (by omega)))
    ⟨fun x hx => absurd hx (by simp), Below.refl _ _⟩
    (fun x a' W => ∃ Bx, W0.heap.size ≤ Bx ∧ W.heap[Bx]? = some (.cells (cel65 x.2).toArray LwE.t) ∧ a' = { tmps := #[.pointer (some ⟨p, 0, none⟩), .int .i64 (k : Int), undef, .pointer (some ⟨w.heap.size, 0, none⟩), .pointer (some ⟨w.heap.size + 1, 0, none⟩), .pointer (some ⟨w.heap.size + 1 + 1, 0, none⟩), .int .i64 0, undef, .pointer (some ⟨Bx, 0, none⟩), .pointer (some ⟨p, 0, none⟩), .int .i64 (k : Int), .int .i64 0, .int .i64 0, .bool false, undef, undef, .pointer (some ⟨p, 0, none⟩), .pointer (some ⟨p, 0, none⟩), .pointer (some ⟨p, 2, none⟩), .slice AL L.length cL, .func (.func 78) #[] #[.pointer (some ⟨w.heap.size + 1 + 1 + 1, 0, none⟩)], .int .i64 (x.1 : Int), .agg (cel65 x.2).toArray, undef, undef, undef, undef, undef, undef, undef, undef, undef, undef, undef, undef, undef], defers := [] })
    (fun x a' _ X Y row hs hg hr => by
      obtain ⟨Bx, e1, e2, e3⟩ := hs
      exact ⟨Bx, e1, (hg.block Bx (blk_lt e2) (fun e => by obtain ⟨_, o, ho, hc⟩ := hr Bx e.symm; rw [e2] at ho; cases ho; cases hc)).trans e2, e3⟩)
    ?assign ?body ?done ?stop
  case assign =>
    rintro l pre x W K ⟨hne, hb⟩ hK
    simp only [encW, List.zip_toArray, List.zip_cons_cons, List.zip_nil_right, List.foldl_toArray, List.foldl_cons, List.foldl_nil, List.setIfInBounds_toArray, List.set_cons_succ, List.set_cons_zero]
    refine wpIn_region_lit ?_
    refine wpListIn_val rfl rfl rfl (exec_allocW rfl) ?_
    refine wpListIn_nul rfl rfl rfl (exec_fillW (a := x.2) rfl rfl rfl) ?_
    refine wpListIn_nil ?_
    exact hK _ _ ((KeepsOthers.alloc _ _).from _) ((Below.refl _ W).alloc hb.size _) ⟨hne, hb.alloc hb.size _⟩ ⟨W.heap.size, hb.size, heap_alloc_new W _, rfl⟩
  case body =>
    rintro l pre x a' W hl _ ⟨hne, hb⟩ ⟨Bx, hBx, hbx, rfl⟩ hlt
    obtain ⟨i, q1, qb⟩ := x
    have hn : W.cell? ⟨w.heap.size, 0, none⟩ = some (.int .i64 (k : Int)) := (one_cell (blk_keep HK0.out hb)).1
    have hk1 := blk_keep HK1.out hb
    have hk2 := blk_keep HK2.out hb
    obtain ⟨hx1, hx2⟩ := pair_at hbx
    have HX2 := Lib.hid hx2
    have HT := Lib.hid (blk_there hk1)
    have hO : Only (fun b => b = w.heap.size + 1) W (W.setCells (w.heap.size + 1) 0 (cel qb)) := (Only.refl (fun b => b = w.heap.size + 1) W).setCells (.inl rfl) _ _
    have hk2' := hO.keep hk2 (by omega)
    obtain ⟨c2, f2⟩ := one_cell hk2'
    have HB := Lib.hid hb
    have HNE := Lib.hid hne
    have HK2' := Lib.hid hk2'
    clear hb hne hbx hx2 hk1 hk2 hO hk2'
    by_cases hq : q1 = (k : Int)
    · subst hq
      gi_wp2_with (first | (refine wpListIn_val rfl rfl rfl (exec_faddr rfl rfl faV0) ?_) | (refine wpListIn_val rfl rfl rfl (exec_faddr rfl rfl faV1) ?_) | (refine wpListIn_val rfl rfl rfl (exec_load rfl rfl HX2.out) ?_) | (refine wpListIn_nul rfl rfl rfl (exec_store rfl rfl rfl ?ht) ?_; (case ht => exact HT.out)) | fail)
      have hr1 : (W.setCells (w.heap.size + 1) 0 (cel qb)).rangeAt (w.heap.size + 1) 0 (cel qb) := World.rangeAt_setCells_same _ _ _ _ (by rw [cel_length]; exact HT.out)
      have hr2 := range_other (b' := w.heap.size + 1 + 1) (i := 0) hr1 (by omega)
      have hbw := HB0.out.trans (HB.out.mono (by omega))
      have hb2 := below_setCells hbw (show w.heap.size ≤ w.heap.size + 1 by omega) (o := 0) (cel qb)
      exact ⟨((keeps_setCells _ _ _ _).trans (KeepsOthers.setCell _ _ _)).from _, ⟨rfl, pre, (i, (k : Int), qb), rfl, HNE.out, rfl, hr2 _, World.cell?_setCell_same' _ _ _ (by rw [c2]; rfl)⟩, hb2.setCell (p := ⟨w.heap.size + 1 + 1, 0, none⟩) (by show _ ≤ w.heap.size + 1 + 1; omega) _⟩
    · have hq' : (q1 == (k : Int)) = false := by simpa using hq
      gi_wp2_with (first | (refine wpListIn_val rfl rfl rfl (exec_faddr rfl rfl faV0) ?_) | (refine wpListIn_val rfl rfl rfl (exec_faddr rfl rfl faV1) ?_) | fail)
      exact ⟨KeepsFrom.refl _ _, Below.refl _ _, fun y hy => (List.mem_append.1 hy).elim (HNE.out y) (fun e => by simp at e; subst e; exact hq), by have := HB.out; rwa [hsz0] at this⟩
  case done =>
    rintro D ys W hD rfl ⟨hne, hb⟩ hK
    have hrd : readB S L false (k : Int) = S.getD k zeroB := by
      rw [readB_ok HE.out]
      refine lastW_none fun q hq => ?_
      obtain ⟨j, hj, rfl⟩ := List.getElem_of_mem hq
      have := hne _ (cmd_mem L L.length j (by omega) hj)
      simpa [List.getD, List.getElem?_eq_getElem hj] using this
    have h3 := HH2.out.below hb
    obtain ⟨c0, c1, c2, c3⟩ := cells4 h3.at_
    have hn : W.cell? ⟨w.heap.size, 0, none⟩ = some (.int .i64 (k : Int)) := (one_cell (blk_keep HK0.out hb)).1
    obtain ⟨b, off, hbe, _, hr⟩ := h3.alive.rd.blk hk
    injection hbe with hbe
    injection hbe with hb1 hb2
    subst hb1 hb2
    rw [Nat.zero_add] at hr
    have HRD0 := hrd
    generalize S.getD k zeroB = x at *
    have HRD := Lib.hid HRD0
    clear HRD0
    have hk1 := blk_keep HK1.out hb
    have hk2 := blk_keep HK2.out hb
    have HT := Lib.hid (blk_there hk1)
    have hO : Only (fun b => b = w.heap.size + 1) W (W.setCells (w.heap.size + 1) 0 (cel x)) := (Only.refl (fun b => b = w.heap.size + 1) W).setCells (.inl rfl) _ _
    have hk2' := hO.keep hk2 (by omega)
    have HK2W := Lib.hid hk2
    have HA := Lib.hid c1
    have HN := Lib.hid hn
    have HR := Lib.hid hr
    have HB := Lib.hid hb
    have HKD := Lib.hid hK
    clear hrd h3 c0 c1 c2 c3 hn hr hk1 hk2 hO hk2' hne hb hK
    go_wp2_with fail
    refine wp_region_still_tail 7 (by kernel_rfl) (by kernel_rfl) ?_
    simp only [List.take_succ_cons, List.take_zero, List.drop_succ_cons, List.drop_zero]
    refine st_val rfl (exec_mv rfl (ev rfl)) ?_
    simp only [Act.put, List.setIfInBounds_toArray, List.set_cons_succ, List.set_cons_zero]
    refine st_val rfl (exec_nil rfl (ev rfl)) ?_
    simp only [Act.put, List.setIfInBounds_toArray, List.set_cons_succ, List.set_cons_zero]
    refine st_val rfl (exec_faddr rfl (ev rfl) faP1) ?_
    simp only [Act.put, List.setIfInBounds_toArray, List.set_cons_succ, List.set_cons_zero]
    refine st_val rfl (exec_ld rfl (ev rfl) (ldB HA.out)) ?_
    simp only [Act.put, List.setIfInBounds_toArray, List.set_cons_succ, List.set_cons_zero]
    refine st_val rfl (exec_ld rfl (ev rfl) (ldI HN.out)) ?_
    simp only [Act.put, List.setIfInBounds_toArray, List.set_cons_succ, List.set_cons_zero]
    refine st_val rfl (exec_ix0B rfl (ev rfl) (ev rfl) hk) ?_
    simp only [Act.put, List.setIfInBounds_toArray, List.set_cons_succ, List.set_cons_zero]
    refine st_val rfl (exec_load rfl (ev rfl) HR.out) ?_
    simp only [Act.put, List.setIfInBounds_toArray, List.set_cons_succ, List.set_cons_zero]
    refine wpStill_nil ?_
    change wpList _ _ _ _ _ W.drew
    have HTd : W.drew.there (w.heap.size + 1) 0 64 := HT.out
    have HTd' := Lib.hid HTd
    have hk2d : (W.drew.setCells (w.heap.size + 1) 0 (cel x)).heap[w.heap.size + 1 + 1]? = some (.cells #[.int .i64 0] 25) := (blk_setCells _ _ _ W.drew _ (by omega)).trans HK2W.out
    obtain ⟨c2, f2⟩ := one_cell hk2d
    have HKd := ((keeps_setCells (w.heap.size + 1) (cel x) 0 W.drew).trans (KeepsOthers.setCell _ ⟨w.heap.size + 1 + 1, 0, none⟩ (.int .i64 0))).same D _ HKD.out rfl
    have HKH := Lib.hid HKd
    have hr1 : (W.drew.setCells (w.heap.size + 1) 0 (cel x)).rangeAt (w.heap.size + 1) 0 (cel x) := World.rangeAt_setCells_same _ _ _ _ (by rw [cel_length]; exact HTd)
    have HR2 := Lib.hid (range_other (b' := w.heap.size + 1 + 1) (i := 0) hr1 (by omega) (.int .i64 0))
    have HE2 := Lib.hid (World.cell?_setCell_same' (W.drew.setCells (w.heap.size + 1) 0 (cel x)) ⟨w.heap.size + 1 + 1, 0, none⟩ (.int .i64 0) (by rw [c2]; rfl))
    have hbw := bd (HB0.out.trans (HB.out.mono (by omega)))
    have HB2 := Lib.hid ((below_setCells hbw (show w.heap.size ≤ w.heap.size + 1 by omega) (o := 0) (cel x)).setCell (p := ⟨w.heap.size + 1 + 1, 0, none⟩) (by show _ ≤ w.heap.size + 1 + 1; omega) (.int .i64 0))
    clear hk2d HKd hr1 hbw HTd
    go_wp2_with (first | (refine wpList_nul rfl (exec_store rfl rfl rfl ?ht) ?_; (case ht => exact HTd'.out)) | fail)
    refine ⟨by simp, .inl ⟨_, _, rfl, run_takeDeferred HKH.out, ?_⟩⟩
    refine ⟨.tuple #[blk x, .int .i64 0], res_blkc rfl _ _ _ _ rfl rfl (fun j v hj => cell_kept (HR2.out j v hj) (grownBy_putObj' _ D (.deferred none)) (fun r e => by cases e; exact ⟨_, HKH.out, rfl⟩)) (cell_kept HE2.out (grownBy_putObj' _ D (.deferred none)) (fun r e => by cases e; exact ⟨_, HKH.out, rfl⟩)), by rw [HRD.out], HB2.out.trans (belowK_b (w := w) (Nat.le_refl _) _ D _ _ (by omega) HKH.out rfl rfl)⟩
  case stop =>
    rintro D c pre W hD ⟨d, hd, rfl⟩ ⟨⟨rfl, ini, last, e1, e2, e3, e4, e5⟩, hb⟩ hK
    have hrd : readB S L false (k : Int) = last.2.2 := by
      rw [readB_ok HE.out]
      cases d with
      | zero => simp [cmd] at e1
      | succ d =>
        rw [cmd] at e1
        obtain ⟨e6, e7⟩ := List.append_inj' e1 rfl
        subst e6
        have e8 : (L.length - 1 - d, L.getD (L.length - 1 - d) (0, zeroB)) = last := by simpa using e7
        subst e8
        refine lastW_at (i := L.length - 1 - d) (by omega) e3 fun j h1 h2 => ?_
        exact e2 _ (cmd_mem L d j (by omega) h2)
    gi_wp2
    refine ⟨by simp, .inl ⟨_, _, rfl, run_takeDeferred hK, ?_⟩⟩
    refine ⟨.tuple #[blk last.2.2, .int .i64 0], res_blkc rfl _ _ _ _ rfl rfl (fun j v hj => cell_kept (e4 j v hj) (grownBy_putObj' _ D (.deferred none)) (fun r e => by cases e; exact ⟨_, hK, rfl⟩)) (cell_kept e5 (grownBy_putObj' _ D (.deferred none)) (fun r e => by cases e; exact ⟨_, hK, rfl⟩)), by rw [hrd], hb.trans (belowK_b (w := w) (Nat.le_refl _) W D _ _ (by omega) hK rfl rfl)⟩
end Go.Proofs.Ytpcdcnnnkblhiaa
namespace Go.Proofs.Ytpcdcnnnkblhiaa
open Go.RowKit
set_option linter.unusedVariables false
set_option maxRecDepth 100000

theorem p_read (p : Nat) (vS vL : Value) (S : List Blk) (L : List (Int × Blk)) (g : Bool) (n : Int) (w : World) (h : PD w p vS vL S L g) (hLl : L.length ≤ 1000000) :
    Calls Try.prog 31 #[.pointer (some ⟨p, 0, none⟩), .int .i64 n] w fun e w' => e = .returned (.tuple #[blk (readB S L g n), .int .i64 (askE S g n)]) ∧ Below w.heap.size w w' := by
  by_cases he : askE S g n = 0
  · rcases askE_is (S := S) (g := g) (n := n) with h1 | h1 | ⟨_, rfl, k, rfl, hk⟩
    · omega
    · omega
    · rw [he]
      exact p_read_ok p k vS vL S L w h hk hLl
  · exact p_read_no p vS vL S L g n w h he
/-- The program's device lies at p, in the blocks F. -/
def Pv (w : World) (F : Nat → Prop) (p : Nat) (S : List Blk) (L : List (Int × Blk)) (g : Bool) : Prop := ∃ vS vL, F = foot p vS vL ∧ PD w p vS vL S L g ∧ Fit S L ∧ S.length ≤ 512 ∧ L.length ≤ 1000000
section
variable {w w' : World} {F G : Nat → Prop} {p : Nat} {S : List Blk} {L : List (Int × Blk)} {g : Bool}
theorem Pv.lt (h : Pv w F p S L g) : ∀ b, F b → b < w.heap.size := by
  obtain ⟨vS, vL, rfl, h, _⟩ := h
  exact h.lt
theorem Pv.only (h : Pv w F p S L g) (k : Only G w w') (hn : ∀ b, F b → ¬ G b) : Pv w' F p S L g := by
  obtain ⟨vS, vL, rfl, h, hF⟩ := h
  exact ⟨vS, vL, rfl, h.only k hn, hF⟩
theorem still_below (h : w = w') : Below w.heap.size w w' := by subst h; exact Below.refl _ _
end
def theDev : Dev where
  Dv := Pv
  lt := Pv.lt
  only := Pv.only
  fit := fun ⟨_, _, _, h, hF, _⟩ => ⟨hF, h.one⟩
  cap := fun ⟨_, _, _, _, _, hS, _⟩ => hS
  new_ok := fun k w h1 h2 => by
    refine (p_new_ok k w h1 h2).mono ?_
    rintro e w' ⟨p, vS, he, hr, hb, hf⟩
    exact ⟨p, _, he, ⟨vS, _, rfl, hr, Fit.nil _, by rw [List.length_replicate]; exact h2, Nat.zero_le _⟩, hb, hf⟩
  new_no := fun n w h => (p_new_no n w h).mono fun e w' ⟨h1, h2⟩ => ⟨h1, still_below h2⟩
  read := fun n ⟨vS, vL, _, h, _, _, hL⟩ => p_read _ vS vL _ _ _ n _ h hL
  sure := fun n ⟨vS, vL, _, h, _⟩ => p_sure _ vS vL _ _ _ n _ h
  write := fun {w F p S L g} n b hL ⟨vS, vL, e0, h, hF, hS, _⟩ => by
    subst e0
    refine (p_write p vS vL S L g n b w h hL).mono ?_
    rintro e w' ⟨he, vL', h1, h2, h3⟩
    refine ⟨he, _, ⟨vS, vL', rfl, h1, hF.wr g n b, hS, ?_⟩, h2, fun k hk => ?_⟩
    · unfold wrL
      split
      · rw [List.length_append]; simp; omega
      · omega
    · rcases hk with e | e | e
      · exact .inl (.inl e)
      · exact .inl (.inr (.inl e))
      · rcases h3 k e with e | e
        · exact .inl (.inr (.inr e))
        · exact .inr e
  flush := fun {w F p S L g} ⟨vS, vL, e0, h, hF, hS, hL⟩ => by
    subst e0
    cases g
    · refine (p_flush_ok p vS vL S L w h hF).mono ?_
      rintro e w' ⟨he, h1, h2⟩
      refine ⟨he, _, ⟨vS, _, rfl, h1, Fit.nil _, by rw [if_neg (by simp), flS_len]; exact hS, Nat.zero_le _⟩, h2, fun k hk => ?_⟩
      rcases hk with e | e | e
      · exact .inl (.inl e)
      · exact .inl (.inr (.inl e))
      · simp [Value.ownBlock] at e
    · refine (p_flush_dead p vS vL S L w h).mono ?_
      rintro e w' ⟨he, rfl⟩
      exact ⟨he, _, ⟨vS, vL, rfl, h, hF, hS, hL⟩, Only.refl _ _, Grow.same _ _⟩
  fail := fun {w F p S L g} ⟨vS, vL, e0, h, hF, hS, hL⟩ => by
    subst e0
    refine (p_fail p vS vL S L g w h).mono ?_
    rintro e w' ⟨he, h1, h2⟩
    refine ⟨he, _, ⟨_, _, rfl, h1, Fit.nil _, hS, Nat.zero_le _⟩, h2, fun k hk => ?_⟩
    rcases hk with e | e | e
    · exact .inl (.inl e)
    · simp [Value.ownBlock] at e
    · simp [Value.ownBlock] at e
  rot := fun {w F p S L g} n i u ⟨vS, vL, e0, h, hF, hS, hL⟩ => by
    subst e0
    refine (p_rot p n i u vS vL S L g w h).mono ?_
    rintro e w' ⟨he, h1, h2⟩
    exact ⟨he, _, ⟨vS, vL, rfl, h1, hF.len (rotS_len _ _ _ _ _), by rw [rotS_len]; exact hS, hL⟩, h2, Grow.same _ _⟩
  crash := fun {w F p S L g A n c P} hP hc1 hc2 hN ⟨vS, vL, e0, h, hF, hS, hL⟩ => by
    subst e0
    refine (p_crash p vS vL S L g A n c P w h hF hP hc1 hc2 hN).mono ?_
    rintro e w' ⟨he, h1, h2⟩
    refine ⟨he, _, ⟨vS, _, rfl, h1, Fit.nil _, by rw [crI_len]; exact hS, Nat.zero_le _⟩, h2, fun k hk => ?_⟩
    rcases hk with e | e | e
    · exact .inl (.inl e)
    · exact .inl (.inr (.inl e))
    · simp [Value.ownBlock] at e
  copy := fun {w F p S L g} ⟨vS, vL, e0, h, hF, hS, hL⟩ => by
    subst e0
    refine (p_copy p vS vL S L g w h hS hL).mono ?_
    rintro e w' ⟨p', vS', vL', he, h1, h2, h3⟩
    exact ⟨p', _, he, ⟨vS', vL', rfl, h1, hF, hS, hL⟩, h2, h3⟩
  dead := fun ⟨vS, vL, _, h, _⟩ => (p_dead _ vS vL _ _ _ _ h).mono fun e w' ⟨h1, h2⟩ => ⟨h1, still_below h2⟩
  sectors := fun ⟨vS, vL, _, h, _⟩ => (p_sectors _ vS vL _ _ _ _ h).mono fun e w' ⟨h1, h2⟩ => ⟨h1, still_below h2⟩
end Go.Proofs.Ytpcdcnnnkblhiaa
namespace Go.Proofs.Ytpcdcnnnkblhiaa
open Go.RowKit
set_option linter.unusedVariables false
set_option maxRecDepth 100000

def zeroD : Array Value := #[.int .i64 0, .slice none 0 0, .slice none 0 0, .bool false]
def NoP (w : World) (v : Value) : Prop := v = .pointer none ∨ ∃ p, v = .pointer (some ⟨p, 0, none⟩) ∧ w.heap[p]? = some (.cells zeroD 81)
theorem NoP.below {w w' : World} {v : Value} (h : NoP w v) (k : Below w.heap.size w w') : NoP w' v := by
  rcases h with h | ⟨p, e, h⟩
  · exact .inl h
  · exact .inr ⟨p, e, blk_keep h k⟩
theorem n_made {w : World} {v : Value} (h : NoP w v) : Calls Try.prog 62 #[v] w fun e w' => e = .returned (.bool false) ∧ w = w' := by
  rcases h with rfl | ⟨p, rfl, h⟩
  · go_enter Try.func62, Try.ntmps62
    go_wp2
    go_ret
    exact ⟨rfl, rfl⟩
  · obtain ⟨c0, c1, c2, c3⟩ := cells4 h
    go_enter Try.func62, Try.ntmps62
    go_wp2
    go_ret
    exact ⟨rfl, rfl⟩
theorem n_refusal {w : World} {v : Value} (n : Int) (h : NoP w v) : Calls Try.prog 61 #[v, .int .i64 n] w fun e w' => e = .returned (.int .i64 1) ∧ w = w' := by
  go_enter Try.func61, Try.ntmps61
  go_wp2_with fail
  refine (n_made h).mono ?_
  rintro e w1 ⟨rfl, rfl⟩
  go_wp2_with fail
  go_ret
  exact ⟨rfl, rfl⟩
theorem n_flush {w : World} {v : Value} (h : NoP w v) : Calls Try.prog 25 #[v] w fun e w' => e = .returned (.int .i64 1) ∧ Below w.heap.size w w' := by
  go_enter Try.func25, Try.ntmps25
  go_wp2_with fail
  refine (n_made h).mono ?_
  rintro e w1 ⟨rfl, rfl⟩
  go_wp2_with fail
  go_ret
  exact ⟨rfl, Below.refl _ _⟩
theorem n_fail {w : World} {v : Value} (h : NoP w v) : Calls Try.prog 26 #[v] w fun e w' => e = .returned (.int .i64 1) ∧ Below w.heap.size w w' := by
  go_enter Try.func26, Try.ntmps26
  go_wp2_with fail
  refine (n_made h).mono ?_
  rintro e w1 ⟨rfl, rfl⟩
  go_wp2_with fail
  go_ret
  exact ⟨rfl, Below.refl _ _⟩
theorem n_rot {w : World} {v : Value} (n i : Int) (u : UInt8) (h : NoP w v) : Calls Try.prog 28 #[v, .int .i64 n, .int .i64 i, .int .u8 (u.toNat : Int)] w fun e w' => e = .returned (.int .i64 1) ∧ Below w.heap.size w w' := by
  go_enter Try.func28, Try.ntmps28
  go_wp2_with fail
  refine (n_made h).mono ?_
  rintro e w1 ⟨rfl, rfl⟩
  go_wp2_with fail
  go_ret
  exact ⟨rfl, Below.refl _ _⟩
theorem n_crash {w : World} {v : Value} (A : Option Addr) (n c : Nat) (h : NoP w v) : Calls Try.prog 29 #[v, .slice A n c] w fun e w' => e = .returned (.tuple #[.int .i64 0, .int .i64 1]) ∧ Below w.heap.size w w' := by
  go_enter Try.func29, Try.ntmps29
  go_wp2_with fail
  refine (n_made h).mono ?_
  rintro e w1 ⟨rfl, rfl⟩
  go_wp2_with fail
  go_ret2
  exact ⟨rfl, Below.refl _ _⟩
theorem n_dead {w : World} {v : Value} (h : NoP w v) : Calls Try.prog 56 #[v] w fun e w' => e = .returned (.bool false) ∧ Below w.heap.size w w' := by
  go_enter Try.func56, Try.ntmps56
  go_wp2_with fail
  refine (n_made h).mono ?_
  rintro e w1 ⟨rfl, rfl⟩
  go_wp2_with fail
  go_ret
  exact ⟨rfl, Below.refl _ _⟩
theorem n_sectors {w : World} {v : Value} (h : NoP w v) : Calls Try.prog 60 #[v] w fun e w' => e = .returned (.int .i64 0) ∧ Below w.heap.size w w' := by
  go_enter Try.func60, Try.ntmps60
  go_wp2_with fail
  refine (n_made h).mono ?_
  rintro e w1 ⟨rfl, rfl⟩
  go_wp2_with fail
  go_ret
  exact ⟨rfl, Below.refl _ _⟩
theorem n_copy {w : World} {v : Value} (h : NoP w v) : Calls Try.prog 48 #[v] w fun e w' => e = .returned (.pointer none) ∧ Below w.heap.size w w' := by
  go_enter Try.func48, Try.ntmps48
  go_wp2_with fail
  refine (n_made h).mono ?_
  rintro e w1 ⟨rfl, rfl⟩
  go_wp2_with fail
  go_ret
  exact ⟨rfl, Below.refl _ _⟩
set_option maxHeartbeats 1000000 in
theorem n_sure {w : World} {v : Value} (n : Int) (h : NoP w v) : Calls Try.prog 58 #[v, .int .i64 n] w fun e w' => e = .returned (.tuple #[blk zeroB, .int .i64 1]) ∧ Below w.heap.size w w' := by
  have hA := (Below.refl w.heap.size w).alloc (Nat.le_refl _) (.cells (cel zeroB).toArray 34)
  have h1 := h.below hA
  have HT := Lib.hid (there_new w zeroB 34)
  have HA := Lib.hid hA
  clear hA
  go_enter Try.func58, Try.ntmps58
  go_wp2_with (first | (refine wpList_val rfl (exec_alloc rfl) ?_) | fail)
  refine (n_refusal n h1).mono ?_
  rintro e w1 ⟨rfl, rfl⟩
  go_wp2_with (first | (refine wpList_val rfl (exec_build (c := zeroB) (parts := []) rfl rfl) ?_) | (refine wpList_nul rfl (exec_store rfl rfl rfl HT.out) ?_))
  refine bodyPost_ret (res_blk2 rfl _ _ _ rfl (World.rangeAt_setCells_same _ _ _ _ (by rw [cel_length]; exact HT.out))) rfl ⟨rfl, below_setCells HA.out (Nat.le_refl _) _⟩
set_option maxHeartbeats 1000000 in
theorem n_read {w : World} {v : Value} (n : Int) (h : NoP w v) : Calls Try.prog 31 #[v, .int .i64 n] w fun e w' => e = .returned (.tuple #[blk zeroB, .int .i64 1]) ∧ Below w.heap.size w w' := by
  obtain ⟨hA, k0, k1, k2, hsz⟩ := rd3_facts w n
  have h1 := h.below hA
  have HA := Lib.hid hA
  have HT := Lib.hid (blk_there k1)
  obtain ⟨c0, f0⟩ := one_cell k0
  have hO : Only (fun b => b = w.heap.size + 1) (rd3 w n) ((rd3 w n).setCells (w.heap.size + 1) 0 (cel zeroB)) := (Only.refl (fun b => b = w.heap.size + 1) (rd3 w n)).setCells (.inl rfl) _ _
  have k2' := hO.keep k2 (by omega)
  obtain ⟨c2, f2⟩ := one_cell k2'
  clear hA k0 k1 k2 hO k2'
  go_enter Try.func31, Try.ntmps31
  unfold rd3 at *
  go_wp2_with (first | (refine wpList_val rfl (exec_alloc rfl) ?_) | fail)
  generalize ((w.alloc (.cells #[.int .i64 n] 3)).alloc (.cells (cel zeroB).toArray 34)).alloc (.cells #[.int .i64 0] 25) = w3 at *
  refine (n_refusal n h1).mono ?_
  rintro e w1 ⟨rfl, rfl⟩
  go_wp2_with (first | (refine wpList_val rfl (exec_build (c := zeroB) (parts := []) rfl rfl) ?_) | (refine wpList_nul rfl (exec_store rfl rfl rfl ?ht) ?_; (case ht => exact HT.out)) | fail)
  have hr1 : (w3.setCells (w.heap.size + 1) 0 (cel zeroB)).rangeAt (w.heap.size + 1) 0 (cel zeroB) := World.rangeAt_setCells_same _ _ _ _ (by rw [cel_length]; exact HT.out)
  have hr2 := range_other (b' := w.heap.size + 1 + 1) (i := 0) hr1 (by omega)
  have hb2 := (below_setCells HA.out (show w.heap.size ≤ w.heap.size + 1 by omega) (o := 0) (cel zeroB))
  refine bodyPost_ret (res_blkc rfl _ _ _ _ rfl rfl (hr2 _) (World.cell?_setCell_same' _ _ _ (by rw [c2]; rfl))) rfl ⟨rfl, hb2.setCell (p := ⟨w.heap.size + 1 + 1, 0, none⟩) (by show _ ≤ w.heap.size + 1 + 1; omega) _⟩
theorem n_write {w : World} {v : Value} (n : Int) (b : Blk) (h : NoP w v) : Calls Try.prog 24 #[v, .int .i64 n, blk b] w fun e w' => e = .returned (.int .i64 1) ∧ Below w.heap.size w w' := by
  have hA := (Below.refl w.heap.size w).alloc (Nat.le_refl _) (.cells (cel b).toArray 34)
  have h1 := h.below hA
  have HA := Lib.hid hA
  clear hA
  go_enter Try.func24, Try.ntmps24
  go_wp2_with (first | (refine wpList_val rfl (exec_box rfl rfl) ?_) | fail)
  refine (n_refusal n h1).mono ?_
  rintro e w1 ⟨rfl, rfl⟩
  go_wp2_with fail
  go_ret
  exact ⟨rfl, HA.out⟩
end Go.Proofs.Ytpcdcnnnkblhiaa
