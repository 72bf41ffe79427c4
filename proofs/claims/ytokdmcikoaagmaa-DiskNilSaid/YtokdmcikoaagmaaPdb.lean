/-
  slices.Backward over the loose writes: its contract.
-/
import Derived.Test.YtokdmcikoaagmaaFen
namespace Go.Proofs.Ytokdmcikoaagmaa
open Go.RowKit Go.Shelf
set_option linter.unusedVariables false

attribute [local go_sem] Oper.semAt_some

/-- What has come behind d rounds: the last ones first. -/
def cmd (L : List (Int × Blk)) : Nat → List (Nat × (Int × Blk))
  | 0 => []
  | d + 1 => cmd L d ++ [(L.length - 1 - d, L.getD (L.length - 1 - d) (0, zeroB))]
theorem cmd_len (L : List (Int × Blk)) (d : Nat) : (cmd L d).length = d := by
  induction d with
  | zero => rfl
  | succ d ih => rw [cmd, List.length_append, ih]; rfl
theorem cmd_mem (L : List (Int × Blk)) (d i : Nat) (h1 : L.length - d ≤ i) (h2 : i < L.length) : (i, L.getD i (0, zeroB)) ∈ cmd L d := by
  induction d with
  | zero => omega
  | succ d ih =>
    rw [cmd]
    by_cases e : L.length - d ≤ i
    · exact List.mem_append.2 (.inl (ih e))
    · have : i = L.length - 1 - d := by omega
      subst this
      exact List.mem_append.2 (.inr (by simp))
def encW (x : Nat × (Int × Blk)) : Array Value := #[.int .i64 (x.1 : Int), .agg (cel65 x.2).toArray]
set_option maxHeartbeats 1000000 in
theorem backward_in (F : Fence) (n : Nat) (h : F.fn 35) (hro : F.round = none) (a : Option Addr) (len cap : Nat) (w : World) :
    CallsIn F n Try.prog 35 #[.slice a len cap] w fun e w' => e = .returned (.func (.func 40) #[] #[.pointer (some ⟨w.heap.size, 0, none⟩)]) ∧ w' = w.alloc (.cells #[.slice a len cap] 59) := by
  refine callsIn_of_wp Try.func35 rfl h ?_ hro
  simp only [Try.ntmps35, List.size_toArray, List.length_cons, List.length_nil, Nat.reduceAdd, Nat.reduceSub, Array.replicate_succ, Array.replicate_zero, List.push_toArray, List.append_toArray, List.nil_append, List.cons_append]
  gi_wp2
  go_ret
  exact ⟨rfl, rfl⟩
set_option maxRecDepth 100000 in
set_option maxHeartbeats 2000000 in
/-- The closure: the last one first; for every loop body that keeps what lay below n₀. -/
theorem back1_in (F : Fence) (n : Nat) (h40 : F.fn 40) (hro : F.round = none) (hn : 1 ≤ n) (l Bs n₀ : Nat) (A : Option Addr) (cap : Nat) (L : List (Int × Blk)) (hLl : L.length ≤ 1000000) (J Jx : List (Nat × (Int × Blk)) → World → Prop)
    (hY : ∀ pre x W, J pre W → pre.length < L.length → YieldAt F (n - 1) Try.prog l (encW x) W fun e W' =>
      (e = .returned (.bool true) ∧ J (pre ++ [x]) W' ∧ Below n₀ W W') ∨ (e = .returned (.bool false) ∧ Jx (pre ++ [x]) W'))
    (W : World) (hBn : Bs < n₀) (hBs : W.cell? ⟨Bs, 0, none⟩ = some (.slice A L.length cap)) (hL : RdE LwE W n₀ A L.length L) (h0 : J [] W) :
    CallsIn F n Try.prog 40 #[.func (.yield l) #[] #[], .pointer (some ⟨Bs, 0, none⟩)] W fun e W' => (∃ v, e = .returned v) ∧
      ((∃ ys, ys = cmd L L.length ∧ J ys W') ∨ (∃ pre, (∃ d, d ≤ L.length ∧ pre = cmd L d) ∧ Jx pre W')) := by
  refine callsIn_of_wp Try.func40 rfl h40 ?_ hro
  simp only [Try.ntmps40, List.size_toArray, List.length_cons, List.length_nil, Nat.reduceAdd, Nat.reduceSub, Array.replicate_succ, Array.replicate_zero, List.push_toArray, List.append_toArray, List.nil_append, List.cons_append]
  gi_wp2
  gi_loopw [3] (fun i wr => ∃ r : Nat, r ≤ L.length ∧ i = .int .i64 ((r : Int) - 1) ∧ J (cmd L (L.length - r)) wr ∧ Below n₀ W wr)
    (fun i _ => (intOf i + 1).toNat)
  case atStart => exact ⟨L.length, Nat.le_refl _, rfl, by rw [Nat.sub_self]; exact h0, Below.refl _ _⟩
  case round =>
    obtain ⟨r, hr, rfl, hJs, hnx⟩ := hrel
    have hbx : wr.cell? ⟨Bs, 0, none⟩ = some (.slice A L.length cap) := (hnx.cell (p := ⟨Bs, 0, none⟩) hBn).trans hBs
    have hLr := hL.below hnx
    cases r with
    | zero =>
      clear hLr hbx
      rw [Nat.sub_zero] at hJs
      have e : ((0 : Nat) : Int) - 1 = -1 := rfl
      rw [e]
      gi_wp2
      go_end0
      exact ⟨⟨_, rfl⟩, .inl ⟨_, rfl, hJs⟩⟩
    | succ m =>
      have e : ((m + 1 : Nat) : Int) - 1 = (m : Int) := by omega
      rw [e]
      clear e
      have hlt : m < L.length := hr
      obtain ⟨bA, oA, rfl, hbA, rA⟩ := RdE.pairs hLr hlt
      have hnext : cmd L (L.length - m) = cmd L (L.length - (m + 1)) ++ [(m, L.getD m (0, zeroB))] := by
        have e1 : L.length - m = (L.length - (m + 1)) + 1 := by omega
        rw [e1, cmd]
        have e2 : L.length - 1 - (L.length - (m + 1)) = m := by omega
        rw [e2]
      have HNX := Lib.hid hnext
      obtain ⟨fn, tmps, assign, body, hy, hR⟩ := hY _ (m, L.getD m (0, zeroB)) wr hJs (by rw [cmd_len]; omega)
      rw [← hnext] at hR
      have HRA := Lib.hid rA
      generalize L.getD m (0, zeroB) = q at *
      unfold encW at hy
      dsimp only at hy
      clear hnext rA hLr
      gi_wp2_with (first | (refine wpListIn_val rfl rfl rfl (exec_indexE (E := LwE) rfl rfl rfl hlt) ?_) | (refine wpListIn_val rfl rfl rfl (exec_loadW rfl rfl HRA.out) ?_) | fail)
      refine hR.mono ?_
      rintro e W3 (⟨rfl, hJ3, hk3⟩ | ⟨rfl, hJx3⟩)
      · gi_wp2
        go_roundw
        case rel => exact ⟨m, by omega, rfl, hJ3, hnx.trans hk3⟩
        case measure => simp [intOf]
      · gi_wp2
        refine bodyPost_ret (results_none rfl _ _ _) rfl ?_
        exact ⟨⟨_, rfl⟩, .inr ⟨_, ⟨L.length - m, by omega, rfl⟩, hJx3⟩⟩
/-- slices.Backward(s) hands back a value of that contract. -/
theorem back_stops (F : Fence) (n : Nat) (h40 : F.fn 40) (hro : F.round = none) (hn : 1 ≤ n) (Bs : Nat) (A : Option Addr) (cap : Nat) (L : List (Int × Blk)) (hLl : L.length ≤ 1000000) (w : World) (hBn : Bs < w.heap.size) (hBs : w.cell? ⟨Bs, 0, none⟩ = some (.slice A L.length cap)) (hL : RdE LwE w w.heap.size A L.length L) :
    SeqStopsK F n Try.prog 40 #[.pointer (some ⟨Bs, 0, none⟩)] encW (Below w.heap.size) (fun ys => ys = cmd L L.length) (fun pre => ∃ d, d ≤ L.length ∧ pre = cmd L d) L.length w := fun l J Jx W hW _ _ hY h0 =>
  back1_in F n h40 hro hn l Bs w.heap.size A cap L hLl J Jx hY W hBn ((hW.cell (p := ⟨Bs, 0, none⟩) hBn).trans hBs) (hL.below hW) h0
end Go.Proofs.Ytokdmcikoaagmaa
