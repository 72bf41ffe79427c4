/-
  Acts of layer 10 (ashlarlaw10.Act) that came in: slices of them; one by value, in a box.
-/
import Derived.Test.YtnckcafemdcaeaaEltP
import Derived.Test.YtnckcafemdcaeaaTypO
import Derived.Test.YtnckcafemdcaeaaRoN
import Derived.Test.YtnckcafemdcaeaaRlw
namespace Go.Proofs.Ytnckcafemdcaeaa
open Go.RowKit Go.ChangeShapes Go.WideShapes Go.ChangeAt Go.Deep
set_option linter.unusedVariables false
set_option maxRecDepth 100000
def act10C (a : Act10) : List Value := [.int .i64 a.Do, .int .i64 a.M, .bool a.G]
def act10V (a : Act10) : Value := .agg (act10C a).toArray
def zeroAct10 : Act10 := ⟨0, 0, false⟩
def Act10E : Elt Act10 where
  s := 42
  t := 46
  n := 3
  by_ := 24
  cel := act10C
  d := zeroAct10
  z := act10V zeroAct10
  pos := by omega
  small := by omega
  len := fun _ => rfl
  one := fun a v hv => by simp only [act10C, List.mem_cons, List.not_mem_nil, or_false] at hv; rcases hv with rfl | rfl | rfl <;> rfl
  und := Try.underlying42
  info := by kernel_rfl
  zc := rfl
theorem sizeA10 : (Try.prog.info? 46).map (·.size) = some 3 := by kernel_rfl
section
variable {H : Type} {enc : TypeId × Value → H} {W : World} {base : Nat} {v : Value} {d : DataW H} {p : List MemPlace}
theorem cellsA10 : Try.prog.cellsOf 46 = 3 := by kernel_rfl
theorem act10_of_trod (fuel : Nat) (cs : List Value) (x : DataW H × List MemPlace) (h : DataW.trod enc Try.prog W 0 (fun _ => true) true fuel 46 cs = some x) : ∃ a : Act10, cs = Act10E.cel a ∧ True := by
  obtain ⟨xs, k, _, _, hlen, hn, hel⟩ := DataW.trod_struct Try.underlying46 h
  rw [cellsA10] at hlen
  have hn' : xs.length = 3 := hn
  match cs, hlen, xs, hn' with
  | [a, b, c], _, [y0, y1, y2], _ =>
    have e0 : DataW.trod enc Try.prog W 0 (fun _ => true) true k 3 ((List.drop 0 [a, b, c]).take (Try.prog.cellsOf 3)) = some y0 := hel 0 _ rfl
    rw [cellsI] at e0
    have e1 : DataW.trod enc Try.prog W 0 (fun _ => true) true k 3 ((List.drop 1 [a, b, c]).take (Try.prog.cellsOf 3)) = some y1 := hel 1 _ rfl
    rw [cellsI] at e1
    have e2 : DataW.trod enc Try.prog W 0 (fun _ => true) true k 4 ((List.drop 2 [a, b, c]).take (Try.prog.cellsOf 4)) = some y2 := hel 2 _ rfl
    rw [cellsBo] at e2
    obtain ⟨m, rfl⟩ := at_int (show DataW.trod enc Try.prog W 0 (fun _ => true) true k 3 [a] = some y0 from e0)
    obtain ⟨s, rfl⟩ := at_int (show DataW.trod enc Try.prog W 0 (fun _ => true) true k 3 [b] = some y1 from e1)
    obtain ⟨r, rfl⟩ := at_bool (show DataW.trod enc Try.prog W 0 (fun _ => true) true k 4 [c] = some y2 from e2)
    exact ⟨⟨m, s, r⟩, rfl, trivial⟩
theorem open_acts10 (hv : Value.okWide Try.prog W .any base 42 v) (h : DataW.Trod enc Try.prog W 0 (fun _ => true) true 42 v d p) :
    ∃ (A : Option Addr) (n c : Nat) (l : List Act10), v = .slice A n c ∧ RdE Act10E W W.heap.size A n l ∧ n ≤ c ∧ c ≤ maxLen ∧ ∀ k, k < n → True :=
  open_elts Act10E (fun _ => True) (by kernel_rfl) hv h (fun fuel cs x h => act10_of_trod fuel cs x h)
end
section
variable {ρ : Operand → Value} {o : Oper} {x y : Operand} {w w0 : World} {b off i : Nat} {a : Act10} {l : List Cel}
theorem exec_loadA10 (ho : o.op = .load 46 x) (hx : ρ x = .pointer (some ⟨b, off, none⟩)) (hc : w.rangeAt b off (act10C a)) : (execOp ρ o).run Try.prog w = .ok (.value (act10V a)) w :=
  exec_loadT Try.underlying46 rfl sizeA10 ho hx hc
theorem exec_boxA10 (ho : o.op = .box 46 x) (hx : ρ x = act10V a) : (execOp ρ o).run Try.prog w = .ok (.value (.pointer (some ⟨w.heap.size, 0, none⟩))) (w.alloc (.cells (act10C a).toArray 46)) := exec_boxT ho hx
theorem faA0 : (Instr.fieldAt 46 (.pointer (some ⟨b, 0, none⟩)) 0).run Try.prog w = .ok (.pointer (some ⟨b, 0, none⟩)) w := by kernel_rfl
theorem faA1 : (Instr.fieldAt 46 (.pointer (some ⟨b, 0, none⟩)) 1).run Try.prog w = .ok (.pointer (some ⟨b, 1, none⟩)) w := by kernel_rfl
theorem faA2 : (Instr.fieldAt 46 (.pointer (some ⟨b, 0, none⟩)) 2).run Try.prog w = .ok (.pointer (some ⟨b, 2, none⟩)) w := by kernel_rfl
def ac (b : Nat) (a : Act10) : Cel := ⟨b, 46, act10C a⟩
theorem Blks.allocA (h : Blks w0 w l) (a : Act10) : Blks w0 (w.alloc (.cells (act10C a).toArray 46)) (l ++ [ac w.heap.size a]) := h.alloc _ _
theorem Blks.act (h : Blks w0 w l) (hi : l[i]? = some (ac b a)) : w.cell? ⟨b, 0, none⟩ = some (.int .i64 a.Do) ∧ w.cell? ⟨b, 1, none⟩ = some (.int .i64 a.M) ∧ w.cell? ⟨b, 2, none⟩ = some (.bool a.G) := cells3 (h.at_ i _ hi).2
end
end Go.Proofs.Ytnckcafemdcaeaa
