/-
  Rows of truth values ([]bool): what they read as; what came in.
-/
import Derived.Test.YtplanbjjfaihbaaEltP
namespace Go.Proofs.Ytplanbjjfaihbaa
open Go.RowKit
set_option maxRecDepth 100000
set_option linter.unusedVariables false

def BoE : Elt Bool where
  s := 22
  t := 4
  n := 1
  by_ := 1
  cel x := [.bool x]
  d := false
  z := .bool false
  pos := by omega
  small := by omega
  len _ := rfl
  one x v hv := by simp at hv; subst hv; rfl
  und := Try.underlying22
  info := by kernel_rfl
  zc := rfl
theorem flat_bools (l : List Bool) : flatE BoE l = l.map fun x => .bool x := by
  induction l with
  | nil => rfl
  | cons x l ih => rw [flatE_cons, ih]; rfl
section
variable {w : World} {B n : Nat} {A : Option Addr} {l : List Bool}
theorem RdE.bo (h : RdE BoE w B A n l) {k : Nat} (hk : k < n) : ∃ b off, A = some ⟨b, off, none⟩ ∧ b < B ∧ w.cell? ⟨b, off + k, none⟩ = some (.bool (l.getD k false)) := by
  obtain ⟨b, off, e, hb, hc⟩ := h.2 k hk
  refine ⟨b, off, e, hb, ?_⟩
  have h0 := hc 0 (.bool (l.getD k false)) rfl
  rwa [show off + k * BoE.n + 0 = off + k from by show off + k * 1 + 0 = _; omega] at h0
theorem ldBoE {ad : Addr} {k : Bool} (h : w.cell? ad = some (.bool k)) : (Instr.loadAt 4 (.pointer (some ad))).run Try.prog w = .ok (.bool k) w := by simp [go_sem, h]
end
theorem exec_lenQ {ρ : Operand → Value} {o : Oper} {x : Operand} {w : World} {t e : TypeId} {A : Option Addr} {n c : Nat} (hu : Try.prog.underlying t = some (.slice e)) (ho : o.op = .call { callee := .builtin .len, args := #[x], argTypes := #[t] }) (hx : ρ x = .slice A n c) : (execOp ρ o).run Try.prog w = .ok (.value (.int .i64 (n : Int))) w := by
  simp [execOp, ho, resolve, invoke, builtin, hx, Builtin.len_, run_underlying hu, Result.andThen]
  rfl
theorem bo_of_trod {H : Type} {enc : TypeId × Value → H} {W : World} (fuel : Nat) (cs : List Value) (x : DataW H × List MemPlace) (h : DataW.trod enc Try.prog W 0 (fun _ => true) true fuel 4 cs = some x) : ∃ a : Bool, cs = BoE.cel a ∧ True := by
  obtain ⟨k, e, _⟩ := DataW.trod_bool Try.underlying4 h
  exact ⟨k, e, trivial⟩
theorem open_bools {H : Type} {enc : TypeId × Value → H} {W : World} {base : Nat} {v : Value} {d : DataW H} {p : List MemPlace} (hv : Value.okWide Try.prog W .any base 22 v) (h : DataW.Trod enc Try.prog W 0 (fun _ => true) true 22 v d p) :
    ∃ (A : Option Addr) (n c : Nat) (l : List Bool), v = .slice A n c ∧ RdE BoE W W.heap.size A n l ∧ n ≤ c ∧ c ≤ maxLen ∧ True := by
  obtain ⟨A, n, c, l, h1, h2, h3, h4, _⟩ := open_elts BoE (fun _ => True) (by kernel_rfl) hv h (fun fuel cs x h => bo_of_trod fuel cs x h)
  exact ⟨A, n, c, l, h1, h2, h3, h4, trivial⟩
end Go.Proofs.Ytplanbjjfaihbaa
