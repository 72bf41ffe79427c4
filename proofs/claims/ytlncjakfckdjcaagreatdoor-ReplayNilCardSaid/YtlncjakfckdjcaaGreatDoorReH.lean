/-
  The closed runs of layer 23's law of nil and zero objects: what the kernel reckons. No statement.
-/
import Derived.Test.YtlncjakfckdjcaaGreatDoorLaid
import Derived.Test.YtlncjakfckdjcaaGreatDoorEvJ
import Derived.Test.YtlncjakfckdjcaaGreatDoorEvU
namespace Go.Proofs.YtlncjakfckdjcaaGreatDoor
open Go Go.Ev
set_option maxRecDepth 1000000
noncomputable section
def hrow (h : H) (i : Nat) (k : IntKind) (l : List Int) : H := { h with h := h.h.set i (some (.g (len l 0) (putL .e (l.map fun z => SV.i k z) 0))) }
def hLaid : H := hrow (hrow (hrow { h := .e, nx := 8 } 0 .i64 siznInts) 1 .i64 sizInts) 2 .u32 tabInts
def isTrue : Option (SV × H) → Bool
  | some (.b b, _) => b
  | _ => false
theorem isTrue_some {o : Option (SV × H)} (h : isTrue o = true) : ∃ h', o = some (.b true, h') := by
  rcases o with _ | ⟨v, h'⟩
  · cases h
  · cases v with
    | b b => cases b
             · cases h
             · exact ⟨h', rfl⟩
    | _ => cases h
end
theorem eqB : EqOk Tryz.prog 44 := eqok_array (k := .u8) (by kernel_rfl) Tryz.underlying44 (by kernel_rfl) Tryz.underlying5 (by kernel_rfl) (by kernel_rfl) (by kernel_rfl)
theorem eqP : EqOk Tryz.prog 42 := by
  refine eqok_pair (f := (Tryz.prog.fieldsOf 42)[0]!) (g := (Tryz.prog.fieldsOf 42)[1]!) (k := .i64) (k' := .i64) ?_ ?_ ?_ ?_ ?_ ?_ ?_ ?_ ?_ ?_ ?_ ?_ ?_ <;> first | kernel_rfl | (decide +kernel)
theorem eqAll : ∀ t ∈ [44, 42], EqOk Tryz.prog t := fun t ht => by
  simp only [List.mem_cons, List.not_mem_nil, or_false] at ht
  rcases ht with rfl | rfl
  · exact eqB
  · exact eqP
theorem noNum : NoNum Tryz.prog := by
  have h : Tryz.prog.funcs.toList.all (fun f => !(f.name == "runtime.NumGoroutine")) = true := by kernel_rfl
  intro n fn hn
  have hm : fn ∈ Tryz.prog.funcs.toList := by
    have := Array.mem_of_getElem? hn
    simpa using this
  have := List.all_eq_true.1 h fn hm
  simpa using this
theorem mixed : Tryz.prog.follows .mixedOrders = true := by kernel_rfl
end Go.Proofs.YtlncjakfckdjcaaGreatDoor
