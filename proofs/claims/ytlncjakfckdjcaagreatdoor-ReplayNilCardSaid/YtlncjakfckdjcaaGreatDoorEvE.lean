/-
  What a closed run says of the model's calls. No statement.
-/
import Derived.Test.YtlncjakfckdjcaaGreatDoorEvDr
import Derived.Test.YtlncjakfckdjcaaGreatDoorEvL
import Derived.Below
set_option linter.all false
set_option maxRecDepth 100000
set_option maxHeartbeats 2000000
namespace Go.Ev
open Go
variable {P : Program} {Q : List Nat} {G : Nat}
theorem ev_calls (hQ : ∀ t ∈ Q, EqOk P t) (hN : NoNum P) (hm : P.follows .mixedOrders = true) {n k : Nat} {args : List SV} {h h' : H} {v : SV}
    (e : (evK P Q (drawS P Q) G n).call (.f k [] []) args h = some (v, h')) {ε : Env} {w : World} {args' : List Value} (ha : Rs ε args args') (r : Rep G ε h w) :
    Calls P k args'.toArray w (Post G ε h w v h') := by
  rw [evK_eq] at e
  obtain ⟨d, nx, h1, h2, h3⟩ := (ev_R hQ hN (drawS_R hQ hm) n) _ _ _ _ _ e Fence.wide 0 ε w (.func (.func k) #[] #[]) args' ⟨fun _ => trivial, rfl⟩ (.f .nil .nil) ha r
  rcases h3 with ⟨g, as, rfl, hc⟩ | ⟨hne, _⟩
  · have hd : d = { target := .fn (.func k) #[], args := #[] ++ args'.toArray } := by
      have h4 : Result.ok ({ target := .fn (.func k) #[], args := #[] ++ args'.toArray } : Deferred) w = .ok d w := h1
      cases h4; rfl
    subst hd
    have hx : g = k ∧ as = args'.toArray := by
      obtain ⟨fn, c, f1, f2⟩ : ∃ fn c, P.funcs[k]? = some fn ∧ fn.body = some c := by
        cases n with
        | zero => simp [ev] at e
        | succ n =>
          simp only [ev, bodyS, Option.bind_eq_some_iff] at e
          obtain ⟨fn, hfn, c, hc', _⟩ := e
          rw [nth_eq] at hfn
          exact ⟨fn, c, by simpa using hfn, hc'⟩
      have hne : ¬ fn.name = "runtime.NumGoroutine" := by simpa using hN k fn f1
      simp only [invoke, callFunc] at h2
      simp [f1, f2, hne] at h2
      exact ⟨h2.1.symm, h2.2.symm⟩
    rw [← hx.1, ← hx.2]
    exact callsIn_wide.1 hc
  · exact absurd rfl (hne k [] [])
/-- where all that the small heap tells is only read, nothing of the world that was there changes -/
theorem Post.below {ε : Env} {h h' : H} {w w' : World} {v : SV} {e : Ending} (hg : ∀ n o, h.get n = some o → ∃ m cs, o = .g m cs) (p : Post G ε h w v h' e w') :
    ∃ v' ε', e = .returned v' ∧ R ε' v v' ∧ Go.RowKit.Below w.heap.size w w' := by
  obtain ⟨v', ε', p1, p2, p3, p4⟩ := p
  refine ⟨v', ε', p1, p2, p4.same.1, p4.same.2.1, p4.same.2.2, p4.size, fun b hb => ?_⟩
  by_cases hi : Img h ε b
  · obtain ⟨n, o, e, h1, h2, rfl⟩ := hi
    obtain ⟨m, cs, rfl⟩ := hg n o h1
    exact (p4.ro n m cs h1).2 e h2
  · exact p4.keep b hb hi
end Go.Ev
