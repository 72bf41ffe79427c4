/-
  A law with a closed call within it. No statement.
-/
import Derived.Test.YtlncjakfckdjcaaGreatDoorEvH
set_option linter.all false
set_option maxRecDepth 100000
set_option maxHeartbeats 2000000
namespace Go.Ev
open Go
variable {P : Program} {Q : List Nat} {G : Nat}
noncomputable def lawK (P : Program) (Q : List Nat) (G n k : Nat) (L : List Nat) (hg : H) : Caller :=
  bodyK P (codeK P Q (drawS P Q) (oracle k L hg (evK P Q (drawS P Q) G n).call) (fun _ _ _ _ => none) G)
    (fun N ro c t d h => codeK P Q (drawS P Q) (oracle k L hg (evK P Q (drawS P Q) G n).call) (fun _ _ _ _ => none) G N ro c t d h fun e t d h => some (e, t, d, h))
theorem body_calls (hN : NoNum P) {code : Nat → Option Nat → Code → Tr SV → List Nat → H → Res} (hcode : CodeOk P G code) {k : Nat} {args : List SV} {h h' : H} {v : SV}
    (e : bodyS P code (.f k [] []) args h = some (v, h')) {ε : Env} {w : World} {args' : List Value} (ha : Rs ε args args') (r : Rep G ε h w) : Calls P k args'.toArray w (Post G ε h w v h') := by
  obtain ⟨d, nx, h1, h2, h3⟩ := (bodyS_R hN hcode) _ _ _ _ _ e Fence.wide 0 ε w (.func (.func k) #[] #[]) args' ⟨fun _ => trivial, rfl⟩ (.f .nil .nil) ha r
  rcases h3 with ⟨g, as, rfl, hc⟩ | ⟨hne, _⟩
  · have hd : d = { target := .fn (.func k) #[], args := #[] ++ args'.toArray } := by
      have h4 : Result.ok ({ target := .fn (.func k) #[], args := #[] ++ args'.toArray } : Deferred) w = .ok d w := h1
      cases h4; rfl
    subst hd
    have hx : g = k ∧ as = args'.toArray := by
      obtain ⟨fn, c, f1, f2⟩ : ∃ fn c, P.funcs[k]? = some fn ∧ fn.body = some c := by
        simp only [bodyS, Option.bind_eq_some_iff] at e
        obtain ⟨fn, hfn, c, hc', _⟩ := e
        rw [nth_eq] at hfn
        exact ⟨fn, c, by simpa using hfn, hc'⟩
      have hne : ¬ fn.name = "runtime.NumGoroutine" := by simpa using hN k fn f1
      simp only [invoke, callFunc] at h2
      simp [f1, f2, hne] at h2
      exact ⟨h2.1.symm, h2.2.symm⟩
    rw [← hx.1, ← hx.2]
    exact callsIn_wide.1 hc
  · exact absurd rfl (hne k [] [])
theorem law_calls (hQ : ∀ t ∈ Q, EqOk P t) (hN : NoNum P) (hm : P.follows .mixedOrders = true) {n n' k j : Nat} {L : List Nat} {hg h9 : H}
    (e : (evK P Q (drawS P Q) G n).call (.f k [] []) [] hg = some (.b true, h9)) (hL : ∀ q o, hg.get q = some o → q ∈ L ∧ q < G) (hnx : hg.nx = G)
    {args : List SV} {h h' : H} {v : SV} (e2 : lawK P Q G n' k L hg (.f j [] []) args h = some (v, h')) {ε : Env} {w : World} {args' : List Value} (ha : Rs ε args args') (r : Rep G ε h w) :
    Calls P j args'.toArray w (Post G ε h w v h') := by
  have ho : CallOk P G (oracle k L hg (evK P Q (drawS P Q) G n').call) := oracle_R hQ hN hm e hL hnx (by rw [evK_eq]; exact ev_R hQ hN (drawS_R hQ hm) n')
  have e3 : bodyS P (fun N ro => codeS P Q (drawS P Q) (oracle k L hg (evK P Q (drawS P Q) G n').call) (fun _ _ _ _ => none) G N ro) (.f j [] []) args h = some (v, h') := by
    rw [← e2]
    unfold lawK
    refine Eq.trans ?_ (bodyK_eq (code' := fun N ro c t d h => codeK P Q (drawS P Q) (oracle k L hg (evK P Q (drawS P Q) G n').call) (fun _ _ _ _ => none) G N ro c t d h fun e t d h => some (e, t, d, h)) (fun N ro c t d h k => ?_) _ _ _).symm
    · congr 1
      funext N ro c t d h
      rw [codeK_eq, some_bind]
    · rw [codeK_eq, codeK_eq, some_bind]
  exact body_calls hN (fun N ro c F m ε h w t d a r hF hro hf hd hr e => codeS_R hQ (drawS_R hQ hm) ho c hF hro hf hd hr e) e3 ha r
end Go.Ev
