/-
  Code: the evaluator's and the model's. No statement.
-/
import Derived.Test.YtlncjakfckdjcaaGreatDoorEvX
import Derived.RangeFuncLeaves
import Derived.RangeFuncRecord
import Derived.RangeFuncNested
import Derived.RangeFuncCalls
set_option linter.all false
set_option maxRecDepth 100000
set_option maxHeartbeats 2000000
namespace Go.Ev
open Go
variable {P : Program} {G : Nat}
/-- a fence that lets all in -/
structure FW (F : Fence) : Prop where
  fn : ∀ f, F.fn f
  depth : F.depth = none
theorem FW.inRound {F : Fence} (h : FW F) (l : Nat) : FW (F.inRound l) := ⟨h.fn, h.depth⟩
def Post (G : Nat) (ε : Env) (h : H) (w : World) (v : SV) (h' : H) : Ending → World → Prop := fun e w' =>
  ∃ v' ε', e = .returned v' ∧ R ε' v v' ∧ Rep G ε' h' w' ∧ Kp h ε w h' ε' w'
/-- what a function value's call does -/
def CallOk (P : Program) (G : Nat) (call : Caller) : Prop := ∀ f l h v h', call f l h = some (v, h') → ∀ (F : Fence) (n : Nat) (ε : Env) (w : World) (f' : Value) (l' : List Value), FW F → R ε f f' → Rs ε l l' → Rep G ε h w →
  ∃ d nx, (Deferred.ofValue f' l'.toArray).run P w = .ok d w ∧ (invoke d.target d.args).run P w = .ok nx w ∧
    ((∃ g as, nx = .enter g as ∧ CallsIn F n P g as w (Post G ε h w v h')) ∨
     ((∀ a b c, f ≠ .f a b c) ∧ ∃ k fn tm asg body, nx = .round k fn tm asg body ∧ RoundIn F n P k fn tm asg body w (Post G ε h w v h')))
theorem FR.put {ε : Env} {N : Nat} {t t' : Tr SV} {a : Act} {dst : Option Nat} {v : SV} {v' : Value} (hf : FR ε N t a.tmps) (e : putD N t dst v = some t') (hv : R ε v v') : FR ε N t' (a.put dst v').tmps := by
  cases dst with
  | none => simp [putD] at e; subst e; exact hf
  | some d =>
    simp only [putD] at e
    cases hb : Nat.blt d N
    · simp only [hb, cond_false] at e; cases e
    · simp only [hb, cond_true, Option.some.injEq] at e
      subst e
      have hd : d < N := by simp [Nat.blt] at hb; omega
      refine ⟨by simp [Act.put, hf.1], fun i => ?_⟩
      have h1 := hf.2 i
      have h2 := hf.1
      simp only [gt, get_set] at h1 ⊢
      by_cases hc : i = d
      · subst hc
        simp only [if_pos rfl, Act.put, Array.getD_eq_getD_getElem?, Option.getD_some]
        rw [Array.getElem?_setIfInBounds_self_of_lt (by omega)]
        simpa using hv
      · rw [if_neg hc]
        simp only [Act.put, Array.getD_eq_getD_getElem?] at h1 ⊢
        rw [Array.getElem?_setIfInBounds_ne (fun e => hc e.symm)]
        exact h1
theorem undef_R (ε : Env) : R ε undefS undef := .t .nil
theorem want_eq {ε : Env} {N : Nat} {t : Tr SV} {a : Act} {ops : Array Oper} {o : Oper} (hf : FR ε N t a.tmps) : Region.wanted o (yielded ops a.tmps) = wantS t ops.toList o := by
  unfold Region.wanted wantS
  cases hg : o.guard with
  | none => rfl
  | some jb =>
    obtain ⟨j, b⟩ := jb
    simp only [nth_eq]
    cases hj : ops.toList[j]? with
    | none =>
      have hj' : ops[j]? = none := by simpa using hj
      simp [yielded, hj']
    | some q =>
      have hj' : ops[j]? = some q := by simpa using hj
      cases hd : q.dst with
      | none => simp [yielded, hj', hd]
      | some d =>
        simp only [hd]
        have h1 := hf.2 d
        rw [Array.getD_eq_getD_getElem?] at h1
        have hy : yielded ops a.tmps j = match a.tmps[d]? with | some (.bool b) => some b | _ => none := by unfold yielded; rw [hj', Option.bind_some, hd, Option.bind_some]; rfl
        rw [hy]
        generalize gt t d = s at h1
        cases hx : a.tmps[d]? with
        | none =>
          rw [hx] at h1
          simp only [Option.getD_none, undef] at h1
          cases h1; rfl
        | some x =>
          rw [hx] at h1
          simp only [Option.getD_some] at h1
          cases h1 <;> first | rfl | (rename_i c; cases b <;> cases c <;> rfl)
/-- one operation -/
theorem opS_wp {Q : List Nat} (hQ : ∀ t ∈ Q, EqOk P t) {call : Caller} (hc : CallOk P G call) {F : Fence} (hF : FW F) {n N : Nat} {ε : Env} {h h' : H} {w : World} {t : Tr SV} {a : Act} {o : Oper} {v : SV}
    (hf : FR ε N t a.tmps) (r : Rep G ε h w) (e : opS P Q call G h.nx t h o.op = some (v, h')) {K : Act → World → Prop} {Q' : Exit → Act → World → Prop}
    (hK : ∀ v' w' ε', R ε' v v' → Rep G ε' h' w' → Kp h ε w h' ε' w' → K (a.put o.dst v') w') : o.wpIn F n P a w K Q' := by
  refine ⟨fun f _ => hF.fn f, ?_⟩
  unfold opS at e
  cases hcal : callee o.op with
  | none =>
    simp only [hcal] at e
    have hnd : ∀ c, o.op ≠ .defer c := fun c hcc => by rw [hcc] at e; simp [op1] at e
    rw [Oper.semAt_eq _ _ _ hnd]
    obtain ⟨nx, w', ε', h1, h2, h3, h4, _⟩ := op1_R hQ hf r (r.fresh _ (Nat.le_refl _)) (Nat.le_refl _) e
    rw [h1]
    rcases h2 with ⟨v', rfl, hv⟩ | ⟨rfl, rfl⟩
    · exact hK v' w' ε' hv h3 h4
    · exact hK undef w' ε' (undef_R ε') h3 h4
  | some q =>
    simp only [hcal, Option.bind_eq_some_iff] at e
    obtain ⟨f, hfv, l, hl, e⟩ := e
    have hop : ∃ c : Call, o.op = .call c ∧ c.callee = .value q.1 ∧ c.args.toList = q.2 := by
      unfold callee at hcal
      split at hcal
      · rename_i c hc'
        split at hcal
        · rename_i g hg
          cases hcal
          exact ⟨c, hc', hg, rfl⟩
        · cases hcal
      · cases hcal
    obtain ⟨c, ho, hcv, hca⟩ := hop
    have hnd : ∀ c, o.op ≠ .defer c := fun c hcc => by rw [ho] at hcc; cases hcc
    rw [Oper.semAt_eq _ _ _ hnd]
    have hfr := opd_R hf r hfv
    have hlr := opds_R hf r hl
    obtain ⟨d, nx, k1, k2, k3⟩ := hc f l h v h' e F (n - 1) ε w _ _ hF hfr hlr r
    have hrun : (execOp a.eval o).run P w = .ok nx w := by
      unfold execOp
      simp only [ho, resolve, hcv, Sem.run_bind]
      rw [mapA, hca, k1]
      exact k2
    rw [hrun]
    have hdep : F.depth.isSome = true → 1 ≤ n := by rw [hF.depth]; simp
    rcases k3 with ⟨g, as, rfl, hcall⟩ | ⟨_, k, fn, tm, asg, body, rfl, hround⟩
    · refine ⟨hdep, hcall.mono fun en w' hen => ?_⟩
      obtain ⟨v', ε', rfl, p1, p2, p3⟩ := hen
      exact hK v' w' ε' p1 p2 p3
    · refine ⟨hdep, hround.mono fun en w' hen => ?_⟩
      obtain ⟨v', ε', rfl, p1, p2, p3⟩ := hen
      exact hK v' w' ε' p1 p2 p3
inductive DR (ε : Env) : List Nat → List Deferred → Prop
  | nil : DR ε [] []
  | cons {n : Nat} {e : E} {l : List Nat} {m : List Deferred} (h : ε n = some e) (h' : DR ε l m) : DR ε (n :: l) ({ target := .collected e.b, args := #[] } :: m)
theorem DR.mono {ε ε' : Env} (hx : Ext ε ε') : ∀ {l : List Nat} {m : List Deferred}, DR ε l m → DR ε' l m
  | _, _, .nil => .nil
  | _, _, .cons h h' => .cons (hx _ _ h) (h'.mono hx)
def Ex.den : Ex → Exit
  | .normal => .normal
  | .ret => .ret
  | .exit i => .exit i
  | .goto i => .goto i
def St (G N : Nat) (ε : Env) (h : H) (w : World) (r : Ex × Tr SV × List Nat × H) : Exit → Act → World → Prop := fun e a w' =>
  e = r.1.den ∧ ∃ ε', FR ε' N r.2.1 a.tmps ∧ DR ε' r.2.2.1 a.defers ∧ Rep G ε' r.2.2.2 w' ∧ Kp h ε w r.2.2.2 ε' w'
theorem St.from {N : Nat} {ε ε1 : Env} {h h1 : H} {w w1 : World} {r : Ex × Tr SV × List Nat × H} (k : Kp h ε w h1 ε1 w1) {e : Exit} {a : Act} {w' : World} (s : St G N ε1 h1 w1 r e a w') : St G N ε h w r e a w' := by
  obtain ⟨h1, ε', a1, a2, a3, a4⟩ := s
  exact ⟨h1, ε', a1, a2, a3, k.trans a4⟩
/-- a region in its order -/
theorem opsS_wp {Q : List Nat} (hQ : ∀ t ∈ Q, EqOk P t) {call : Caller} (hc : CallOk P G call) {F : Fence} (hF : FW F) {n N : Nat} {ops : Array Oper} {Q' : Exit → Act → World → Prop} :
    ∀ (suf pre : List Oper), ops.toList = pre ++ suf → ∀ {ε : Env} {h : H} {w : World} {t : Tr SV} {a : Act} {t' : Tr SV} {h' : H}, FR ε N t a.tmps → Rep G ε h w → opsS P Q call G N ops.toList suf t h = some (t', h') →
      (∀ a' w' ε', FR ε' N t' a'.tmps → a'.defers = a.defers → Rep G ε' h' w' → Kp h ε w h' ε' w' → Q' .normal a' w') → wpOpsIn F n P ops Q' (List.range' pre.length suf.length) a w := by
  intro suf
  induction suf with
  | nil =>
    intro pre hp ε h w t a t' h' hf r e hQ'
    simp [opsS] at e
    obtain ⟨rfl, rfl⟩ := e
    simp only [List.length_nil, List.range'_zero, wpOpsIn]
    exact hQ' a w ε hf rfl r (KpA.refl h ε w)
  | cons o suf ih =>
    intro pre hp ε h w t a t' h' hf r e hQ'
    have ho : ops[pre.length]? = some o := by
      rw [← Array.getElem?_toList, hp]
      simp
    have hnext : ops.toList = (pre ++ [o]) ++ suf := by rw [hp]; simp
    simp only [List.length_cons, List.range'_succ, wpOpsIn, ho]
    simp only [opsS] at e
    rw [want_eq hf]
    cases hw : wantS t ops.toList o
    · simp only [hw, cond_false, Option.bind_eq_some_iff] at e
      obtain ⟨t1, ht1, e⟩ := e
      simp only [Bool.false_eq_true, if_false]
      refine ⟨fun f _ => hF.fn f, ?_⟩
      have hf1 := hf.put ht1 (undef_R ε)
      have := ih (pre ++ [o]) hnext hf1 r e (fun a' w' ε' x1 x2 x3 x4 => hQ' a' w' ε' x1 (x2.trans (by cases o.dst <;> rfl)) x3 x4)
      simpa using this
    · simp only [hw, cond_true, Option.bind_eq_some_iff] at e
      obtain ⟨⟨v, h1⟩, hop, t1, ht1, e⟩ := e
      simp only [if_true]
      refine opS_wp hQ hc hF hf r hop (fun v' w' ε' hv hr hk => ?_)
      have hf1 := (hf.mono hk.ext).put ht1 hv
      have := ih (pre ++ [o]) hnext hf1 hr e (fun a' w2 ε2 x1 x2 x3 x4 => hQ' a' w2 ε2 x1 (x2.trans (by cases o.dst <;> rfl)) x3 (hk.trans x4))
      simpa using this
/-- what a drawn region's evaluator must meet -/
def DrawOk (P : Program) (G : Nat) (Q : List Nat) (draw : Draw) : Prop := ∀ (call : Caller), CallOk P G call → ∀ {F : Fence}, FW F → ∀ {n N : Nat} {ops : Array Oper} {id : Nat} {ε : Env} {h h' : H} {w : World} {t t' : Tr SV} {a : Act},
  FR ε N t a.tmps → Rep G ε h w → draw call G N ops.toList t h = some (t', h') → ∀ {Q' : Exit → Act → World → Prop},
  (∀ a' w' ε', FR ε' N t' a'.tmps → a'.defers = a.defers → Rep G ε' h' w' → Kp h ε w h' ε' w' → Q' .normal a' w') → (Code.region id ops true).wpIn F n P Q' a w
/-- in which round's frame -/
def RoOk (ε : Env) (ro : Option Nat) (r : Option Nat) : Prop := match ro with
  | none => r = none
  | some l => ∃ e, ε l = some e ∧ r = some e.b
theorem RoOk.mono {ε ε' : Env} (hx : Ext ε ε') {ro r : Option Nat} (h : RoOk ε ro r) : RoOk ε' ro r := by
  cases ro with
  | none => exact h
  | some l => obtain ⟨e, h1, h2⟩ := h; exact ⟨e, hx _ _ h1, h2⟩
theorem wpIn_fuel {F : Fence} {n : Nat} {Q : Exit → Act → World → Prop} {c : Code} (I : Nat → Act → World → Prop)
    (round : ∀ m a w, I m a w → c.wpIn F n P (Exit.then (fun a' w' => ∃ m', m' < m ∧ I m' a' w') Q) a w) {m : Nat} {a : Act} {w : World} (h₀ : I m a w) : (Code.loop c).wpIn F n P Q a w := by
  intro b k cs hro hb hr
  have key : ∀ j a w, I j a w →
      ∃ e a' w', Q e a' w' ∧ ArrivesIn (Machine.fenced P F) P (lone (b.atR a (.code c :: .inLoop c :: k)) cs w) b k cs e a' w' := by
    intro j
    induction j using Nat.strongRecOn with
    | _ j ih =>
      intro a w hI
      obtain ⟨e, a₁, w₁, hq, harr⟩ := round j a w hI b (.inLoop c :: k) cs hro hb hr
      cases e with
      | normal =>
        obtain ⟨j', hlt, hI₁⟩ := hq
        obtain ⟨e₂, a₂, w₂, hq₂, harr₂⟩ := ih j' hlt a₁ w₁ hI₁
        exact ⟨e₂, a₂, w₂, hq₂, .of_steps (StepsIn.trans harr (.one (fenced_calm hb hr rfl) stepR_inLoop)) harr₂⟩
      | exit id => exact ⟨_, a₁, w₁, hq, .pass (x := .inLoop c) rfl (fun _ _ => .inl (by simp)) harr⟩
      | goto l => exact ⟨_, a₁, w₁, hq, .pass (x := .inLoop c) rfl (fun _ _ => .inl (by simp)) harr⟩
      | ret => exact ⟨_, a₁, w₁, hq, .pass (x := .inLoop c) rfl (fun _ _ => .inl (by simp)) harr⟩
      | panic ch => exact ⟨_, a₁, w₁, hq, .pass (x := .inLoop c) rfl (fun _ _ => .inl (by simp)) harr⟩
      | outgrown => exact ⟨_, a₁, w₁, hq, .pass (x := .inLoop c) rfl (fun _ _ => .inl (by simp)) harr⟩
  obtain ⟨e, a', w', hq, harr⟩ := key _ a w h₀
  exact ⟨e, a', w', hq, .of_steps (.one (fenced_calm hb hr rfl) stepR_loop) harr⟩
end Go.Ev
