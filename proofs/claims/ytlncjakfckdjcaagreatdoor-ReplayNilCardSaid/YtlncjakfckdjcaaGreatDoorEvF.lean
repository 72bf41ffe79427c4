/-
  Code: the evaluator's and the model's, all of it. No statement.
-/
import Derived.Test.YtlncjakfckdjcaaGreatDoorEvC
import Derived.Scope
set_option linter.all false
set_option maxRecDepth 100000
set_option maxHeartbeats 2000000
namespace Go.Ev
open Go
variable {P : Program} {G : Nat}
theorem leave_wp {F : Fence} {n N : Nat} {h : H} {w : World} {e : Ex} {t : Tr SV} {d : List Nat} {a : Act} {c : Code} {c' : Option Code} (hc : c' = some c) (he : jumpE c' = some e) {ε0 : Env} {h0 : H} {w0 : World}
    (hs : St G N ε0 h0 w0 (e, t, d, h) e.den a w) : c.wpIn F n P (St G N ε0 h0 w0 (e, t, d, h)) a w := by
  subst hc
  unfold jumpE at he
  split at he
  · rename_i hx; cases hx
  · rename_i hx; cases hx; cases he; exact wpIn_ret hs
  · rename_i i hx; cases hx; cases he; exact wpIn_exit hs
  · rename_i i hx; cases hx; cases he; exact wpIn_goto hs
  · cases he
theorem stepR_scope {b : Frame} {a : Act} {k : List Item} {cs : List Frame} {w : World} {c : Code} : step P (lone (b.atR a (.code (.scope c) :: k)) cs w) = .next (lone (b.atR a (.code c :: .inScope c :: k)) cs w) :=
  step_lone_go (by simp [stepG, stepG.exec, Frame.atR])
theorem stepR_inScope {b : Frame} {a : Act} {k : List Item} {cs : List Frame} {w : World} {c : Code} : step P (lone (b.atR a (.inScope c :: k)) cs w) = .next (lone (b.atR a k) cs w) :=
  step_lone_go (by simp [stepG, stepG.exec, Frame.atR])
theorem wpIn_scope_straight {F : Fence} {n : Nat} {Q : Exit → Act → World → Prop} {a : Act} {w : World} {c : Code} (h : c.wpIn F n P (Exit.noGoto Q) a w) : (Code.scope c).wpIn F n P Q a w := by
  intro b k cs hro hb hr
  have h0 : (lone (b.atR a (.code (.scope c) :: k)) cs w).fenced P F := fenced_calm hb hr rfl
  obtain ⟨e, a₁, w₁, hq, harr⟩ := h b (.inScope c :: k) cs hro hb hr
  cases e with
  | normal => exact ⟨.normal, a₁, w₁, hq, .head h0 stepR_scope (StepsIn.trans harr (.one (fenced_calm hb hr rfl) stepR_inScope))⟩
  | exit id =>
    have hx : exitTo id (.inScope c :: k) = exitTo id k := by simp [exitTo]
    exact ⟨.exit id, a₁, w₁, hq, fun k' hk => .head h0 stepR_scope (harr.1 k' (by rw [hx]; exact hk)),
      fun hr' hk => let ⟨k₁, h1, h2⟩ := harr.2 hr' (by rw [hx]; exact hk); ⟨k₁, h1, .head h0 stepR_scope h2⟩⟩
  | goto l => exact hq.elim
  | ret => exact ⟨.ret, a₁, w₁, hq, ArrivesIn.of_steps (b := b) (k := k) (cs := cs) (e := .ret) (.one h0 stepR_scope) harr⟩
  | panic ch => exact ⟨.panic ch, a₁, w₁, hq, ArrivesIn.of_steps (b := b) (k := k) (cs := cs) (e := .panic ch) (.one h0 stepR_scope) harr⟩
  | outgrown => exact ⟨_, a₁, w₁, hq, .of_steps (b := b) (k := k) (cs := cs) (e := .outgrown) (.one h0 stepR_scope) harr⟩
theorem putObj_size (w : World) (b : Nat) (o : Obj) : (w.putObj b o).heap.size = w.heap.size := by simp [World.putObj]
/-- the call of a range over a function, and what is behind it -/
theorem range_core {call : Caller} (hc : CallOk P G call) {N : Nat} {F : Fence} (hF : FW F) {n : Nat} {ε ε1 : Env} {h h1 : H} {w w1 : World} {t : Tr SV} {d mk : List Nat} {a : Act} {g : Operand} {v v3 : SV} {m : Nat} {em : E} {h3 : H} {mark : List Deferred}
    {fn0 : Nat} {fs cs : List SV} (hv : v = .f fn0 fs cs) {st : LoopState} {pe : Option Code} {N' df : Nat} {tm : Tr SV} {ps : List Nat} {asg body : Code} {e : Ex}
    (hf : FR ε N t a.tmps) (hd : DR ε1 (app mk d) (mark ++ a.defers)) (hvr : R ε v (a.eval g)) (hr1 : Rep G ε1 h1 w1) (hk1 : Kp h ε w h1 ε1 w1) (hm : ε1 m = some em)
    (hcall : call v [.y m] h1 = some (v3, h3)) (ho : h3.get m = some (.l st pe N' tm ps asg body df)) (hb : isBusy st = false) (hj : jumpE pe = some e) :
    ∃ (dd : Deferred) (w₁' : World) (f : FuncId) (args : Array Value) (w₂ : World),
      (resolve a.eval (rangeCall g em.b) 0).run P w1 = .ok dd w₁' ∧ (invoke dd.target dd.args).run P w₁' = .ok (.enter f args) w₂ ∧
      CallsIn F (n - 1) P f args w₂ (rangePost F n P em.b (St G N ε h w (e, t, app mk d, h3.put m (some (.l .exhausted pe N' tm ps asg body df)))) { a with defers := mark ++ a.defers }) := by
  obtain ⟨dd, nx, k1, k2, k3⟩ := hc v [.y m] h1 v3 h3 hcall F (n - 1) ε1 w1 (a.eval g) [.func (.yield em.b) #[] #[]] hF (hvr.mono hk1.ext) (.cons (.y hm) .nil) hr1
  rcases k3 with ⟨f, as, rfl, hcl⟩ | ⟨hne, _⟩
  · refine ⟨dd, w1, f, as, w1, ?_, k2, hcl.mono fun en w3 hen => ?_⟩
    · have hh : (#[Operand.const (.func (.yield em.b) #[] #[])].map a.eval) = #[.func (.yield em.b) #[] #[]] := by simp [Act.eval]
      simp only [resolve, rangeCall]
      rw [hh]; exact k1
    · obtain ⟨v', ε3, rfl, p1, p2, p3⟩ := hen
      obtain ⟨e3, q1, q2⟩ := p2.obj _ _ ho
      have : e3 = em := Option.some.inj (q1.symm.trans (p3.ext _ _ hm))
      subst this
      obtain ⟨fn, tmps, ed, o1, o2, fo, o3, o4⟩ := q2
      have hlt := (Array.getElem?_eq_some_iff.1 o1).1
      refine ⟨pe, _, run_endLoop o1 (by simp only; intro hcb; subst hcb; simp [isBusy] at hb), ?_⟩
      obtain ⟨z1, z2⟩ := p2.write (o' := .l .exhausted pe N' tm ps asg body df) (w' := w3.putObj e3.b (.loop { state := .exhausted, pending := pe, fn := fn, tmps := tmps, params := ps.toArray, assign := asg, body := body, defers := ed })) ho q1
        ⟨fn, tmps, ed, World.putObj_heap_same hlt, o2, fo, o3, o4⟩ (putObj_size _ _ _) (fun k hk => World.putObj_heap_other hk)
      have hst : St G N ε h w (e, t, app mk d, h3.put m (some (.l .exhausted pe N' tm ps asg body df))) e.den { a with defers := mark ++ a.defers } (w3.putObj e3.b (.loop { state := .exhausted, pending := pe, fn := fn, tmps := tmps, params := ps.toArray, assign := asg, body := body, defers := ed })) :=
        ⟨rfl, ε3, hf.mono (hk1.ext.trans p3.ext), hd.mono p3.ext, z1, (hk1.trans p3).trans z2⟩
      cases hpe : pe with
      | none =>
        rw [hpe] at hj hst
        simp only [jumpE, Option.some.injEq] at hj
        subst hj
        exact hst
      | some c =>
        rw [hpe] at hst
        exact leave_wp rfl (by rw [← hpe]; exact hj) hst
  · exact absurd hv (hne _ _ _)
theorem codeS_R {Q : List Nat} (hQ : ∀ t ∈ Q, EqOk P t) {draw : Draw} (hD : DrawOk P G Q draw) {call : Caller} (hc : CallOk P G call) {again : Code → Tr SV → List Nat → H → Res} {N : Nat} {ro : Option Nat} :
    ∀ (c : Code) {F : Fence} {n : Nat} {ε : Env} {h : H} {w : World} {t : Tr SV} {d : List Nat} {a : Act} {r : Ex × Tr SV × List Nat × H}, FW F → RoOk ε ro F.round → FR ε N t a.tmps → DR ε d a.defers → Rep G ε h w →
      codeS P Q draw call again G N ro c t d h = some r → c.wpIn F n P (St G N ε h w r) a w := by
  intro c
  induction c with
  | skip =>
    intro F n ε h w t d a r hF hro hf hd hr e
    simp only [codeS, Option.some.injEq] at e; subst e
    exact wpIn_skip ⟨rfl, ε, hf, hd, hr, KpA.refl h ε w⟩
  | label l =>
    intro F n ε h w t d a r hF hro hf hd hr e
    simp only [codeS, Option.some.injEq] at e; subst e
    exact wpIn_label ⟨rfl, ε, hf, hd, hr, KpA.refl h ε w⟩
  | exit i =>
    intro F n ε h w t d a r hF hro hf hd hr e
    simp only [codeS, Option.some.injEq] at e; subst e
    exact wpIn_exit ⟨rfl, ε, hf, hd, hr, KpA.refl h ε w⟩
  | goto i =>
    intro F n ε h w t d a r hF hro hf hd hr e
    simp only [codeS, Option.some.injEq] at e; subst e
    exact wpIn_goto ⟨rfl, ε, hf, hd, hr, KpA.refl h ε w⟩
  | ret =>
    intro F n ε h w t d a r hF hro hf hd hr e
    simp only [codeS, Option.some.injEq] at e; subst e
    exact wpIn_ret ⟨rfl, ε, hf, hd, hr, KpA.refl h ε w⟩
  | refuse s =>
    intro F n ε h w t d a r hF hro hf hd hr e
    simp [codeS] at e
  | region id ops dr =>
    intro F n ε h w t d a r hF hro hf hd hr e
    simp only [codeS, Option.bind_eq_some_iff, Option.some.injEq] at e
    obtain ⟨⟨t', h'⟩, e, rfl⟩ := e
    cases dr
    · simp only [cond_false] at e
      refine wpIn_region ?_
      have := opsS_wp hQ hc hF (n := n) (Q' := St G N ε h w (.normal, t', d, h')) ops.toList [] rfl hf hr e (fun a' w' ε' x1 x2 x3 x4 => ⟨rfl, ε', x1, by rw [x2]; exact hd.mono x4.ext, x3, x4⟩)
      simpa [List.range_eq_range'] using this
    · simp only [cond_true] at e
      exact hD call hc hF hf hr e (fun a' w' ε' x1 x2 x3 x4 => ⟨rfl, ε', x1, by rw [x2]; exact hd.mono x4.ext, x3, x4⟩)
  | seq x y ihx ihy =>
    intro F n ε h w t d a r hF hro hf hd hr e
    simp only [codeS, Option.bind_eq_some_iff] at e
    obtain ⟨⟨ex, t1, d1, h1⟩, e1, e⟩ := e
    refine wpIn_seq (wpIn_mono (ihx hF hro hf hd hr e1) (fun en a1 w1 hs => ?_))
    obtain ⟨rfl, ε1, s1, s2, s3, s4⟩ := hs
    cases ex with
    | normal =>
      simp only at e
      exact wpIn_mono (ihy hF (hro.mono s4.ext) s1 s2 s3 e) (fun en2 a2 w2 hs2 => hs2.from s4)
    | ret => simp only [Option.some.injEq] at e; subst e; exact ⟨rfl, ε1, s1, s2, s3, s4⟩
    | exit i => simp only [Option.some.injEq] at e; subst e; exact ⟨rfl, ε1, s1, s2, s3, s4⟩
    | goto i => simp only [Option.some.injEq] at e; subst e; exact ⟨rfl, ε1, s1, s2, s3, s4⟩
  | cond q x y ihx ihy =>
    intro F n ε h w t d a r hF hro hf hd hr e
    simp only [codeS, Option.bind_eq_some_iff] at e
    obtain ⟨v, hv, b, hb, e⟩ := e
    have hq := asB_R hb (opd_R hf hr hv)
    refine wpIn_cond hq ?_
    cases b
    · exact ihy hF hro hf hd hr e
    · exact ihx hF hro hf hd hr e
  | block id c ih =>
    intro F n ε h w t d a r hF hro hf hd hr e
    simp only [codeS, Option.bind_eq_some_iff] at e
    obtain ⟨⟨ex, t1, d1, h1⟩, e1, e⟩ := e
    refine wpIn_block (wpIn_mono (ih hF hro hf hd hr e1) (fun en a1 w1 hs => ?_))
    obtain ⟨rfl, ε1, s1, s2, s3, s4⟩ := hs
    cases ex with
    | normal => simp only [Option.some.injEq] at e; subst e; exact ⟨rfl, ε1, s1, s2, s3, s4⟩
    | ret => simp only [Option.some.injEq] at e; subst e; exact ⟨rfl, ε1, s1, s2, s3, s4⟩
    | goto i => simp only [Option.some.injEq] at e; subst e; exact ⟨rfl, ε1, s1, s2, s3, s4⟩
    | exit i =>
      simp only at e
      show (if i = id then _ else _)
      cases hi : Nat.beq i id
      · simp only [hi, cond_false, Option.some.injEq] at e
        subst e
        rw [if_neg (bqf.1 hi)]
        exact ⟨rfl, ε1, s1, s2, s3, s4⟩
      · simp only [hi, cond_true, Option.some.injEq] at e
        subst e
        rw [if_pos (bqi.1 hi)]
        exact ⟨rfl, ε1, s1, s2, s3, s4⟩
  | loop c ih =>
    intro F n ε h w t d a r hF hro hf hd hr e
    simp only [codeS] at e
    refine wpIn_fuel (fun m a' w' => ∃ t' d' h' ε', iter (codeS P Q draw call again G N ro c) m t' d' h' = some r ∧ FR ε' N t' a'.tmps ∧ DR ε' d' a'.defers ∧ Rep G ε' h' w' ∧ Kp h ε w h' ε' w') ?_ (m := LIM) ⟨t, d, h, ε, e, hf, hd, hr, KpA.refl h ε w⟩
    rintro m a1 w1 ⟨t1, d1, h1, ε1, e1, f1, f2, f3, f4⟩
    cases m with
    | zero => simp [iter] at e1
    | succ m =>
      simp only [iter, Option.bind_eq_some_iff] at e1
      obtain ⟨⟨ex, t2, d2, h2⟩, e2, e1⟩ := e1
      refine wpIn_mono (ih hF (hro.mono f4.ext) f1 f2 f3 e2) (fun en a2 w2 hs => ?_)
      obtain ⟨rfl, ε2, s1, s2, s3, s4⟩ := hs
      cases ex with
      | normal => exact ⟨m, Nat.lt_succ_self m, t2, d2, h2, ε2, e1, s1, s2, s3, f4.trans s4⟩
      | ret => simp only [Option.some.injEq] at e1; subst e1; exact ⟨rfl, ε2, s1, s2, s3, f4.trans s4⟩
      | exit i => simp only [Option.some.injEq] at e1; subst e1; exact ⟨rfl, ε2, s1, s2, s3, f4.trans s4⟩
      | goto i => simp only [Option.some.injEq] at e1; subst e1; exact ⟨rfl, ε2, s1, s2, s3, f4.trans s4⟩
  | scope c ih =>
    intro F n ε h w t d a r hF hro hf hd hr e
    simp only [codeS, Option.bind_eq_some_iff] at e
    obtain ⟨⟨ex, t1, d1, h1⟩, e1, e⟩ := e
    refine wpIn_scope_straight (wpIn_mono (ih hF hro hf hd hr e1) (fun en a1 w1 hs => ?_))
    obtain ⟨rfl, ε1, s1, s2, s3, s4⟩ := hs
    cases ex with
    | normal => simp only [Option.some.injEq] at e; subst e; exact ⟨rfl, ε1, s1, s2, s3, s4⟩
    | ret => simp only [Option.some.injEq] at e; subst e; exact ⟨rfl, ε1, s1, s2, s3, s4⟩
    | exit i => simp only [Option.some.injEq] at e; subst e; exact ⟨rfl, ε1, s1, s2, s3, s4⟩
    | goto i => simp only [reduceCtorEq] at e
  | rangeFunc g ps asg body iha ihb =>
    intro F n ε h w t d a r hF hro hf hd hr e
    simp only [codeS, Option.bind_eq_some_iff] at e
    obtain ⟨v, hv, e⟩ := e
    have hvr := opd_R hf hr hv
    split at e
    · rename_i fn0 fs cs
      simp only [Option.bind_eq_some_iff] at e
      obtain ⟨⟨df, h1, mk⟩, hq, ⟨v3, h3⟩, hcl, o, ho, e⟩ := e
      split at e
      · rename_i st pe N' tm ps' asg' body' df'
        cases hb : isBusy st
        · simp only [hb, cond_false, Option.bind_eq_some_iff, Option.some.injEq] at e
          obtain ⟨ej, hj, rfl⟩ := e
          have hdep : F.depth.isSome = true → 1 ≤ n := by rw [hF.depth]; simp
          refine wpIn_rangeFunc fun fn hfn => ?_
          cases ro with
          | none =>
            have hround : F.round = none := hro
            simp only [Option.some.injEq, Prod.mk.injEq] at hq
            obtain ⟨rfl, rfl, rfl⟩ := hq
            obtain ⟨m1, m2⟩ := hr.make (o := .d false) (e := ⟨w.heap.size, 0, 0⟩) (ob := .deferred (some [])) rfl (by show (w.heap.push _)[w.heap.size]? = _; simp)
            have hsz : (w.alloc (.deferred (some []))).heap.size = w.heap.size + 1 := by show (w.heap.push _).size = _; simp
            have hx0 := m2.ext
            obtain ⟨n1, n2⟩ := m1.make (o := .l .ready none N t ps.toList asg body h.nx) (e := ⟨w.heap.size + 1, 0, 0⟩) (ob := .loop { state := .ready, pending := none, fn := fn, tmps := a.tmps, params := ps, assign := asg, body := body, defers := w.heap.size }) hsz.symm
              ⟨fn, a.tmps, w.heap.size, by
                show ((w.alloc (.deferred (some []))).alloc _).heap[w.heap.size + 1]? = _
                rw [← hsz, heap_alloc_new], (hf.mono hx0).mono (Ext.add (m1.fresh _ (Nat.le_refl _))), ⟨w.heap.size, 0, 0⟩, (Ext.add (m1.fresh _ (Nat.le_refl _))) _ _ (Env.add_at _ _ _), rfl⟩
            have hk1 := m2.trans n2
            have hem := Env.add_at (ε.add h.nx ⟨w.heap.size, 0, 0⟩) (h.add (.d false)).nx ⟨w.heap.size + 1, 0, 0⟩
            have hdr : DR ((ε.add h.nx ⟨w.heap.size, 0, 0⟩).add (h.add (.d false)).nx ⟨w.heap.size + 1, 0, 0⟩) (app [h.nx] d) ([{ target := .collected w.heap.size, args := #[] }] ++ a.defers) := by
              have := DR.cons (e := ⟨w.heap.size, 0, 0⟩) (n := h.nx) (n2.ext _ _ (Env.add_at ε h.nx _)) (hd.mono hk1.ext)
              exact this
            obtain ⟨dd, w₁', f, args, w₂, r1, r2, r3⟩ := range_core hc hF (n := n) rfl hf hdr hvr n1 hk1 hem hcl ho hb hj
            exact ⟨w.heap.size + 1, _, _, dd, w₁', f, args, w₂, by rw [hround]; exact run_enterLoop_outer fn a.tmps ps asg body, r1, fun f' _ => hF.fn f', r2, hdep, r3⟩
          | some l0 =>
            obtain ⟨e0, he0, hround⟩ := hro
            simp only [Option.bind_eq_some_iff] at hq
            obtain ⟨o0, ho0, hq⟩ := hq
            split at hq
            · rename_i st0 pe0 N0 tm0 ps0 asg0 body0 df0
              simp only [Option.some.injEq, Prod.mk.injEq] at hq
              obtain ⟨rfl, rfl, rfl⟩ := hq
              obtain ⟨e1, g1, fn1, tmps1, ed1, g2, g3, f1, g4, g5⟩ := hr.obj _ _ ho0
              have : e1 = e0 := Option.some.inj (g1.symm.trans he0)
              subst this
              obtain ⟨n1, n2⟩ := hr.make (o := .l .ready none N t ps.toList asg body df0) (e := ⟨w.heap.size, 0, 0⟩) (ob := .loop { state := .ready, pending := none, fn := fn, tmps := a.tmps, params := ps, assign := asg, body := body, defers := ed1 }) rfl
                ⟨fn, a.tmps, ed1, by show (w.heap.push _)[w.heap.size]? = _; simp, hf.mono (Ext.add (hr.fresh _ (Nat.le_refl _))), f1, (Ext.add (hr.fresh _ (Nat.le_refl _))) _ _ g4, g5⟩
              have hem := Env.add_at ε h.nx ⟨w.heap.size, 0, 0⟩
              have hdr : DR (ε.add h.nx ⟨w.heap.size, 0, 0⟩) (app [] d) ([] ++ a.defers) := hd.mono n2.ext
              obtain ⟨dd, w₁', f, args, w₂, r1, r2, r3⟩ := range_core hc hF (n := n) rfl hf hdr hvr n1 n2 hem hcl ho hb hj
              exact ⟨w.heap.size, _, _, dd, w₁', f, args, w₂, by rw [hround]; exact run_enterLoop_inner g2 fn a.tmps ps asg body, r1, fun f' _ => hF.fn f', r2, hdep, r3⟩
            · cases hq
        · simp only [hb, cond_true] at e; cases e
      · cases e
    · cases e
end Go.Ev
