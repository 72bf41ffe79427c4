/-
  Functions and rounds: the evaluator's and the model's. No statement.
-/
import Derived.Test.YtlncjakfckdjcaaGreatDoorEvF
set_option linter.all false
set_option maxRecDepth 100000
set_option maxHeartbeats 2000000
namespace Go.Ev
open Go
variable {P : Program} {G : Nat}
theorem DR.nil_eq {ε : Env} {ds : List Deferred} (h : DR ε [] ds) : ds = [] := by cases h; rfl
def NoNum (P : Program) : Prop := ∀ (n : Nat) (fn : Func), P.funcs[n]? = some fn → (fn.name == "runtime.NumGoroutine") = false
def CodeOk (P : Program) (G : Nat) (code : Nat → Option Nat → Code → Tr SV → List Nat → H → Res) : Prop := ∀ (N : Nat) (ro : Option Nat) (c : Code) {F : Fence} {n : Nat} {ε : Env} {h : H} {w : World} {t : Tr SV} {d : List Nat} {a : Act} {r : Ex × Tr SV × List Nat × H},
  FW F → RoOk ε ro F.round → FR ε N t a.tmps → DR ε d a.defers → Rep G ε h w → code N ro c t d h = some r → c.wpIn F n P (St G N ε h w r) a w
def resV (tmps : Array Value) : ResultVar → Sem Value
  | .tmp i => pure (tmps.getD i undef)
  | .cell a ty => do loadVar ty (← asAddr (tmps.getD a undef))
theorem resS_R {ε : Env} {N : Nat} {h : H} {w : World} {t : Tr SV} {tmps : Array Value} (hf : FR ε N t tmps) (r : Rep G ε h w) : ∀ {l : List ResultVar} {m : List SV}, resS P h t l = some m →
    ∃ vs, (l.mapM (resV tmps)).run P w = .ok vs w ∧ Rs ε m vs
  | [], m, e => by simp [resS] at e; subst e; exact ⟨[], by simp, .nil⟩
  | x :: l, m, e => by
    simp only [resS, Option.bind_eq_some_iff, Option.some.injEq] at e
    obtain ⟨v, hv, q, hq, rfl⟩ := e
    obtain ⟨vs, h1, h2⟩ := resS_R hf r hq
    cases x with
    | tmp i =>
      simp only [Option.some.injEq] at hv
      subst hv
      exact ⟨tmps.getD i undef :: vs, by simp [List.mapM_cons, Sem.run_bind, h1, resV], .cons (hf.2 i) h2⟩
    | cell ad ty =>
      simp only [Option.bind_eq_some_iff] at hv
      obtain ⟨pa, hpa, hv⟩ := hv
      obtain ⟨ee, k1, k2⟩ := asP_R hpa (hf.2 ad)
      obtain ⟨v', k3, k4⟩ := loadT_R r hv k1
      refine ⟨v' :: vs, ?_, .cons k4 h2⟩
      have hr : (resV tmps (.cell ad ty)).run P w = .ok v' w := by
        simp only [resV, Sem.run_bind, k2, asAddr, Sem.run_pure, Result.andThen_ok, k3]
      simp [List.mapM_cons, Sem.run_bind, hr, h1]
theorem one_R {ε : Env} {m : List SV} {vs : List Value} (h : Rs ε m vs) : R ε (one m) (if h : vs.toArray.size = 1 then vs.toArray[0] else .tuple vs.toArray) := by
  cases h with
  | nil => exact .t .nil
  | cons h1 h2 => cases h2 with
    | nil => exact h1
    | cons h3 h4 =>
      rw [dif_neg (by simp)]
      exact .t (.cons h1 (.cons h3 h4))
theorem results_eq (fn : Func) (tmps : Array Value) : results fn tmps = (do
    let vs ← fn.results.mapM (resV tmps)
    pure (if h : vs.size = 1 then vs[0] else .tuple vs)) := by
  unfold results
  first
    | rfl
    | (congr 1; done)
    | (congr 2; done)
    | (congr 2; funext r; cases r <;> rfl)
theorem results_R {fn : Func} {ε : Env} {N : Nat} {h : H} {w : World} {t : Tr SV} {tmps : Array Value} (hf : FR ε N t tmps) (r : Rep G ε h w) {m : List SV} (e : resS P h t fn.results.toList = some m) :
    ∃ v, (results fn tmps).run P w = .ok v w ∧ R ε (one m) v := by
  obtain ⟨vs, h1, h2⟩ := resS_R hf r e
  refine ⟨_, ?_, one_R h2⟩
  rw [results_eq, Array.mapM_eq_mapM_toList]
  simp [h1]
theorem leaves_R {F : Fence} {n N : Nat} {fn : Func} {t : Tr SV} {tmps : Array Value} {m : List SV} {ε0 : Env} {h0 : H} {w0 : World} {hF : H} : ∀ {d : List Nat} {ds : List Deferred} {ε : Env} {h : H} {w : World}, FR ε N t tmps → DR ε d ds → Rep G ε h w → Kp h0 ε0 w0 h ε w →
    takeD h d = some hF → resS P hF t fn.results.toList = some m → LeavesInM F n P fn tmps (Post G ε0 h0 w0 (one m) hF) ds .returning w
  | [], ds, ε, h, w, hf, hd, hr, hk, e, er => by
    cases hd
    simp only [takeD, Option.some.injEq] at e
    subst e
    obtain ⟨v, h1, h2⟩ := results_R hf hr er
    exact ⟨v, h1, v, ε, rfl, h2, hr, hk⟩
  | k :: d, ds, ε, h, w, hf, hd, hr, hk, e, er => by
    cases hd with
    | cons hk1 hd' =>
      rename_i ee ds'
      simp only [takeD, Option.bind_eq_some_iff] at e
      obtain ⟨o, ho, e⟩ := e
      obtain ⟨e2, g1, g2⟩ := hr.obj _ _ ho
      have : e2 = ee := Option.some.inj (g1.symm.trans hk1)
      subst this
      split at e
      · have g2 : w.heap[e2.b]? = some (.deferred (some [])) := by simpa [Ob] using g2
        have hlt := (Array.getElem?_eq_some_iff.1 g2).1
        obtain ⟨z1, z2⟩ := hr.write (o' := .d true) (w' := w.putObj e2.b (.deferred none)) ho g1 (World.putObj_heap_same hlt) (putObj_size _ _ _) (fun k hk => World.putObj_heap_other hk)
        exact ⟨by simp, .inl ⟨e2.b, _, rfl, run_takeDeferred g2, leaves_R hf hd' z1 (hk.trans z2) e er⟩⟩
      · cases e
theorem parm_R {ε : Env} {N : Nat} : ∀ {ps : List Nat} {vs : List SV} {vs' : List Value} {t t' : Tr SV} {tmps : Array Value}, parm N ps vs t = some t' → Rs ε vs vs' → FR ε N t tmps →
    ps.length = vs'.length ∧ FR ε N t' ((ps.zip vs').foldl (fun tm x => tm.setIfInBounds x.1 x.2) tmps)
  | [], [], vs', t, t', tmps, e, hv, hf => by
    cases hv
    simp only [parm, Option.some.injEq] at e
    subst e
    exact ⟨rfl, hf⟩
  | p :: ps, v :: vs, vs', t, t', tmps, e, hv, hf => by
    cases hv with
    | cons h1 h2 =>
      simp only [parm] at e
      cases hb : Nat.blt p N
      · simp only [hb, cond_false] at e; cases e
      · simp only [hb, cond_true] at e
        have hf1 : FR ε N (t.set p (some v)) (tmps.setIfInBounds p _) := FR.put (a := ⟨tmps, []⟩) (dst := some p) hf (by simp [putD, hb]) h1
        obtain ⟨k1, k2⟩ := parm_R e h2 hf1
        exact ⟨by simp [k1], k2⟩
  | [], _ :: _, _, _, _, _, e, _, _ => by simp [parm] at e
  | _ :: _, [], _, _, _, _, e, _, _ => by simp [parm] at e
theorem FR.enter {ε : Env} {N : Nat} {l : List SV} {vs : List Value} (hl : Rs ε l vs) (hn : vs.length ≤ N) : FR ε N (putL .e l 0) (vs.toArray ++ Array.replicate (N - vs.toArray.size) undef) := by
  refine ⟨by simp; omega, fun i => ?_⟩
  unfold gt
  rw [putL_get, hl.length]
  by_cases hi : i < vs.length
  · rw [if_pos ⟨Nat.zero_le _, by omega⟩, Nat.sub_zero]
    have hx : l[i]? = some (l[i]'(by rw [hl.length]; exact hi)) := List.getElem?_eq_getElem _
    obtain ⟨y, hy, hr⟩ := hl.get i hx
    rw [hx]
    have : (vs.toArray ++ Array.replicate (N - vs.toArray.size) undef).getD i undef = y := by
      rw [Array.getD_eq_getD_getElem?, Array.getElem?_append_left (by simpa using hi)]
      simp [hy]
    rw [this]
    exact hr
  · rw [if_neg (by omega)]
    have : (vs.toArray ++ Array.replicate (N - vs.toArray.size) undef).getD i undef = undef := by
      rw [Array.getD_eq_getD_getElem?, Array.getElem?_append_right (by simpa using Nat.le_of_not_lt hi)]
      rw [Array.getElem?_replicate]
      split <;> rfl
    rw [this, get_e]
    exact undef_R ε
theorem bodyS_R (hN : NoNum P) {code : Nat → Option Nat → Code → Tr SV → List Nat → H → Res} (hcode : CodeOk P G code) : CallOk P G (bodyS P code) := by
  intro f l h v h' e F n ε w f' l' hF hfr hlr hr
  unfold bodyS at e
  split at e
  · rename_i k fst cap
    simp only [Option.bind_eq_some_iff] at e
    obtain ⟨fn, hfn, c, hbody, e⟩ := e
    rw [nth_eq] at hfn
    have hfn' : P.funcs[k]? = some fn := by simpa using hfn
    cases hle : Nat.ble (len fst (len l (len cap 0))) fn.ntmps
    · simp only [hle, cond_false] at e; cases e
    simp only [hle, cond_true, Option.bind_eq_some_iff] at e
    obtain ⟨⟨ex, t1, d1, h1⟩, he1, e⟩ := e
    cases hfr with
    | f hfs hcs =>
      rename_i fs' cs'
      have hargs : Rs ε (app fst (app l cap)) (fs' ++ (l' ++ cs')) := by rw [app_eq, app_eq]; exact hfs.append (hlr.append hcs)
      refine ⟨{ target := .fn (.func k) cs'.toArray, args := fs'.toArray ++ l'.toArray }, .enter k (fs' ++ (l' ++ cs')).toArray, rfl, ?_, .inl ⟨k, _, rfl, ?_⟩⟩
      · simp only [invoke, callFunc]
        have hne : ¬ fn.name = "runtime.NumGoroutine" := by simpa using hN k fn hfn'
        simp [hfn', hne, hbody]
      · have hlen : (fs' ++ (l' ++ cs')).length ≤ fn.ntmps := by
          have h1 := hfs.length
          have h2 := hlr.length
          have h3 := hcs.length
          rw [len_eq, len_eq, len_eq] at hle
          have := Nat.le_of_ble_eq_true hle
          simp; omega
        have hF0 : FW ({ F with round := none } : Fence) := ⟨hF.fn, hF.depth⟩
        have hw := hcode fn.ntmps none c (F := { F with round := none }) (n := n) (a := ⟨(fs' ++ (l' ++ cs')).toArray ++ Array.replicate (fn.ntmps - (fs' ++ (l' ++ cs')).toArray.size) undef, []⟩) hF0 rfl (FR.enter hargs hlen) .nil hr he1
        have hC : CallsIn ({ F with round := none } : Fence) n P k (fs' ++ (l' ++ cs')).toArray w (Post G ε h w v h') := by
          refine callsIn_of_wp_marks hfn' hbody (hF.fn k) (wpIn_mono hw fun en a1 w1 hs => ?_)
          obtain ⟨rfl, ε1, s1, s2, s3, s4⟩ := hs
          cases ex with
          | normal =>
            simp only [Option.bind_eq_some_iff, Option.some.injEq, Prod.mk.injEq] at e
            obtain ⟨h2, ht, m, hm, rfl, rfl⟩ := e
            exact leaves_R s1 s2 s3 s4 ht hm
          | ret =>
            simp only [Option.bind_eq_some_iff, Option.some.injEq, Prod.mk.injEq] at e
            obtain ⟨h2, ht, m, hm, rfl, rfl⟩ := e
            exact leaves_R s1 s2 s3 s4 ht hm
          | exit i => simp at e
          | goto i => simp at e
        exact hC
  · rename_i k
    simp only [Option.bind_eq_some_iff] at e
    obtain ⟨o, ho, e⟩ := e
    split at e
    · rename_i st pe N tm ps asg body df
      simp only [Option.bind_eq_some_iff] at e
      obtain ⟨t0, ht0, ⟨ex1, t1, d1, h1⟩, he1, e⟩ := e
      cases hfr with
      | y hk =>
        rename_i ek
        obtain ⟨e2, g1, fn, tmps, ed, g2, g3, fo, g4, g5⟩ := hr.obj _ _ ho
        have : e2 = ek := Option.some.inj (g1.symm.trans hk)
        subst this
        obtain ⟨p1, p2⟩ := parm_R ht0 hlr g3
        have hy := run_yield (P := P) (args := l'.toArray) g2 (by simp [p1])
        refine ⟨{ target := .fn (.yield e2.b) #[], args := #[] ++ l'.toArray }, _, rfl, ?_, .inr ⟨by simp, e2.b, fn, (ps.zip l').foldl (fun tm x => tm.setIfInBounds x.1 x.2) tmps, asg, body, rfl, ?_⟩⟩
        · simp only [invoke, Array.empty_append]
          rw [hy]
          simp
        · split at e
          · rename_i hx1 hx2
            simp only at hx1 hx2
            subst hx1 hx2
            simp only [Option.bind_eq_some_iff] at e
            obtain ⟨o1, ho1, e⟩ := e
            split at e
            · rename_i pe1 N1 tm1 ps1 asg1 body1 df1
              cases hNN : Nat.beq N N1
              · simp only [hNN, cond_false] at e; cases e
              simp only [hNN, cond_true, Option.bind_eq_some_iff] at e
              obtain ⟨⟨ex2, t2, d2, h2⟩, he2, e⟩ := e
              split at e
              · rename_i hx3
                simp only at hx3
                subst hx3
                simp only [Option.bind_eq_some_iff] at e
                obtain ⟨o2, ho2, e⟩ := e
                split at e
                · rename_i st2 pe2 N2 tm2 ps2 asg2 body2 df2
                  simp only [Option.some.injEq, Prod.mk.injEq] at e
                  obtain ⟨rfl, rfl⟩ := e
                  refine roundIn_of_wpIn (hF.fn fn) (wpIn_mono (hcode N (some k) asg (F := F.inRound e2.b) (n := n) (a := ⟨_, []⟩) (hF.inRound _) ⟨e2, hk, rfl⟩ p2 .nil hr he1) fun en a1 w1 hs => ?_)
                  obtain ⟨rfl, ε1, s1, s2, s3, s4⟩ := hs
                  obtain ⟨e3, q1, fn1, tmps1, ed1, q2, q3, fo1, q4, q5⟩ := s3.obj _ _ ho1
                  have : e3 = e2 := Option.some.inj (q1.symm.trans (s4.ext _ _ hk))
                  subst this
                  have hlt := (Array.getElem?_eq_some_iff.1 q2).1
                  obtain ⟨z1, z2⟩ := s3.write (o' := .l .busy pe1 N1 tm1 ps1 asg1 body1 df1) (w' := w1.putObj e3.b (.loop { state := .busy, pending := pe1, fn := fn1, tmps := tmps1, params := ps1.toArray, assign := asg1, body := body1, defers := ed1 })) ho1 q1
                    ⟨fn1, tmps1, ed1, World.putObj_heap_same hlt, q3, fo1, q4, q5⟩ (putObj_size _ _ _) (fun k hk => World.putObj_heap_other hk)
                  refine ⟨_, run_beginRound q2 rfl, ?_⟩
                  have hdd : a1.defers = [] := DR.nil_eq s2
                  refine wpIn_mono (hcode N (some k) body (F := F.inRound e3.b) (n := n) (hF.inRound _) ⟨e3, q1, rfl⟩ s1 (by rw [hdd]; exact .nil) z1 he2) fun en2 a2 w2 hs2 => ?_
                  obtain ⟨rfl, ε2, u1, u2, u3, u4⟩ := hs2
                  obtain ⟨e4, r1, fn2, tmps2, ed2, r2, r3, fo2, r4, r5⟩ := u3.obj _ _ ho2
                  have : e4 = e3 := Option.some.inj (r1.symm.trans (u4.ext _ _ q1))
                  subst this
                  have hlt2 := (Array.getElem?_eq_some_iff.1 r2).1
                  have fin : ∀ (j : Option Code), j = exJ ex2 → ∃ v' w', (Instr.endRound e4.b j).run P w2 = .ok v' w' ∧ Post G ε h w (.b (exJ ex2).isNone) (h2.put k (some (.l (bif (exJ ex2).isNone then .ready else .done) (exJ ex2) N2 tm2 ps2 asg2 body2 df2))) (.returned v') w' := fun j hj => by
                    subst hj
                    obtain ⟨y1, y2⟩ := u3.write (o' := .l (bif (exJ ex2).isNone then .ready else .done) (exJ ex2) N2 tm2 ps2 asg2 body2 df2) (w' := w2.putObj e4.b (.loop { state := if (exJ ex2).isNone then .ready else .done, pending := exJ ex2, fn := fn2, tmps := tmps2, params := ps2.toArray, assign := asg2, body := body2, defers := ed2 })) ho2 r1
                      ⟨fn2, tmps2, ed2, by rw [World.putObj_heap_same hlt2]; cases (exJ ex2).isNone <;> rfl, r3, fo2, r4, r5⟩ (putObj_size _ _ _) (fun k hk => World.putObj_heap_other hk)
                    exact ⟨_, _, run_endRound _ r2, _, ε2, rfl, .b _, y1, ((s4.trans z2).trans u4).trans y2⟩
                  cases ex2 with
                  | normal => exact fin none rfl
                  | ret => exact fin (some .ret) rfl
                  | exit i => exact fin (some (.exit i)) rfl
                  | goto i => exact fin (some (.goto i)) rfl
                · cases e
              · cases e
            · cases e
          · cases e
    · cases e
  · cases e
theorem ev_R {Q : List Nat} (hQ : ∀ t ∈ Q, EqOk P t) (hN : NoNum P) {draw : Draw} (hD : DrawOk P G Q draw) : ∀ n, CallOk P G (ev P Q draw G n).call
  | 0 => fun f l h v h' e => by simp [ev] at e
  | n + 1 => by
    refine bodyS_R hN (fun N ro c F m ε h w t d a r hF hro hf hd hr e => ?_)
    exact codeS_R hQ hD (ev_R hQ hN hD n) c hF hro hf hd hr e
end Go.Ev
