/-
  Each operation that runs no code of the program's: the evaluator's and the model's. No statement.
-/
import Derived.Test.YtlncjakfckdjcaaGreatDoorEvQ
set_option linter.all false
set_option maxRecDepth 100000
set_option maxHeartbeats 2000000
namespace Go.Ev
open Go
variable {P : Program} {G : Nat} {ε : Env} {h h' : H} {w : World}
/-- what an operation hands back -/
def Nx (ε : Env) (v : SV) (n : Next) : Prop := (∃ v', n = .value v' ∧ R ε v v') ∨ (n = .skip ∧ v = undefS)
def GoesN (m0 : Nat) (q : Bool) (P : Program) (G : Nat) (ε : Env) (h : H) (w : World) (v : SV) (h' : H) (s : Sem Next) : Prop :=
  ∃ n w' ε', s.run P w = .ok n w' ∧ Nx ε' v n ∧ Rep G ε' h' w' ∧ KpA m0 h ε w h' ε' w' ∧ (q = true → w' = w ∧ ε' = ε ∧ h' = h)
theorem GoesN.of {m0 : Nat} {v : SV} {s : Sem Value} (g : Goes P G ε h w v h' s) : GoesN m0 false P G ε h w v h' (do pure (.value (← s))) := by
  obtain ⟨v', w', ε', a, b, c, d⟩ := g
  exact ⟨.value v', w', ε', by simp [Sem.run_bind, a], .inl ⟨v', rfl, b⟩, c, d.any m0, by simp⟩
theorem GoesN.ofA {m0 : Nat} {v : SV} {s : Sem Value} (g : GoesA m0 P G ε h w v h' s) : GoesN m0 false P G ε h w v h' (do pure (.value (← s))) := by
  obtain ⟨v', w', ε', a, b, c, d⟩ := g
  exact ⟨.value v', w', ε', by simp [Sem.run_bind, a], .inl ⟨v', rfl, b⟩, c, d, by simp⟩
theorem GoesN.value {m0 : Nat} {q : Bool} (r : Rep G ε h w) {v : SV} {v' : Value} {s : Sem Value} (e : s.run P w = .ok v' w) (hv : R ε v v') : GoesN m0 q P G ε h w v h (do pure (.value (← s))) :=
  ⟨.value v', w, ε, by simp [Sem.run_bind, e], .inl ⟨v', rfl, hv⟩, r, (KpA.refl h ε w).any m0, fun _ => ⟨rfl, rfl, rfl⟩⟩
theorem pureO_eq {r : Option SV} {h h' : H} {v : SV} (e : pureO r h = some (v, h')) : r = some v ∧ h = h' := by
  simp only [pureO, Option.bind_eq_some_iff, Option.some.injEq, Prod.mk.injEq] at e
  obtain ⟨u, hu, rfl, rfl⟩ := e
  exact ⟨hu, rfl⟩
theorem isA_eq {z : SV} (e : (sc z || op1.isA z) = true) : ∀ l, z ≠ .t l := fun l hl => by subst hl; simp [sc, op1.isA] at e
theorem mapA {α β : Type} (f : α → β) (ps : Array α) : ps.map f = (ps.toList.map f).toArray := by apply Array.ext'; simp
theorem op1_R {Q : List Nat} (hQ : ∀ t ∈ Q, EqOk P t) {N : Nat} {t : Tr SV} {a : Act} {o : Oper} {v : SV} (hf : FR ε N t a.tmps) (r : Rep G ε h w) {m0 : Nat} (hm0 : ε m0 = none) (hle : m0 ≤ h.nx) (e : op1 P Q G m0 t h o.op = some (v, h')) :
    GoesN m0 (quiet o.op) P G ε h w v h' (execOp a.eval o) := by
  obtain ⟨dst, op, type, pos, after, guard⟩ := o
  simp only at e
  unfold execOp
  cases op <;> simp only [op1, reduceCtorEq] at e
  case move x => obtain ⟨e1, hh⟩ := pureO_eq e; clear e; subst hh; have e := e1; clear e1; exact ⟨_, w, ε, rfl, .inl ⟨_, rfl, opd_R hf r e⟩, r, (KpA.refl h ε w).any m0, fun _ => ⟨rfl, rfl, rfl⟩⟩
  case assign x => obtain ⟨e1, hh⟩ := pureO_eq e; clear e; subst hh; have e := e1; clear e1; exact ⟨_, w, ε, rfl, .inl ⟨_, rfl, opd_R hf r e⟩, r, (KpA.refl h ε w).any m0, fun _ => ⟨rfl, rfl, rfl⟩⟩
  case pick c x y =>
    simp only [Option.bind_eq_some_iff] at e
    obtain ⟨u, hu, b, hb, e⟩ := e
    obtain ⟨e1, hh⟩ := pureO_eq e; clear e; subst hh; have e := e1; clear e1
    have hc := asB_R hb (opd_R hf r hu)
    simp only [hc]
    refine ⟨.value (a.eval (bif b then x else y)), w, ε, ?_, .inl ⟨_, rfl, opd_R hf r e⟩, r, (KpA.refl h ε w).any m0, fun _ => ⟨rfl, rfl, rfl⟩⟩
    cases b <;> simp [asBool, Sem.run_bind]
  case binOp op xt x y yt =>
    simp only [Option.bind_eq_some_iff] at e
    obtain ⟨u, hu, z, hz, e⟩ := e
    obtain ⟨e1, hh⟩ := pureO_eq e; clear e; subst hh; have e := e1; clear e1
    obtain ⟨v', h1, h2, h3⟩ := bop_R hQ e (opd_R hf r hu) (opd_R hf r hz) w
    exact GoesN.value r (by simp [Sem.run_bind, h3 x y, h1]) h2
  case unOp op t x =>
    simp only [Option.bind_eq_some_iff] at e
    obtain ⟨u, hu, e⟩ := e
    obtain ⟨e1, hh⟩ := pureO_eq e; clear e; subst hh; have e := e1; clear e1
    obtain ⟨v', h1, h2⟩ := uop_R (P := P) e (opd_R hf r hu) w
    exact GoesN.value r h1 h2
  case load ty x =>
    simp only [Option.bind_eq_some_iff] at e
    obtain ⟨u, hu, ad, had, e⟩ := e
    obtain ⟨e1, hh⟩ := pureO_eq e; clear e; subst hh; have e := e1; clear e1
    obtain ⟨ee, h1, h2⟩ := asP_R had (opd_R hf r hu)
    obtain ⟨v', h3, h4⟩ := loadT_R r e h1
    exact GoesN.value r (by simp [h2, Instr.loadAt, Instr.sureAddr, Sem.run_bind, h3]) h4
  case store ty x y =>
    simp only [Option.bind_eq_some_iff, Option.some.injEq, Prod.mk.injEq] at e
    obtain ⟨u, hu, ad, had, z, hz, h2, hst, rfl, rfl⟩ := e
    obtain ⟨ee, h1, h3⟩ := asP_R had (opd_R hf r hu)
    obtain ⟨w', k1, k2, k3⟩ := storeT_R r hst (opd_R hf r hz) h1
    exact ⟨.skip, w', ε, by simp [h3, Instr.storeAt, Instr.sureAddr, Sem.run_bind, k1], .inr ⟨rfl, rfl⟩, k2, k3.any m0, by simp [quiet]⟩
  case nilCheck x =>
    simp only [Option.bind_eq_some_iff] at e
    obtain ⟨u, hu, e⟩ := e
    obtain ⟨e1, hh⟩ := pureO_eq e; clear e; subst hh; have e := e1; clear e1
    have hr := opd_R hf r hu
    unfold nilC at e
    split at e
    · cases e
    · cases e
    · cases e
    · cases e
    · rename_i u' n1 n2 n3 n4
      cases e
      refine ⟨.value (a.eval x), w, ε, ?_, .inl ⟨_, rfl, hr⟩, r, (KpA.refl h ε w).any m0, fun _ => ⟨rfl, rfl, rfl⟩⟩
      obtain ⟨q, hq⟩ : ∃ q, a.eval x = q := ⟨_, rfl⟩
      rw [hq] at hr
      cases hr <;> first | exact absurd rfl n1 | exact absurd rfl n2 | exact absurd rfl (n3 _) | exact absurd rfl (n4 _) | simp [hq]
  case convert s d x =>
    simp only [Option.bind_eq_some_iff] at e
    obtain ⟨u, hu, ds, hds, e⟩ := e
    obtain ⟨e1, hh⟩ := pureO_eq e; clear e; subst hh; have e := e1; clear e1
    obtain ⟨v', h1, h2⟩ := conv_R hds e (opd_R hf r hu) w
    exact GoesN.value r h1 h2
  case fieldAddr s x f =>
    simp only [Option.bind_eq_some_iff] at e
    obtain ⟨u, hu, ad, had, fd, hfd, n, hn, e⟩ := e
    cases hp : Nat.blt 0 n
    · simp only [hp, cond_false] at e; cases e
    simp only [hp, cond_true, Option.some.injEq, Prod.mk.injEq] at e
    obtain ⟨rfl, rfl⟩ := e
    obtain ⟨ee, h1, h2⟩ := asP_R had (opd_R hf r hu)
    exact GoesN.value r (by rw [h2]; exact fieldAt_run hfd hn hp ee.b ad.2 w) (.p h1)
  case field s x f =>
    simp only [Option.bind_eq_some_iff] at e
    obtain ⟨u, hu, l, hl, fd, hfd, e⟩ := e
    obtain ⟨e1, hh⟩ := pureO_eq e; clear e; subst hh; have e := e1; clear e1
    obtain ⟨m, hm, h1, h2⟩ := asA_R hl (opd_R hf r hu)
    obtain ⟨v', h3, h4⟩ := field_R hfd e h1 h2 w
    exact GoesN.value r (by rw [hm]; exact h3) h4
  case indexAddr ty x ix =>
    simp only [Option.bind_eq_some_iff] at e
    obtain ⟨u, hu, z, hz, i, hi, e⟩ := e
    obtain ⟨e1, hh⟩ := pureO_eq e; clear e; subst hh; have e := e1; clear e1
    obtain ⟨k, hk⟩ := asN_R hi (opd_R hf r hz)
    obtain ⟨v', h1, h2⟩ := idxA_R (k := k) r e (opd_R hf r hu)
    exact GoesN.value r (by rw [hk]; exact h1) h2
  case index ty x ix =>
    simp only [Option.bind_eq_some_iff] at e
    obtain ⟨u, hu, l, hl, z, hz, i, hi, e⟩ := e
    obtain ⟨e1, hh⟩ := pureO_eq e; clear e; subst hh; have e := e1; clear e1
    obtain ⟨k, hk⟩ := asN_R hi (opd_R hf r hz)
    obtain ⟨m, hm, h1, h2⟩ := asA_R hl (opd_R hf r hu)
    obtain ⟨v', h3, h4⟩ := idxV_R (k := k) e h1 h2 w
    exact GoesN.value r (by rw [hm, hk]; exact h3) h4
  case extract x n =>
    simp only [Option.bind_eq_some_iff] at e
    obtain ⟨u, hu, l, hl, e⟩ := e
    obtain ⟨e1, hh⟩ := pureO_eq e; clear e; subst hh; have e := e1; clear e1
    obtain ⟨m, hm, h1⟩ := asT_R hl (opd_R hf r hu)
    rw [nth_eq] at e
    obtain ⟨y, hy, hr⟩ := h1.get n e
    exact GoesN.value r (by rw [hm]; simp [Instr.extract, hy]) hr
  case alloc ty =>
    simp only [Option.bind_eq_some_iff] at e
    obtain ⟨z, hz, e⟩ := e
    cases hc : (sc z || op1.isA z)
    · simp only [hc, cond_false] at e; cases e
    simp only [hc, cond_true, Option.some.injEq, Prod.mk.injEq] at e
    obtain ⟨rfl, rfl⟩ := e
    obtain ⟨zv, h1, h2⟩ := zero_run (ε := ε) hz w
    obtain ⟨k1, k2⟩ := box_R (e := ty) r hm0 hle h2 (isA_eq hc)
    refine GoesN.ofA ⟨_, _, _, ?_, .p (Env.add_at ε m0 ⟨w.heap.size, 0, 0⟩), k1, k2⟩
    simp [Instr.alloc, Sem.run_bind, h1, newVar, newRow]
  case box ty x =>
    simp only [Option.bind_eq_some_iff] at e
    obtain ⟨z, hz, e⟩ := e
    cases hc : (sc z || op1.isA z)
    · simp only [hc, cond_false] at e; cases e
    simp only [hc, cond_true, Option.some.injEq, Prod.mk.injEq] at e
    obtain ⟨rfl, rfl⟩ := e
    obtain ⟨k1, k2⟩ := box_R (e := ty) r hm0 hle (opd_R hf r hz) (isA_eq hc)
    refine GoesN.ofA ⟨_, _, _, ?_, .p (Env.add_at ε m0 ⟨w.heap.size, 0, 0⟩), k1, k2⟩
    simp [Instr.box, Sem.run_bind, newVar, newRow]
  case build ty ps =>
    simp only [Option.bind_eq_some_iff] at e
    obtain ⟨l, hl, e⟩ := e
    obtain ⟨e1, hh⟩ := pureO_eq e; clear e; subst hh; have e := e1; clear e1
    obtain ⟨h1, h2⟩ := parts_R hf r hl
    obtain ⟨v', h3, h4⟩ := buildS_R e h1 h2 w
    refine GoesN.value r ?_ h4
    rw [← h3, mapA]
  case buildSlice ty n ps =>
    simp only [Option.bind_eq_some_iff] at e
    obtain ⟨d, hd, el, hel, l, hl, s, hs, z, hz, e⟩ := e
    have := asSl_eq hel; subst this
    cases hc : (Nat.beq (len (cellsOf z) 0) s && Nat.ble (n * s) 16777216 && (cellsOf z).all sc)
    · simp only [hc, cond_false] at e; cases e
    simp only [hc, cond_true, Option.bind_eq_some_iff, Option.some.injEq, Prod.mk.injEq] at e
    obtain ⟨cs, hcs, rfl, rfl⟩ := e
    rw [Bool.and_eq_true, Bool.and_eq_true, bqi, Nat.ble_eq, len_eq, Nat.add_zero] at hc
    obtain ⟨⟨c1, c2⟩, c3⟩ := hc
    obtain ⟨h1, h2⟩ := parts_R hf r hl
    have := buildSlice_R r hm0 hle hd hs hz c1 c2 c3 hcs h1 h2
    refine GoesN.ofA ?_
    have he : (ps.map fun (i, x) => (i, a.eval x)) = (ps.toList.map fun x => (x.1, a.eval x.2)).toArray := mapA _ _
    rw [he]; exact this
  case makeSlice ty x y =>
    simp only [Option.bind_eq_some_iff] at e
    obtain ⟨d, hd, el, hel, u, hu, q, hq, n, hn, c, hc0, i, hi, zv, hzv, z, hz, e⟩ := e
    have := asSl_eq hel; subst this
    cases hc : (Nat.ble n c && Nat.ble c GREAT && Nat.ble i.bytes GREAT && Nat.beq (len (cellsOf z) 0) i.size && (cellsOf z).all sc)
    · simp only [hc, cond_false] at e; cases e
    simp only [hc, cond_true, Option.some.injEq, Prod.mk.injEq] at e
    obtain ⟨rfl, rfl⟩ := e
    rw [Bool.and_eq_true, Bool.and_eq_true, Bool.and_eq_true, Bool.and_eq_true, bqi, Nat.ble_eq, Nat.ble_eq, Nat.ble_eq, len_eq, Nat.add_zero] at hc
    obtain ⟨⟨⟨⟨c1, c2⟩, c3⟩, c4⟩, c5⟩ := hc
    obtain ⟨k1, hk1⟩ := asN_R hn (opd_R hf r hu)
    obtain ⟨k2, hk2⟩ := asN_R hc0 (opd_R hf r hq)
    have := makeSlice_R (kl := k1) (kc := k2) r hm0 hle hd hi hzv hz c1 c2 c3 c4 c5
    refine GoesN.ofA ?_
    rw [hk1, hk2]; exact this
  case slice ty x lo hi mx =>
    simp only [Option.bind_eq_some_iff] at e
    obtain ⟨u, hu, l, hl, hh, hhh, m, hm, e⟩ := e
    obtain ⟨e1, hh⟩ := pureO_eq e; clear e; subst hh; have e := e1; clear e1
    obtain ⟨v', h1, h2⟩ := sliceS_R r e (opd_R hf r hu) (optd_R hf r hl) (optd_R hf r hhh) (optd_R hf r hm)
    exact GoesN.value r h1 h2
  case makeFunc fn fs cs =>
    cases fn <;> simp only [op1, reduceCtorEq] at e
    rename_i f
    simp only [Option.bind_eq_some_iff, Option.some.injEq, Prod.mk.injEq] at e
    obtain ⟨k, hk, l, hl, rfl, rfl⟩ := e
    have h1 := opds_R hf r hk
    have h2 := opds_R hf r hl
    refine GoesN.value (v' := .func (.func f) (fs.map a.eval) (cs.map a.eval)) r rfl ?_
    have := R.f (fn := f) h1 h2
    rw [mapA, mapA]; exact this
  case call c =>
    split at e
    · rename_i b hb
      simp only [Option.bind_eq_some_iff] at e
      obtain ⟨l, hl, e⟩ := e
      have hrs := opds_R hf r hl
      have hres : (resolve a.eval c type).run P w = .ok { target := .builtin b c.argTypes type (c.args.map fun | .const _ => true | _ => false), args := c.args.map a.eval } w := by
        unfold resolve; simp only [hb]; rfl
      have hargs : c.args.map a.eval = (c.args.toList.map a.eval).toArray := mapA _ _
      have hts : c.argTypes = c.argTypes.toList.toArray := by simp
      have inv : ∀ (qq : Bool) (q : Sem Value), GoesN m0 qq P G ε h w v h' (do pure (.value (← q))) → (builtin b c.argTypes type (c.args.map fun | .const _ => true | _ => false) (c.args.map a.eval)).run P w = (do pure (.value (← q)) : Sem Next).run P w → GoesN m0 qq P G ε h w v h' (do let d ← resolve a.eval c type; invoke d.target d.args) := fun qq q hq heq => by
        obtain ⟨n, w', ε', a1, a2, a3, a4, a5⟩ := hq
        refine ⟨n, w', ε', ?_, a2, a3, a4, a5⟩
        simp only [Sem.run_bind, hres, Result.andThen_ok, invoke]
        rw [heq, a1]
      rw [hargs, hts] at inv
      generalize c.args.toList.map a.eval = m at hrs inv
      unfold bltn at e
      split at e
      · rename_i x
        split at e
        · rename_i t1 hts1
          simp only [Option.bind_eq_some_iff, Option.some.injEq, Prod.mk.injEq] at e
          obtain ⟨n, hn, rfl, rfl⟩ := e
          cases hrs with
          | cons h1 h2 => cases h2; exact inv _ _ (GoesN.value r (lenS_R (tyr := type) hn h1 w) (.i _ _)) (by simp only [builtin, hts1])
        · cases e
      · rename_i x y
        cases hrs with
        | cons h1 h2 => cases h2 with
          | cons h2 h3 =>
            cases h3
            have hqf : quiet (Op.call c) = false := by simp [quiet, hb]
            simp only [hqf]
            exact inv _ _ (.of (appS_R (tyr := type) r e h1 h2)) (by simp only [builtin])
      · rename_i x y
        cases hrs with
        | cons h1 h2 => cases h2 with
          | cons h2 h3 =>
            cases h3
            have hqf : quiet (Op.call c) = false := by simp [quiet, hb]
            simp only [hqf]
            exact inv _ _ (.of (copyS_R (tyr := type) r e h1 h2)) (by simp only [builtin])
      · rename_i x
        cases hrs with
        | cons h1 h2 =>
            cases h2
            have hqf : quiet (Op.call c) = false := by simp [quiet, hb]
            simp only [hqf]
            exact inv _ _ (.of (clearS_R (tyr := type) r e h1)) (by simp only [builtin])
      · rename_i x y
        obtain ⟨e1, hh⟩ := pureO_eq e; clear e; subst hh; have e := e1; clear e1
        cases hrs with
        | cons h1 h2 => cases h2 with
          | cons h2 h3 =>
            cases h3
            obtain ⟨v', k1, k2⟩ := mm_R (P := P) e h1 h2 w
            exact inv _ _ (GoesN.value r k1 k2) (by simp [builtin, Builtin.min_])
      · rename_i x y
        obtain ⟨e1, hh⟩ := pureO_eq e; clear e; subst hh; have e := e1; clear e1
        cases hrs with
        | cons h1 h2 => cases h2 with
          | cons h2 h3 =>
            cases h3
            obtain ⟨v', k1, k2⟩ := mm_R (P := P) e h1 h2 w
            exact inv _ _ (GoesN.value r k1 k2) (by simp [builtin, Builtin.max_])
      · cases e
    · cases e
end Go.Ev
