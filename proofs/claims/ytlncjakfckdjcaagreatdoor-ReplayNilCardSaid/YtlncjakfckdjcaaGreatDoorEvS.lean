/-
  Slicing, building: the evaluator's and the model's. No statement.
-/
import Derived.Test.YtlncjakfckdjcaaGreatDoorEvO
import Derived.Laws.Slices
set_option linter.all false
set_option maxRecDepth 100000
namespace Go.Ev
open Go
variable {P : Program} {G : Nat} {ε : Env} {h h' : H} {w : World}
@[simp] theorem bqi {a b : Nat} : (Nat.beq a b = true) ↔ a = b := ⟨Nat.eq_of_beq_eq_true, fun e => by subst e; exact Nat.beq_refl a⟩
@[simp] theorem bqf {a b : Nat} : (Nat.beq a b = false) ↔ ¬ a = b := by rw [← Bool.not_eq_true, bqi]
inductive RO (ε : Env) : Option SV → Option Value → Prop
  | none : RO ε none none
  | some {s : SV} {v : Value} (h : R ε s v) : RO ε (some s) (some v)
theorem optd_R {t : Tr SV} {N : Nat} {a : Act} {x : Option Operand} {v : Option SV} (hf : FR ε N t a.tmps) (r : Rep G ε h w) (e : optd G t x = some v) : RO ε v (x.map a.eval) := by
  cases x with
  | none => simp [optd] at e; subst e; exact .none
  | some x =>
    simp only [optd, Option.bind_eq_some_iff, Option.some.injEq] at e
    obtain ⟨u, hu, rfl⟩ := e
    exact .some (opd_R hf r hu)
theorem bnd_R {x : SV} {y d n : Nat} {v : Value} (e : bnd (some x) y d = some n) (hx : R ε x v) : (∃ k, v = .int k (.ofNat n)) ∧ n ≤ y := by
  simp only [bnd, Option.bind_eq_some_iff] at e
  obtain ⟨m, hm, e⟩ := e
  cases hb : Nat.ble m y
  · simp [hb] at e
  · simp only [hb, cond_true, Option.some.injEq] at e
    subst e
    exact ⟨asN_R hm hx, by simpa using hb⟩
theorem run_sb (k : IntKind) {n y : Nat} (code : BoundsCode) (h : n ≤ y) (w : World) : (Instr.sliceBound (.int k (.ofNat n)) y code).run P w = .ok n w := by
  have := run_sliceBound (P := P) w k (Int.ofNat n) y code (Int.natCast_nonneg n) (Int.ofNat_le.2 h)
  simpa using this
theorem bounds_run {isS : Bool} {ln cap l hh m : Nat} {lo hi mx : Option SV} {lo' hi' mx' : Option Value} (hlo : RO ε lo lo') (hhi : RO ε hi hi') (hmx : RO ε mx mx')
    (em : mx = none ∧ m = cap ∨ ∃ d y, y ≤ cap ∧ mx ≠ none ∧ bnd mx y d = some m) (eh : hi = none ∧ hh = ln ∨ ∃ d y, y ≤ m ∧ hi ≠ none ∧ bnd hi y d = some hh) (el : bnd lo hh 0 = some l)
    (hn : mx ≠ none → hi ≠ none) (w : World) : (Instr.sliceBounds isS ln cap lo' hi' mx').run P w = .ok (l, hh, m) w := by
  have fl : ∀ c : BoundsCode, (match (generalizing := false) lo' with
    | some v => (do let l ← Instr.sliceBound v hh c; pure (l, hh, m))
    | none => (do let l ← pure 0; pure (l, hh, m)) : Sem (Nat × Nat × Nat)).run P w = .ok (l, hh, m) w := by
    intro c
    cases hlo with
    | none => simp [bnd] at el; subst el; rfl
    | some hr => obtain ⟨⟨k, rfl⟩, hle⟩ := bnd_R el hr; simp only [Sem.run_bind, run_sb k c hle w]; rfl
  cases hmx with
  | none =>
    obtain ⟨_, rfl⟩ | ⟨d, y, hy, hne, hb⟩ := em
    · cases hhi with
      | none =>
        obtain ⟨_, rfl⟩ | ⟨d, y, hy, hne, hb⟩ := eh
        · simp only [Instr.sliceBounds, Sem.run_bind, Sem.run_pure, Result.andThen_ok]
          exact fl _
        · exact absurd rfl hne
      | some hr =>
        obtain ⟨hc, _⟩ | ⟨d, y, hy, hne, hb⟩ := eh
        · cases hc
        · obtain ⟨⟨k, rfl⟩, hle⟩ := bnd_R hb hr
          simp only [Instr.sliceBounds, Sem.run_bind, Sem.run_pure, Result.andThen_ok, run_sb k _ (Nat.le_trans hle hy) w]
          exact fl _
    · exact absurd rfl hne
  | some hmr =>
    obtain ⟨hc, _⟩ | ⟨d, y, hy, hne, hb⟩ := em
    · cases hc
    · obtain ⟨⟨k, rfl⟩, hle⟩ := bnd_R hb hmr
      cases hhi with
      | none => exact absurd rfl (hn hne)
      | some hr =>
        obtain ⟨hc, _⟩ | ⟨d2, y2, hy2, hne2, hb2⟩ := eh
        · cases hc
        · obtain ⟨⟨k2, rfl⟩, hle2⟩ := bnd_R hb2 hr
          simp only [Instr.sliceBounds, Sem.run_bind, Sem.run_pure, Result.andThen_ok, run_sb k _ (Nat.le_trans hle hy) w, run_sb k2 _ (Nat.le_trans hle2 hy2) w]
          exact fl _
theorem bnd_none {y d n : Nat} (e : bnd none y d = some n) : n = d := by simp [bnd] at e; exact e.symm
theorem bnd_le {x : Option SV} {y d n : Nat} (e : bnd x y d = some n) (hd : d ≤ y) : n ≤ y := by
  cases x with
  | none => rw [bnd_none e]; exact hd
  | some x =>
    simp only [bnd, Option.bind_eq_some_iff] at e
    obtain ⟨m, hm, e⟩ := e
    cases hb : Nat.ble m y
    · simp [hb] at e
    · simp only [hb, cond_true, Option.some.injEq] at e
      subst e; simpa using hb
theorem arm {x : Option SV} {y d n c : Nat} (e : bnd x y d = some n) (hy : y ≤ c) : x = none ∧ n = d ∨ ∃ d y, y ≤ c ∧ x ≠ none ∧ bnd x y d = some n := by
  cases x with
  | none => exact .inl ⟨rfl, bnd_none e⟩
  | some x => exact .inr ⟨d, y, hy, by simp, e⟩
theorem sliceS_R (r : Rep G ε h w) {t : Nat} {x v : SV} {lo hi mx : Option SV} {x' : Value} {lo' hi' mx' : Option Value} (e : sliceS P h t x lo hi mx = some v) (hx : R ε x x')
    (hlo : RO ε lo lo') (hhi : RO ε hi hi') (hmx : RO ε mx mx') : ∃ v', (Instr.sliceAt t x' lo' hi' mx').run P w = .ok v' w ∧ R ε v v' := by
  simp only [sliceS, Option.bind_eq_some_iff] at e
  obtain ⟨d, hd, e⟩ := e
  have hu := run_underlying (P := P) (und_eq hd)
  have nn : ∀ {a b : Option SV}, (a.isSome && b.isNone) = false → a ≠ none → b ≠ none := fun {a b} he ha hb => by
    subst hb; cases a <;> simp_all
  split at e
  · rename_i n el a
    simp only [Option.bind_eq_some_iff] at e
    obtain ⟨m, hm, hh, hhh, l, hl, s, hs, e⟩ := e
    cases hc : (mx.isSome && hi.isNone)
    · simp only [hc, cond_false] at e
      cases hb : Nat.ble hh m
      · simp [hb] at e
      · simp only [hb, cond_true, Option.some.injEq] at e
        subst e
        have hb := bounds_run (P := P) (isS := false) (ln := n) (cap := n) hlo hhi hmx (arm hm (Nat.le_refl n)) (arm hhh (Nat.le_refl m)) hl (nn hc) w
        cases hx with
        | p he =>
          refine ⟨_, by simp [Instr.sliceAt, Sem.run_bind, hu, Instr.sureAddr, hb, run_size hs, add_pos]; rfl, ?_⟩
          cases hml : Nat.beq m l
          · rw [if_neg (by simpa using hml)]; exact .s _ _ he
          · rw [if_pos (by simpa using hml)]; exact .s _ _ he
    · simp [hc] at e
  · rename_i el a n c
    simp only [Option.bind_eq_some_iff] at e
    obtain ⟨m, hm, hh, hhh, l, hl, s, hs, e⟩ := e
    cases hc : (mx.isSome && hi.isNone)
    · simp only [hc, cond_false, Option.some.injEq] at e
      subst e
      have hb := bounds_run (P := P) (isS := true) (ln := n) (cap := c) hlo hhi hmx (arm hm (Nat.le_refl c)) (arm hhh (Nat.le_refl m)) hl (nn hc) w
      cases hx with
      | sn =>
        refine ⟨.slice none (hh - l) (m - l), by simp [Instr.sliceAt, Instr.slice, Sem.run_bind, hu, hb, run_size hs], ?_⟩
        cases hml : Nat.beq m l <;> exact .sn _ _
      | s ln cp he =>
        refine ⟨_, by simp [Instr.sliceAt, Instr.slice, Sem.run_bind, hu, hb, run_size hs, add_pos]; rfl, ?_⟩
        cases hml : Nat.beq m l
        · rw [if_neg (by simpa using hml)]; exact .s _ _ he
        · rw [if_pos (by simpa using hml)]; exact .s _ _ he
    · simp [hc] at e
  · rename_i el n i ln
    simp only [Option.bind_eq_some_iff] at e
    obtain ⟨s, hs, o, ho, e⟩ := e
    obtain ⟨ee, g1, g2⟩ := r.obj _ _ ho
    split at e
    · rename_i ty' s' mc cs
      cases hcc : (Nat.beq s s' && Nat.blt 0 s && Nat.ble (i + ln) (mc / s))
      · simp [hcc] at e
      · simp only [hcc, cond_true] at e
        simp only [Bool.and_eq_true, Nat.blt, Nat.ble_eq, bqi] at hcc
        obtain ⟨⟨hss, h0⟩, hln⟩ := hcc
        subst hss
        obtain ⟨arr, b1, b2, b3, b4, b5⟩ := g2
        cases hx with
        | o he =>
          rw [he] at g1; cases g1
          have hK : mc / s ≤ ee.c := by
            have h1 : mc ≤ ee.c * s := by omega
            calc mc / s ≤ ee.c * s / s := Nat.div_le_div_right h1
              _ = ee.c := Nat.mul_div_cancel _ (by omega)
          split at e
          · rename_i mv
            simp only [Option.bind_eq_some_iff] at e
            obtain ⟨m, hm, hh, hhh, l, hl, e⟩ := e
            cases hhn : hi.isNone
            · simp only [hhn, cond_false, Option.some.injEq] at e
              subst e
              have hb := bounds_run (P := P) (isS := true) (ln := ln) (cap := ee.c - i) hlo hhi hmx (.inr ⟨0, _, by omega, by simp, hm⟩) (.inr ⟨0, m, Nat.le_refl _, by intro hc; subst hc; simp at hhn, hhh⟩) hl (by intro _ hc; subst hc; simp at hhn) w
              refine ⟨_, by simp [Instr.sliceAt, Instr.slice, Sem.run_bind, hu, hb, run_size hs, add_pos]; rfl, ?_⟩
              rw [b5]
              cases hml : Nat.beq m l
              · rw [if_neg (by simpa using hml), ← Nat.add_mul]; exact .s _ _ he
              · rw [if_pos (by simpa using hml)]; exact .s _ _ he
            · simp [hhn] at e
          · cases hmx
            simp only [Option.bind_eq_some_iff] at e
            obtain ⟨hh, hhh, l, hl, e⟩ := e
            have hb := bounds_run (P := P) (isS := true) (ln := ln) (cap := ee.c - i) (m := ee.c - i) hlo hhi .none (.inl ⟨rfl, rfl⟩) (by
              cases hi with
              | none => exact .inl ⟨rfl, bnd_none hhh⟩
              | some q => exact .inr ⟨_, _, by omega, by simp, hhh⟩) hl (by simp) w
            cases hlk : Nat.blt l (mc / s - i)
            · simp only [hlk, cond_false] at e
              cases hlh : Nat.beq l hh
              · simp [hlh] at e
              · simp only [hlh, cond_true, Option.some.injEq] at e
                subst e
                have : l = hh := by simpa using hlh
                subst this
                exact ⟨.slice (if ee.c - i = l then some ⟨ee.b, i * ee.s, none⟩ else some ⟨ee.b, i * ee.s + l * s, none⟩) 0 (ee.c - i - l), by simp [Instr.sliceAt, Instr.slice, Sem.run_bind, hu, hb, run_size hs, add_pos], .z _ _⟩
            · simp only [hlk, cond_true, Option.some.injEq] at e
              subst e
              have hlt : l < mc / s - i := by simp [Nat.blt] at hlk; omega
              have hne : ¬ (ee.c - i = l) := by omega
              refine ⟨.slice (some ⟨ee.b, (i + l) * ee.s, none⟩) (hh - l) (ee.c - (i + l)), by simp [Instr.sliceAt, Instr.slice, Sem.run_bind, hu, hb, run_size hs, add_pos, hne, b5, Nat.add_mul, Nat.sub_sub], .o he⟩
    · cases e
  · cases e
/-! ### building -/
theorem setCells_list : ∀ (l : List Value) (off j : Nat) (cs : Array Value), off + j + l.length ≤ cs.size →
    ((l.zipIdx j).foldl (fun (cs : Array Value) (x : Value × Nat) => cs.setIfInBounds (off + x.2) x.1) cs).toList = cs.toList.take (off + j) ++ l ++ cs.toList.drop (off + j + l.length)
  | [], off, j, cs, _ => by simp
  | v :: l, off, j, cs, hl => by
    simp only [List.zipIdx_cons, List.foldl_cons]
    rw [setCells_list l off (j + 1) _ (by simp at hl ⊢; omega)]
    simp at hl
    simp only [Array.toList_setIfInBounds]
    rw [show off + (j + 1) = off + j + 1 by omega, List.take_succ, List.getElem?_set_self (by simpa using (by omega : off + j < cs.size)), List.take_set_of_le (Nat.le_refl _), List.drop_set_of_lt (by omega)]
    simp
    congr 1
    omega
theorem fill_R {place : Nat → Option (Nat × Nat)} : ∀ {ps : List (Nat × SV)} {ps' : List (Nat × Value)} {cells : List SV} {cells' : List Value} {l : List SV},
    fillS place cells ps = some l → ps.map (·.1) = ps'.map (·.1) → Rs ε (ps.map (·.2)) (ps'.map (·.2)) → Rs ε cells cells' → (∀ x ∈ cells', x.oneCell' = true) →
    ∃ m, Instr.fill place cells'.toArray ps' = some m.toArray ∧ Rs ε l m ∧ ∀ x ∈ m, x.oneCell' = true
  | [], ps', cells, cells', l, e, h1, h2, h3, h4 => by
    cases ps' with
    | nil => simp [fillS] at e; subst e; exact ⟨cells', by simp [Instr.fill], h3, h4⟩
    | cons x y => simp at h1
  | x :: ps, ps', cells, cells', l, e, h1, h2, h3, h4 => by
    cases ps' with
    | nil => simp at h1
    | cons y ps' =>
      simp only [fillS, Option.bind_eq_some_iff] at e
      obtain ⟨q, hq, e⟩ := e
      cases hb : (Nat.beq (len (cellsOf x.2) 0) q.2 && Nat.ble (q.1 + q.2) (len cells 0) && (cellsOf x.2).all sc)
      · simp [hb] at e
      · simp only [hb, cond_true] at e
        simp only [Bool.and_eq_true, bqi, Nat.ble_eq, len_eq, Nat.add_zero] at hb
        obtain ⟨⟨hb1, hb2⟩, hb3⟩ := hb
        simp only [List.map_cons, List.cons.injEq] at h1
        obtain ⟨h1a, h1b⟩ := h1
        cases h2 with
        | cons hr hrs =>
          have hc := hr.cells
          have hlen := hc.length
          have h3l := h3.length
          obtain ⟨i, v'⟩ := y
          simp only at h1a hr hc hlen
          subst h1a
          have hone : ∀ u ∈ v'.cells.toList, u.oneCell' = true := by
            refine hr.cells_one (fun q hq => ?_)
            rw [hq] at hb3
            simp [cellsOf, sc] at hb3
          have hnew : Rs ε (app (take q.1 cells) (app (cellsOf x.2) (drop (q.1 + q.2) cells))) (cells'.take q.1 ++ v'.cells.toList ++ cells'.drop (q.1 + v'.cells.toList.length)) := by
            rw [app_eq, app_eq, take_eq, drop_eq, List.append_assoc]
            rw [← hlen, hb1]
            exact (h3.take q.1).append (hc.append (h3.drop _))
          have hstep : Instr.fill place cells'.toArray ((x.1, v') :: ps') = Instr.fill place (cells'.take q.1 ++ v'.cells.toList ++ cells'.drop (q.1 + v'.cells.toList.length)).toArray ps' := by
            have hsz : v'.cells.size = q.2 := by rw [← hb1, hlen]; simp
            have hle : q.1 + q.2 ≤ cells'.length := by omega
            have hfold := setCells_list v'.cells.toList q.1 0 cells'.toArray (by simp [hsz]; omega)
            simp only [Nat.add_zero] at hfold
            simp only [Instr.fill, hq]
            rw [if_neg (by simp [hsz]; omega)]
            congr 1
            apply Array.ext'
            rw [← Array.foldl_toList, Array.toList_zipIdx]
            exact hfold
          obtain ⟨m, k1, k2, k3⟩ := fill_R e h1b hrs hnew (fun u hu => by
            simp only [List.mem_append] at hu
            rcases hu with (hu | hu) | hu
            · exact h4 u (List.mem_of_mem_take hu)
            · exact hone u hu
            · exact h4 u (List.mem_of_mem_drop hu))
          exact ⟨m, hstep.trans k1, k2, k3⟩
theorem parts_R {t : Tr SV} {N : Nat} {a : Act} (hf : FR ε N t a.tmps) (r : Rep G ε h w) : ∀ {l : List (Nat × Operand)} {m : List (Nat × SV)}, parts G t l = some m →
    m.map (·.1) = (l.map fun x => (x.1, a.eval x.2)).map (·.1) ∧ Rs ε (m.map (·.2)) ((l.map fun x => (x.1, a.eval x.2)).map (·.2))
  | [], m, e => by simp [parts] at e; subst e; exact ⟨rfl, .nil⟩
  | x :: l, m, e => by
    simp only [parts, Option.bind_eq_some_iff, Option.some.injEq] at e
    obtain ⟨v, hv, q, hq, rfl⟩ := e
    have ih := parts_R hf r hq
    exact ⟨by simp only [List.map_cons, ih.1], .cons (opd_R hf r hv) ih.2⟩
end Go.Ev
