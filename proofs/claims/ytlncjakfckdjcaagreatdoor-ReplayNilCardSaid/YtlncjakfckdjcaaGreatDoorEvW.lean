/-
  Drawn regions: whatever the order that is drawn. No statement.
-/
import Derived.Test.YtlncjakfckdjcaaGreatDoorEvV
set_option linter.all false
set_option maxRecDepth 100000
set_option maxHeartbeats 2000000
namespace Go.Ev
open Go
/-! ## what is checked of a region's text -/
theorem maskOf_bit {ms : List Nat} : ∀ {l : List Nat} {i : Nat}, Nat.testBit (maskOf ms l) i = true → ∃ p ∈ l, i = p ∨ ∃ m, nth ms p = some m ∧ Nat.testBit m i = true
  | [], i, e => by simp [maskOf] at e
  | p :: l, i, e => by
    have e : Nat.testBit ((2 ^ p ||| (nth ms p).getD 0) ||| maskOf ms l) i = true := e
    rw [Nat.testBit_or, Nat.testBit_or, Bool.or_eq_true, Bool.or_eq_true] at e
    rcases e with (e | e) | e
    · rw [Nat.testBit_two_pow] at e
      have e : p = i := by simpa using e
      exact ⟨p, by simp, .inl e.symm⟩
    · cases hm : nth ms p with
      | none => rw [hm] at e; simp at e
      | some m => rw [hm] at e; exact ⟨p, by simp, .inr ⟨m, hm, by simpa using e⟩⟩
    · obtain ⟨q, hq, h⟩ := maskOf_bit e
      exact ⟨q, by simp [hq], h⟩
theorem statJ_spec {A : Array Oper} {m : Nat} {oj : Oper} : ∀ {l : List Oper} {i0 : Nat}, statJ A m oj l i0 = true → ∀ {k : Nat} {o : Oper}, l[k]? = some o →
    Nat.testBit m (i0 + k) = true ∨ (o.apart A oj = true ∧ (ef oj = true → quiet o.op = true))
  | [], i0, e, k, o, hk => by simp at hk
  | x :: l, i0, e, k, o, hk => by
    simp only [statJ, Bool.and_eq_true, Bool.or_eq_true, Bool.not_eq_true'] at e
    obtain ⟨e1, e2⟩ := e
    cases k with
    | zero =>
      simp at hk; subst hk
      rcases e1 with e1 | ⟨e1, e3⟩
      · exact .inl e1
      · exact .inr ⟨e1, fun h => e3.resolve_left (by rw [h]; simp)⟩
    | succ k =>
      have := statJ_spec e2 (k := k) (by simpa using hk)
      rwa [show i0 + (k + 1) = i0 + 1 + k by omega]
theorem masks_pre : ∀ (l : List Oper) (ms : List Nat) (k : Nat), k < ms.length → (masks l ms)[k]? = ms[k]?
  | [], ms, k, h => rfl
  | o :: l, ms, k, h => by
    rw [masks, masks_pre l _ k (by rw [app_eq]; simp; omega), app_eq, List.getElem?_append_left h]
theorem masks_len : ∀ (l : List Oper) (ms : List Nat), (masks l ms).length = ms.length + l.length
  | [], ms => rfl
  | o :: l, ms => by rw [masks, masks_len l, app_eq]; simp; omega
theorem stat_spec {A : Array Oper} : ∀ {l pre : List Oper} {ms : List Nat}, stat A l pre ms = true → ms.length = pre.length → ∀ {k : Nat} {o : Oper}, l[k]? = some o →
    (∀ p ∈ preds o, p < pre.length + k) ∧ ∃ m, (masks l ms)[pre.length + k]? = some m ∧ m = maskOf ((masks l ms).take (pre.length + k)) (preds o) ∧
      ∀ {i : Nat} {oi : Oper}, (pre ++ l)[i]? = some oi → i < pre.length + k → Nat.testBit m i = true ∨ (oi.apart A o = true ∧ (ef o = true → quiet oi.op = true))
  | [], pre, ms, e, hl, k, o, hk => by simp at hk
  | x :: l, pre, ms, e, hl, k, o, hk => by
    simp only [stat, Bool.and_eq_true] at e
    obtain ⟨⟨e1, e2⟩, e3⟩ := e
    cases k with
    | zero =>
      simp at hk; subst hk
      refine ⟨fun p hp => ?_, maskOf ms (preds x), ?_, ?_, fun {i oi} hi hlt => ?_⟩
      · have := (List.all_eq_true.1 e1) p hp
        rw [len_eq] at this
        simp [Nat.blt] at this
        omega
      · rw [masks, masks_pre l _ _ (by rw [app_eq]; simp; omega), app_eq, Nat.add_zero, ← hl]
        simp
      · congr 1
        apply List.ext_getElem?
        intro q
        rw [List.getElem?_take]
        by_cases hq : q < pre.length + 0
        · rw [if_pos hq, masks, masks_pre l _ _ (by rw [app_eq]; simp; omega), app_eq, List.getElem?_append_left (by omega)]
        · rw [if_neg hq, List.getElem?_eq_none (by omega)]
      · rw [Nat.add_zero] at hlt
        rw [List.getElem?_append_left hlt] at hi
        have := statJ_spec e2 hi
        rwa [Nat.zero_add] at this
    | succ k =>
      have hk' : l[k]? = some o := by simpa using hk
      have := stat_spec e3 (by rw [app_eq, app_eq]; simp [hl]) hk'
      rw [app_eq, app_eq, List.length_append, List.length_singleton] at this
      obtain ⟨t1, m, t2, t3, t4⟩ := this
      have hm : masks (x :: l) ms = masks l (ms ++ [maskOf ms (preds x)]) := by rw [masks, app_eq]
      rw [hm, show pre.length + (k + 1) = pre.length + 1 + k by omega]
      exact ⟨t1, m, t2, t3, fun {i oi} hi hlt => t4 (by simpa using hi) hlt⟩
/-- what a mask tells is ahead, where all that must be ahead of what is listed is -/
theorem mask_sub {A : Array Oper} {all : List Oper} (hst : stat A all [] [] = true) {L : Nat → Prop} (hcl : ∀ j o, L j → all[j]? = some o → ∀ p ∈ preds o, L p) :
    ∀ (j : Nat) {o : Oper} {m : Nat}, all[j]? = some o → (masks all [])[j]? = some m → (∀ p ∈ preds o, L p) → ∀ i, Nat.testBit m i = true → L i := by
  intro j
  induction j using Nat.strongRecOn with
  | _ j ih =>
    intro o m ho hm hp i hi
    obtain ⟨t1, m', t2, t3, _⟩ := stat_spec hst rfl ho
    simp only [List.length_nil, Nat.zero_add] at t1 t2 t3
    rw [hm] at t2; cases t2
    rw [t3] at hi
    obtain ⟨p, hpm, h⟩ := maskOf_bit hi
    rcases h with rfl | ⟨m2, h1, h2⟩
    · exact hp i hpm
    · have hlt := t1 p hpm
      rw [nth_eq, List.getElem?_take, if_pos hlt] at h1
      have hpl : p < all.length := by
        have := (List.getElem?_eq_some_iff.1 h1).1
        rw [masks_len] at this; simpa using this
      exact ih p hlt (List.getElem?_eq_getElem hpl) h1 (hcl p _ (hp p hpm) (List.getElem?_eq_getElem hpl)) i h2
/-! ## the trace -/
section
variable {P : Program} {Q : List Nat} {G : Nat}
def ntl (T : List En) (tn : Tr SV) (k : Nat) : Tr SV := match T[k]? with | some e => e.t | none => tn
def nhl (T : List En) (hn : H) (k : Nat) : H := match T[k]? with | some e => e.h | none => hn
structure StepOk (P : Program) (Q : List Nat) (call : Caller) (G N : Nat) (all : List Oper) (base i : Nat) (e : En) (t' : Tr SV) (h' : H) : Prop where
  w : e.w = wantS e.t all e.o
  yes : e.w = true → opS P Q call G (bif isAlc e.o.op then base + i else e.h.nx) e.t e.h e.o.op = some (e.v, h') ∧ e.ob = bif isAlc e.o.op then h'.get (base + i) else none
  no : e.w = false → e.v = undefS ∧ h' = e.h ∧ e.ob = none
  put : putD N e.t e.o.dst e.v = some t'
theorem trace_spec {call : Caller} {N : Nat} {all : List Oper} {base : Nat} : ∀ {l : List Oper} {i : Nat} {t : Tr SV} {h : H} {T : List En} {tn : Tr SV} {hn : H}, trace P Q call G N all base l i t h = some (T, tn, hn) →
    T.length = l.length ∧ ntl T tn 0 = t ∧ nhl T hn 0 = h ∧ ∀ k e, T[k]? = some e → l[k]? = some e.o ∧ StepOk P Q call G N all base (i + k) e (ntl T tn (k + 1)) (nhl T hn (k + 1))
  | [], i, t, h, T, tn, hn, e => by
    simp only [trace, Option.some.injEq, Prod.mk.injEq] at e
    obtain ⟨rfl, rfl, rfl⟩ := e
    exact ⟨rfl, rfl, rfl, fun k e hk => by simp at hk⟩
  | o :: l, i, t, h, T, tn, hn, e => by
    simp only [trace] at e
    cases hw : wantS t all o
    · simp only [hw, cond_false, Option.bind_eq_some_iff, Option.some.injEq, Prod.mk.injEq] at e
      obtain ⟨t1, ht1, ⟨T1, tn1, hn1⟩, hq, rfl, rfl, rfl⟩ := e
      obtain ⟨a1, a2, a3, a4⟩ := trace_spec hq
      refine ⟨by simp [a1], rfl, rfl, fun k e hk => ?_⟩
      cases k with
      | zero =>
        simp at hk; subst hk
        exact ⟨rfl, ⟨hw.symm, fun h => by simp at h, fun _ => ⟨rfl, a3, rfl⟩, by show putD N t o.dst undefS = some (ntl T1 tn 0); rw [a2]; exact ht1⟩⟩
      | succ k =>
        have := a4 k e (by simpa using hk)
        rw [show i + (k + 1) = i + 1 + k by omega]
        exact ⟨by simpa using this.1, this.2⟩
    · simp only [hw, cond_true, Option.bind_eq_some_iff, Option.some.injEq, Prod.mk.injEq] at e
      obtain ⟨⟨v, h1⟩, hop, t1, ht1, ⟨T1, tn1, hn1⟩, hq, rfl, rfl, rfl⟩ := e
      obtain ⟨a1, a2, a3, a4⟩ := trace_spec hq
      refine ⟨by simp [a1], rfl, rfl, fun k e hk => ?_⟩
      cases k with
      | zero =>
        simp at hk; subst hk
        refine ⟨rfl, ⟨hw.symm, fun _ => ⟨?_, ?_⟩, fun h => by simp at h, by show putD N t o.dst v = some (ntl T1 tn 0); rw [a2]; exact ht1⟩⟩
        · show opS P Q call G (bif isAlc o.op then base + (i + 0) else h.nx) t h o.op = some (v, nhl T1 hn 0)
          rw [a3]; exact hop
        · show (bif isAlc o.op then h1.get (base + i) else none) = (bif isAlc o.op then (nhl T1 hn 0).get (base + (i + 0)) else none)
          rw [a3]; rfl
      | succ k =>
        have := a4 k e (by simpa using hk)
        rw [show i + (k + 1) = i + 1 + k by omega]
        exact ⟨by simpa using this.1, this.2⟩
theorem addP_spec {base : Nat} {p : Nat → Bool} : ∀ {T : List En} {i0 : Nat} {h : H}, (addP base p T i0 h).nx = h.nx ∧
    (∀ k e ob, T[k]? = some e → e.ob = some ob → p (i0 + k) = true → (addP base p T i0 h).get (base + (i0 + k)) = some ob) ∧
    (∀ q, (∀ k e ob, T[k]? = some e → e.ob = some ob → p (i0 + k) = true → q ≠ base + (i0 + k)) → (addP base p T i0 h).get q = h.get q)
  | [], i0, h => ⟨rfl, fun k e ob hk => by simp at hk, fun q _ => rfl⟩
  | x :: T, i0, h => by
    obtain ⟨a1, a2, a3⟩ := addP_spec (base := base) (p := p) (T := T) (i0 := i0 + 1) (h := addE base i0 (p i0) x h)
    refine ⟨?_, fun k e ob hk hob hp => ?_, fun q hq => ?_⟩
    · rw [addP, a1]
      unfold addE
      cases x.ob with
      | none => rfl
      | some o => cases p i0 <;> rfl
    · cases k with
      | zero =>
        simp at hk; subst hk
        rw [Nat.add_zero] at hp ⊢
        rw [addP, a3 _ (fun k e ob _ _ _ => by omega)]
        unfold addE
        rw [hob]
        simp only [hp, cond_true]
        rw [get_put_h, if_pos rfl]
      | succ k =>
        rw [show i0 + (k + 1) = i0 + 1 + k by omega] at hp ⊢
        exact a2 k e ob (by simpa using hk) hob hp
    · rw [addP, a3 q (fun k e ob hk hob hp => by have := hq (k + 1) e ob (by simpa using hk) hob (by rw [show i0 + (k + 1) = i0 + 1 + k by omega]; exact hp); rwa [show i0 + (k + 1) = i0 + 1 + k by omega] at this)]
      unfold addE
      cases hob : x.ob with
      | none => rfl
      | some o =>
        cases hp : p i0
        · rfl
        · have := hq 0 x o (by simp) hob hp
          show (h.put (base + i0) (some o)).get q = _
          rw [get_put_h, if_neg (by simpa using this)]
theorem allowed_of {ms : List Nat} {j m c : Nat} : ∀ {T : List En} {i0 : Nat}, (∀ k e, T[k]? = some e → ef e.o = true → (i0 + k < c → Nat.testBit ((nth ms (i0 + k)).getD 0) j = false) ∧ (¬ i0 + k < c → Nat.testBit m (i0 + k) = false)) → allowed ms j m c T i0 = true
  | [], i0, _ => rfl
  | x :: T, i0, H => by
    simp only [allowed_cons, Bool.and_eq_true, Bool.or_eq_true, Bool.not_eq_true']
    refine ⟨?_, allowed_of fun k e hk he => by have := H (k + 1) e (by simpa using hk) he; rwa [show i0 + (k + 1) = i0 + 1 + k by omega] at this⟩
    cases he : ef x.o
    · exact .inl rfl
    · obtain ⟨h1, h2⟩ := H 0 x (by simp) he
      rw [Nat.add_zero] at h1 h2
      refine .inr ?_
      cases hb : Nat.blt i0 c
      · have hnb : ¬ i0 < c := fun hc => by
          have hbt : Nat.blt i0 c = true := Nat.ble_eq_true_of_le hc
          rw [hbt] at hb; cases hb
        rw [cond_false, h2 hnb]; rfl
      · rw [cond_true, h1 (by simp [Nat.blt] at hb; omega)]; rfl
theorem chkS_spec {base : Nat} {T : List En} {hn : H} {ms : List Nat} {j : Nat} {e : En} : ∀ {l : List En} {i0 : Nat}, chkS P Q G base T hn ms j e l i0 = true → ∀ k x, l[k]? = some x → ef x.o = true → chkQ P Q G base T ms j e (i0 + k + 1) (nhl l hn (k + 1)) = true
  | [], i0, _, k, x, hk, _ => by simp at hk
  | y :: l, i0, he, k, x, hk, hx => by
    simp only [chkS_cons, Bool.and_eq_true, Bool.or_eq_true, Bool.not_eq_true'] at he
    obtain ⟨h1, h2⟩ := he
    cases k with
    | zero =>
      simp at hk; subst hk
      rcases h1 with h1 | h1
      · rw [hx] at h1; cases h1
      · cases l <;> exact h1
    | succ k =>
      have := chkS_spec h2 k x (by simpa using hk) hx
      rw [show i0 + (k + 1) + 1 = i0 + 1 + k + 1 by omega]
      exact this
theorem chkJ_spec {base : Nat} {T : List En} {h0 hn : H} {ms : List Nat} : ∀ {l : List En} {i0 : Nat}, chkJ P Q G base T h0 hn ms l i0 = true → ∀ k e, l[k]? = some e → quiet e.o.op = true → e.w = true →
    chkQ P Q G base T ms (i0 + k) e 0 h0 = true ∧ chkS P Q G base T hn ms (i0 + k) e T 0 = true
  | [], i0, _, k, x, hk, _, _ => by simp at hk
  | y :: l, i0, he, k, x, hk, hx, hw => by
    simp only [chkJ, Bool.and_eq_true, Bool.or_eq_true, Bool.not_eq_true'] at he
    obtain ⟨h1, h2⟩ := he
    cases k with
    | zero =>
      simp at hk; subst hk
      rcases h1 with (h1 | h1) | h1
      · rw [hx] at h1; cases h1
      · rw [hw] at h1; cases h1
      · exact h1
    | succ k =>
      have := chkJ_spec h2 k x (by simpa using hk) hx hw
      rwa [show i0 + (k + 1) = i0 + 1 + k by omega]
theorem noneAt_spec {base : Nat} {h : H} : ∀ {l : List En} {i0 : Nat}, noneAt base h l i0 = true → ∀ k e, l[k]? = some e → isAlc e.o.op = true → h.get (base + (i0 + k)) = none
  | [], i0, _, k, x, hk, _ => by simp at hk
  | y :: l, i0, he, k, x, hk, hx => by
    simp only [noneAt, Bool.and_eq_true, Bool.or_eq_true, Bool.not_eq_true'] at he
    obtain ⟨h1, h2⟩ := he
    cases k with
    | zero =>
      simp at hk; subst hk
      rcases h1 with h1 | h1
      · rw [hx] at h1; cases h1
      · simpa using h1
    | succ k =>
      have := noneAt_spec h2 k x (by simpa using hk) hx
      rwa [show i0 + (k + 1) = i0 + 1 + k by omega]
theorem chkN_spec {base : Nat} {hn : H} : ∀ {l : List En} {i0 : Nat}, chkN base hn l i0 = true → ∀ k x, l[k]? = some x → ef x.o = true → ∀ q e, k < q → l[q]? = some e → isAlc e.o.op = true → (nhl l hn (k + 1)).get (base + (i0 + q)) = none
  | [], i0, _, k, x, hk, _ => by simp at hk
  | y :: l, i0, he, k, x, hk, hx => by
    intro q e hq hle ha
    simp only [chkN, Bool.and_eq_true, Bool.or_eq_true, Bool.not_eq_true'] at he
    obtain ⟨h1, h2⟩ := he
    cases q with
    | zero => omega
    | succ q =>
      have hle' : l[q]? = some e := by simpa using hle
      cases k with
      | zero =>
        simp at hk; subst hk
        rcases h1 with h1 | h1
        · rw [hx] at h1; cases h1
        · have h1 : noneAt base (nhl l hn 0) l (i0 + 1) = true := by cases l <;> exact h1
          have := noneAt_spec h1 q e hle' ha
          rw [show i0 + (q + 1) = i0 + 1 + q by omega]
          exact this
      | succ k =>
        have := chkN_spec h2 k x (by simpa using hk) hx q e (by omega) hle' ha
        rw [show i0 + (q + 1) = i0 + 1 + q by omega]
        exact this
/-! ## which temporaries have what -/
def dstOf (T : List En) (j : Nat) : Option Nat := (T[j]?).bind (·.o.dst)
def vOf (T : List En) (j : Nat) : SV := match T[j]? with | some e => e.v | none => undefS
def Wr (T : List En) (t0 : Tr SV) (p : Nat → Prop) (t : Tr SV) : Prop := ∀ d, (∃ j, p j ∧ dstOf T j = some d ∧ gt t d = vOf T j ∧ ∀ j', p j' → dstOf T j' = some d → j' ≤ j) ∨ ((∀ j, p j → dstOf T j ≠ some d) ∧ gt t d = gt t0 d)
theorem Wr.eq {T : List En} {t0 t t' : Tr SV} {p q : Nat → Prop} (h : Wr T t0 p t) (h' : Wr T t0 q t') {d : Nat} (hpq : ∀ j, dstOf T j = some d → (p j ↔ q j)) : gt t d = gt t' d := by
  rcases h d with ⟨j, a1, a2, a3, a4⟩ | ⟨a1, a2⟩ <;> rcases h' d with ⟨k, b1, b2, b3, b4⟩ | ⟨b1, b2⟩
  · have h1 := a4 k ((hpq k b2).2 b1) b2
    have h2 := b4 j ((hpq j a2).1 a1) a2
    have : j = k := by omega
    subst this
    rw [a3, b3]
  · exact absurd a2 (b1 j ((hpq j a2).1 a1))
  · exact absurd b2 (a1 k ((hpq k b2).2 b1))
  · rw [a2, b2]
theorem gt_set {t : Tr SV} {d x : Nat} {v : SV} : gt (t.set d (some v)) x = if x = d then v else gt t x := by
  unfold gt
  rw [get_set]
  by_cases h : x = d
  · rw [if_pos h, if_pos h]
  · rw [if_neg h, if_neg h]
theorem Wr.put {T : List En} {t0 t t' : Tr SV} {p : Nat → Prop} (h : Wr T t0 p t) {N i : Nat} {e : En} (hi : T[i]? = some e) (hp : putD N t e.o.dst e.v = some t') (hlt : ∀ j d, p j → dstOf T j = some d → e.o.dst = some d → j < i) : Wr T t0 (fun j => p j ∨ j = i) t' := by
  have hdi : dstOf T i = e.o.dst := by simp [dstOf, hi]
  have hvi : vOf T i = e.v := by simp [vOf, hi]
  intro d
  cases hd : e.o.dst with
  | none =>
    rw [hd] at hp
    simp only [putD, Option.some.injEq] at hp
    subst hp
    rcases h d with ⟨j, a1, a2, a3, a4⟩ | ⟨a1, a2⟩
    · exact .inl ⟨j, .inl a1, a2, a3, fun j' hj' hd' => by
        rcases hj' with hj' | rfl
        · exact a4 j' hj' hd'
        · rw [hdi, hd] at hd'; cases hd'⟩
    · exact .inr ⟨fun j hj => by
        rcases hj with hj | rfl
        · exact a1 j hj
        · rw [hdi, hd]; simp, a2⟩
  | some x =>
    rw [hd] at hp
    simp only [putD] at hp
    cases hb : Nat.blt x N
    · simp only [hb, cond_false] at hp; cases hp
    · simp only [hb, cond_true, Option.some.injEq] at hp
      subst hp
      by_cases hdx : d = x
      · subst hdx
        refine .inl ⟨i, .inr rfl, by rw [hdi, hd], by rw [gt_set, if_pos rfl, hvi], fun j' hj' hd' => ?_⟩
        rcases hj' with hj' | rfl
        · exact Nat.le_of_lt (hlt j' d hj' hd' hd)
        · exact Nat.le_refl _
      · rcases h d with ⟨j, a1, a2, a3, a4⟩ | ⟨a1, a2⟩
        · exact .inl ⟨j, .inl a1, a2, by rw [gt_set, if_neg hdx, a3], fun j' hj' hd' => by
            rcases hj' with hj' | rfl
            · exact a4 j' hj' hd'
            · rw [hdi, hd] at hd'; cases hd'; exact absurd rfl hdx⟩
        · exact .inr ⟨fun j hj => by
            rcases hj with hj | rfl
            · exact a1 j hj
            · rw [hdi, hd]; intro hc; cases hc; exact hdx rfl, by rw [gt_set, if_neg hdx, a2]⟩
/-! ## sub-heaps -/
theorem Rep.sub {ε : Env} {h h' : H} {w : World} (r : Rep G ε h w) (hg : ∀ q o, h'.get q = some o → h.get q = some o) (hn : h'.nx = h.nx) : Rep G ε h' w :=
  ⟨fun n hl => r.fresh n (by omega), fun n o hq => r.obj n o (hg n o hq), fun a b qa qb ea eb ha hb h1 h2 h3 => r.inj a b qa qb ea eb (hg _ _ ha) (hg _ _ hb) h1 h2 h3, r.gl⟩
theorem FR.ext {ε : Env} {N : Nat} {t t' : Tr SV} {tmps : Array Value} (hf : FR ε N t tmps) (he : ∀ d, gt t' d = gt t d) : FR ε N t' tmps := ⟨hf.1, fun i => by rw [he]; exact hf.2 i⟩
end
end Go.Ev
