/-
  Drawn regions: each operation, whenever its turn comes. No statement.
-/
import Derived.Test.YtlncjakfckdjcaaGreatDoorEvY
set_option linter.all false
set_option maxRecDepth 100000
set_option maxHeartbeats 4000000
namespace Go.Ev
open Go
section
variable {P : Program} {Q : List Nat} {G : Nat} {call : Caller} {N base : Nat} {ops : Array Oper} {h0 hn : H} {t0 tn : Tr SV} {T : List En}
variable {ε0 : Env} {h00 : H} {w0 : World} {a0 : Act} {L : Nat → Prop} {a : Act} {w : World} {c : Nat} {ε : Env} {tS : Tr SV} {hS : H}
theorem putD_ex {N : Nat} {t t' : Tr SV} {d : Option Nat} {v : SV} (h : putD N t d v = some t') (t2 : Tr SV) (v2 : SV) : ∃ t3, putD N t2 d v2 = some t3 := by
  cases d with
  | none => exact ⟨t2, rfl⟩
  | some d =>
    simp only [putD] at h ⊢
    cases hb : Nat.blt d N
    · rw [hb] at h; cases h
    · exact ⟨_, rfl⟩
theorem wantS_congr {t t' : Tr SV} {o : Oper} (H : ∀ d ∈ o.looksAt ops, gt t d = gt t' d) : wantS t ops.toList o = wantS t' ops.toList o := by
  unfold wantS
  cases hg : o.guard with
  | none => rfl
  | some jb =>
    obtain ⟨j, b⟩ := jb
    simp only [nth_eq]
    cases hj : ops.toList[j]? with
    | none => rfl
    | some q =>
      cases hd : q.dst with
      | none => simp only [hd]
      | some d =>
        simp only [hd]
        have hj' : ops[j]? = some q := by simpa using hj
        rw [H d (by unfold Oper.looksAt; rw [hg]; simp [hj', hd])]
theorem looks_op {o : Oper} {x : Operand} (hx : x ∈ o.op.operands) {d : Nat} (hd : x = .tmp d) : d ∈ o.looksAt ops := by
  unfold Oper.looksAt
  refine List.mem_append.2 (.inl (List.mem_filterMap.2 ⟨x, by simpa using hx, by rw [hd]⟩))
/-- where an operation's turn has come -/
structure Turn (L : Nat → Prop) (T : List En) (i : Nat) (e : En) : Prop where
  at_ : T[i]? = some e
  no : ¬ L i
  pre : ∀ p ∈ preds e.o, L p
theorem Inv.gtEq (I : Inv G ε0 h00 w0 a0 N ops base hn t0 T L a w c ε tS hS) (D : Dr P Q G call N ops base h0 hn t0 tn T) {i : Nat} {e : En} (U : Turn L T i e) : ∀ d ∈ e.o.looksAt ops, gt tS d = gt e.t d := by
  intro d hd
  have hlt := (List.getElem?_eq_some_iff.1 U.at_).1
  have hw := D.wr i (by omega)
  rw [ntl_at U.at_] at hw
  refine I.wr.eq hw fun j hj => ?_
  have hej : ∃ ej, T[j]? = some ej ∧ ej.o.dst = some d := by
    unfold dstOf at hj
    simp only [Option.bind_eq_some_iff] at hj
    exact hj
  obtain ⟨ej, h1, h2⟩ := hej
  rcases Nat.lt_trichotomy j i with h | rfl | h
  · refine ⟨fun _ => h, fun _ => ?_⟩
    rcases I.ahead D h1 U.at_ h U.pre with h3 | ⟨h3, _⟩
    · exact h3
    · exact absurd hd ((Oper.apart_spec h3).1 d h2)
  · exact ⟨fun h => absurd h U.no, fun h => by omega⟩
  · refine ⟨fun hL => ?_, fun h' => by omega⟩
    rcases I.ahead D U.at_ h1 h (I.closed j _ hL (D.step j ej h1).1) with h3 | ⟨h3, _⟩
    · exact absurd h3 U.no
    · exact absurd hd ((Oper.apart_spec h3).2.2 d h2)
theorem Inv.wrPut (I : Inv G ε0 h00 w0 a0 N ops base hn t0 T L a w c ε tS hS) (D : Dr P Q G call N ops base h0 hn t0 tn T) {i : Nat} {e : En} (U : Turn L T i e) {t' : Tr SV} (hp : putD N tS e.o.dst e.v = some t') : Wr T t0 (fun j => L j ∨ j = i) t' := by
  refine I.wr.put U.at_ hp fun j d hL hj hd => ?_
  have hej : ∃ ej, T[j]? = some ej ∧ ej.o.dst = some d := by
    unfold dstOf at hj
    simp only [Option.bind_eq_some_iff] at hj
    exact hj
  obtain ⟨ej, h1, h2⟩ := hej
  rcases Nat.lt_trichotomy j i with h | rfl | h
  · exact h
  · exact absurd hL U.no
  · rcases I.ahead D U.at_ h1 h (I.closed j _ hL (D.step j ej h1).1) with h3 | ⟨h3, _⟩
    · exact absurd h3 U.no
    · exact absurd h2 ((Oper.apart_spec h3).2.1 d hd)
theorem Inv.closed' (I : Inv G ε0 h00 w0 a0 N ops base hn t0 T L a w c ε tS hS) (D : Dr P Q G call N ops base h0 hn t0 tn T) {i : Nat} {e : En} (U : Turn L T i e) : ∀ j o, (L j ∨ j = i) → ops.toList[j]? = some o → ∀ p ∈ preds o, L p ∨ p = i := by
  rintro j o (h | rfl) ho p hp
  · exact .inl (I.closed j o h ho p hp)
  · have := (D.step j e U.at_).1
    rw [this] at ho; cases ho
    exact .inl (U.pre p hp)
/-- an operation without an effect -/
theorem Inv.plain (I : Inv G ε0 h00 w0 a0 N ops base hn t0 T L a w c ε tS hS) (D : Dr P Q G call N ops base h0 hn t0 tn T) {i : Nat} {e : En} (U : Turn L T i e) (hef : ef e.o = false) (hob : e.ob = none) (hal : isAlc e.o.op = true → e.w = false)
    {v' : Value} (hv : R ε e.v v') : ∃ tS', Inv G ε0 h00 w0 a0 N ops base hn t0 T (fun j => L j ∨ j = i) (a.put e.o.dst v') w c ε tS' hS := by
  obtain ⟨t', ht'⟩ := putD_ex (D.step i e U.at_).2.put tS e.v
  have hlt := (List.getElem?_eq_some_iff.1 U.at_).1
  refine ⟨t', ⟨I.closed' D U, fun j hj => hj.elim (I.lt j) (fun h => by omega), I.cle, fun j ej hj he => ?_, I.prev, I.wrPut D U ht', I.fr.put ht' hv, by rw [← I.df]; cases e.o.dst <;> rfl, I.nxb, I.hnx, fun k ek ob hk hb hL hc => ?_, fun q hq => ?_, I.rp, fun k ek hk ha hL => I.i5 k ek hk ha (fun h => hL (.inl h)), I.kp⟩⟩
  · have hji : j ≠ i := fun h => by subst h; rw [U.at_] at hj; cases hj; rw [hef] at he; cases he
    rw [← I.st j ej hj he]
    exact ⟨fun h => h.resolve_right hji, .inl⟩
  · rcases hL with hL | rfl
    · exact I.hs1 k ek ob hk hb hL hc
    · rw [U.at_] at hk; cases hk; rw [hob] at hb; cases hb
  · exact I.hs2 q fun k ek ob hk hb hL hc => hq k ek ob hk hb (.inl hL) hc
/-- where an operation with an effect has its turn -/
theorem Inv.atEf (I : Inv G ε0 h00 w0 a0 N ops base hn t0 T L a w c ε tS hS) (D : Dr P Q G call N ops base h0 hn t0 tn T) {i : Nat} {e : En} (U : Turn L T i e) (hef : ef e.o = true) :
    c ≤ i ∧ hS.nx = e.h.nx ∧ (∀ q, (∀ k ek ob, T[k]? = some ek → ek.ob = some ob → L k → i < k → q ≠ base + k) → hS.get q = e.h.get q) ∧ (∀ k ek, T[k]? = some ek → isAlc ek.o.op = true → i ≤ k → e.h.get (base + k) = none) := by
  have hci : c ≤ i := Nat.le_of_not_lt fun h => U.no ((I.st i e U.at_ hef).2 h)
  have hlt := (List.getElem?_eq_some_iff.1 U.at_).1
  have hprev : ∀ k ek, T[k]? = some ek → k < i → quiet ek.o.op = false → L k := fun k ek hk hki hq => by
    rcases I.ahead D hk U.at_ hki U.pre with h | ⟨_, h⟩
    · exact h
    · rw [h hef] at hq; cases hq
  have hne : ∀ k ek, c ≤ k → k < c + (i - c) → T[k]? = some ek → ef ek.o = false := fun k ek h1 h2 h3 => by
    cases he : ef ek.o
    · rfl
    · have := hprev k ek h3 (by omega) (by simp [ef] at he; exact he.1)
      have := (I.st k ek h3 he).1 this; omega
  obtain ⟨b1, b2, b3⟩ := D.between I.nxb (i - c) (by omega) hne
  rw [show c + (i - c) = i by omega, nhl_at U.at_] at b1 b2 b3
  refine ⟨hci, by rw [I.hnx, b1], fun q hq => ?_, fun k ek hk ha hik => ?_⟩
  · by_cases hqk : ∃ k ek ob, T[k]? = some ek ∧ ek.ob = some ob ∧ c ≤ k ∧ k < i ∧ q = base + k
    · obtain ⟨k, ek, ob, h1, h2, h3, h4, rfl⟩ := hqk
      have ha := (ob_alc D h1 h2).1
      have hL := hprev k ek h1 h4 (by cases ho : ek.o.op <;> rw [ho] at ha <;> simp only [isAlc, Bool.false_eq_true] at ha <;> rfl)
      rw [I.hs1 k ek ob h1 h2 hL h3, b2 k ek ob h1 h2 h3 h4]
    · rw [b3 q fun k ek ob x1 x2 x3 x4 x5 => hqk ⟨k, ek, ob, x1, x2, x3, x4, x5⟩, I.hs2 q fun k ek ob x1 x2 x3 x4 x5 => ?_]
      rcases Nat.lt_trichotomy k i with h | rfl | h
      · exact hqk ⟨k, ek, ob, x1, x2, x4, h, x5⟩
      · exact U.no x3
      · exact hq k ek ob x1 x2 x3 h x5
  · rw [b3 (base + k) fun k' ek' ob x1 x2 x3 x4 x5 => by omega]
    exact I.nobody D hk ha (by omega)
theorem Inv.skipEf (I : Inv G ε0 h00 w0 a0 N ops base hn t0 T L a w c ε tS hS) (D : Dr P Q G call N ops base h0 hn t0 tn T) {i : Nat} {e : En} (U : Turn L T i e) (hef : ef e.o = true) (hw : e.w = false) :
    ∃ tS', Inv G ε0 h00 w0 a0 N ops base hn t0 T (fun j => L j ∨ j = i) (a.put e.o.dst undef) w (i + 1) ε tS' hS := by
  obtain ⟨hv, hh, hob⟩ := (D.step i e U.at_).2.no hw
  obtain ⟨t', ht'⟩ := putD_ex (D.step i e U.at_).2.put tS e.v
  have hlt := (List.getElem?_eq_some_iff.1 U.at_).1
  obtain ⟨hci, e1, e2, e3⟩ := I.atEf D U hef
  refine ⟨t', ⟨I.closed' D U, fun j hj => hj.elim (I.lt j) (fun h => by omega), by omega, fun j ej hj he => ?_, .inr ⟨i, e, rfl, U.at_, hef⟩, I.wrPut D U ht', I.fr.put ht' (by rw [hv]; exact undef_R ε), by rw [← I.df]; cases e.o.dst <;> rfl, ?_, by rw [hh]; exact e1, fun k ek ob hk hb hL hc => ?_, fun q hq => ?_, I.rp, fun k ek hk ha hL => I.i5 k ek hk ha (fun h => hL (.inl h)), I.kp⟩⟩
  · rcases Nat.lt_trichotomy j i with h | rfl | h
    · refine ⟨fun _ => by omega, fun _ => .inl ?_⟩
      rcases I.ahead D hj U.at_ h U.pre with h3 | ⟨_, h3⟩
      · exact h3
      · have := h3 hef; simp [ef, this] at he
    · exact ⟨fun _ => by omega, fun _ => .inr rfl⟩
    · refine ⟨fun hL => ?_, fun h' => by omega⟩
      rcases hL with hL | rfl
      · have := (I.st j ej hj he).1 hL; omega
      · omega
  · rw [hh, ← e1, I.hnx]; exact I.nxb
  · rcases hL with hL | rfl
    · exact I.hs1 k ek ob hk hb hL (by omega)
    · omega
  · rw [hh]
    exact e2 q fun k ek ob hk hb hL hik => hq k ek ob hk hb (.inl hL) (by omega)
theorem Inv.makes (I : Inv G ε0 h00 w0 a0 N ops base hn t0 T L a w c ε tS hS) (D : Dr P Q G call N ops base h0 hn t0 tn T) (hb0 : h00.nx = base) {i : Nat} {e : En} (U : Turn L T i e) (hal : isAlc e.o.op = true) {ob : SO} (hob : e.ob = some ob)
    {v' : Value} {ε' : Env} {w' : World} (hv : R ε' e.v v') (hr : Rep G ε' (hS.addA (base + i) ob) w') (hk : KpA (base + i) hS ε w (hS.addA (base + i) ob) ε' w') :
    ∃ tS', Inv G ε0 h00 w0 a0 N ops base hn t0 T (fun j => L j ∨ j = i) (a.put e.o.dst v') w' c ε' tS' (hS.addA (base + i) ob) := by
  obtain ⟨t', ht'⟩ := putD_ex (D.step i e U.at_).2.put tS e.v
  have hlt := (List.getElem?_eq_some_iff.1 U.at_).1
  have hef : ef e.o = false := by simp [ef, hal]
  have hnq : quiet e.o.op = false := by cases ho : e.o.op <;> rw [ho] at hal <;> simp only [isAlc, Bool.false_eq_true] at hal <;> rfl
  have hci : c ≤ i := by
    rcases I.prev with h | ⟨k, x, h, hk', hx⟩
    · omega
    · have hLk : L k := (I.st k x hk' hx).2 (by omega)
      rcases Nat.lt_trichotomy i k with h' | rfl | h'
      · rcases I.ahead D U.at_ hk' h' (I.closed k _ hLk (D.step k x hk').1) with h3 | ⟨_, h3⟩
        · exact absurd h3 U.no
        · rw [h3 hx] at hnq; cases hnq
      · exact absurd hLk U.no
      · omega
  have hnx := I.nxb
  have hnx' : (hS.addA (base + i) ob).nx = hS.nx := by
    show (bif Nat.beq _ _ then _ else _) = _
    rw [(bqf.2 (by rw [I.hnx]; omega) : Nat.beq (base + i) hS.nx = false)]
    rfl
  refine ⟨t', ⟨I.closed' D U, fun j hj => hj.elim (I.lt j) (fun h => by omega), I.cle, fun j ej hj he => ?_, I.prev, I.wrPut D U ht', (I.fr.mono hk.ext).put ht' hv, by rw [← I.df]; cases e.o.dst <;> rfl, I.nxb, by rw [hnx', I.hnx], fun k ek ob' hk' hb hL hc => ?_, fun q hq => ?_, hr, fun k ek hk' ha hL => ?_, I.kp.thenA hk (by omega)⟩⟩
  · have hji : j ≠ i := fun h => by subst h; rw [U.at_] at hj; cases hj; rw [hef] at he; cases he
    rw [← I.st j ej hj he]
    exact ⟨fun h => h.resolve_right hji, .inl⟩
  · rw [get_addA]
    by_cases hki : k = i
    · subst hki; rw [U.at_] at hk'; cases hk'; rw [hob] at hb; cases hb; rw [if_pos rfl]
    · rw [if_neg (by omega)]
      exact I.hs1 k ek ob' hk' hb (hL.resolve_right hki) hc
  · rw [get_addA, if_neg (hq i e ob U.at_ hob (.inr rfl) hci)]
    exact I.hs2 q fun k ek ob' hk' hb hL hc => hq k ek ob' hk' hb (.inl hL) hc
  · have hki : k ≠ i := fun h => hL (.inr h)
    have hkl := (List.getElem?_eq_some_iff.1 hk').1
    rw [hk.old (base + k) (by rw [I.hnx]; omega) (by omega)]
    exact I.i5 k ek hk' ha (fun h => hL (.inl h))
theorem Inv.acts (I : Inv G ε0 h00 w0 a0 N ops base hn t0 T L a w c ε tS hS) (D : Dr P Q G call N ops base h0 hn t0 tn T) (hb0 : h00.nx = base) {i : Nat} {e : En} (U : Turn L T i e) (hef : ef e.o = true)
    {v' : Value} {ε' : Env} {w' : World} (hv : R ε' e.v v') (hr : Rep G ε' (nhl T hn (i + 1)) w') (hk : Kp e.h ε w (nhl T hn (i + 1)) ε' w') (Ld : ∀ j, Decidable (L j)) :
    ∃ tS' hS', Inv G ε0 h00 w0 a0 N ops base hn t0 T (fun j => L j ∨ j = i) (a.put e.o.dst v') w' (i + 1) ε' tS' hS' := by
  obtain ⟨t', ht'⟩ := putD_ex (D.step i e U.at_).2.put tS e.v
  have hlt := (List.getElem?_eq_some_iff.1 U.at_).1
  obtain ⟨hci, e1, e2, e3⟩ := I.atEf D U hef
  have hnal : isAlc e.o.op = false := by simp [ef] at hef; exact hef.2
  obtain ⟨p1, p2, p3⟩ := addP_spec (base := base) (p := fun k => Nat.blt i k && decide (L k)) (T := T) (i0 := 0) (h := nhl T hn (i + 1))
  generalize hSd : addP base (fun k => Nat.blt i k && decide (L k)) T 0 (nhl T hn (i + 1)) = hS' at p1 p2 p3
  have pT : ∀ {k : Nat}, L k → i < k → (Nat.blt i (0 + k) && decide (L (0 + k))) = true := fun {k} h1 h2 => by simp [Nat.blt, h1]; omega
  have pF : ∀ {k : Nat}, (Nat.blt i (0 + k) && decide (L (0 + k))) = true → L k ∧ i < k := fun {k} h => by simp [Nat.blt] at h; exact ⟨h.2, by omega⟩
  have hs1' : ∀ k ek ob, T[k]? = some ek → ek.ob = some ob → L k → i < k → hS'.get (base + k) = some ob := fun k ek ob x1 x2 x3 x4 => by
    have := p2 k ek ob x1 x2 (pT x3 x4)
    rwa [Nat.zero_add] at this
  have hs2' : ∀ q, (∀ k ek ob, T[k]? = some ek → ek.ob = some ob → L k → i < k → q ≠ base + k) → hS'.get q = (nhl T hn (i + 1)).get q := fun q hq =>
    p3 q fun k ek ob x1 x2 x3 => by rw [Nat.zero_add]; exact hq k ek ob x1 x2 (pF x3).1 (pF x3).2
  /- what is there of a block that was made -/
  have pend : ∀ k ek ob, T[k]? = some ek → ek.ob = some ob → L k → i < k → ∃ ee, ε (base + k) = some ee ∧ Ob ε ob ee w ∧ ee.b < w.heap.size ∧ ¬ Img e.h ε ee.b := fun k ek ob x1 x2 x3 x4 => by
    have hg := I.hs1 k ek ob x1 x2 x3 (by omega)
    obtain ⟨ee, g1, g2⟩ := I.rp.obj _ _ hg
    refine ⟨ee, g1, g2, g2.lt, ?_⟩
    rintro ⟨q, o, eq, h1, h2, h3⟩
    have hgq : hS.get q = some o := by
      rw [e2 q, h1]
      rintro k' ek' ob' y1 y2 y3 y4 rfl
      rw [e3 k' ek' y1 (ob_alc D y1 y2).1 (by omega)] at h1; cases h1
    have := I.rp.inj q (base + k) o ob eq ee hgq hg h2 g1 h3
    rw [this, e3 k ek x1 (ob_alc D x1 x2).1 (by omega)] at h1; cases h1
  have split' : ∀ q o, hS'.get q = some o → (∃ k ek, T[k]? = some ek ∧ ek.ob = some o ∧ L k ∧ i < k ∧ q = base + k) ∨ (nhl T hn (i + 1)).get q = some o := fun q o hq => by
    by_cases hh : ∃ k ek ob, T[k]? = some ek ∧ ek.ob = some ob ∧ L k ∧ i < k ∧ q = base + k
    · obtain ⟨k, ek, ob, x1, x2, x3, x4, rfl⟩ := hh
      rw [hs1' k ek ob x1 x2 x3 x4] at hq; cases hq
      exact .inl ⟨k, ek, x1, x2, x3, x4, rfl⟩
    · rw [hs2' q fun k ek ob x1 x2 x3 x4 x5 => hh ⟨k, ek, ob, x1, x2, x3, x4, x5⟩] at hq
      exact .inr hq
  have imgS : ∀ b, Img e.h ε b → Img hS ε b := fun b ⟨q, o, eq, h1, h2, h3⟩ => ⟨q, o, eq, (by
    rw [e2 q, h1]
    rintro k' ek' ob' y1 y2 y3 y4 rfl
    rw [e3 k' ek' y1 (ob_alc D y1 y2).1 (by omega)] at h1
    cases h1), h2, h3⟩
  have hrep : Rep G ε' hS' w' := by
    refine ⟨fun n hn' => hr.fresh n (by rw [p1] at hn'; exact hn'), fun q o hq => ?_, fun x y qx qy ex ey hx hy h1 h2 h3 => ?_, hr.gl⟩
    · rcases split' q o hq with ⟨k, ek, x1, x2, x3, x4, rfl⟩ | h
      · obtain ⟨ee, g1, g2, g3, g4⟩ := pend k ek o x1 x2 x3 x4
        exact ⟨ee, hk.ext _ _ g1, (g2.mono hk.ext).keep (hk.keep _ g3 g4)⟩
      · exact hr.obj q o h
    · have new : ∀ {q o eq}, (nhl T hn (i + 1)).get q = some o → ε' q = some eq → Img e.h ε eq.b ∨ w.heap.size ≤ eq.b := fun {q o eq} h h' => hk.img _ ⟨q, o, eq, h, h', rfl⟩
      have pe : ∀ {k ek ob ee}, T[k]? = some ek → ek.ob = some ob → L k → i < k → ε' (base + k) = some ee → ε (base + k) = some ee ∧ ee.b < w.heap.size ∧ ¬ Img e.h ε ee.b := fun {k ek ob ee} x1 x2 x3 x4 h => by
        obtain ⟨e9, g1, g2, g3, g4⟩ := pend k ek ob x1 x2 x3 x4
        have : e9 = ee := Option.some.inj ((hk.ext _ _ g1).symm.trans h)
        subst this
        exact ⟨g1, g3, g4⟩
      rcases split' x qx hx with ⟨k, ek, x1, x2, x3, x4, rfl⟩ | hx' <;> rcases split' y qy hy with ⟨k2, ek2, y1, y2, y3, y4, rfl⟩ | hy'
      · obtain ⟨z1, _, _⟩ := pe x1 x2 x3 x4 h1
        obtain ⟨z2, _, _⟩ := pe y1 y2 y3 y4 h2
        exact I.rp.inj _ _ _ _ _ _ (I.hs1 k ek qx x1 x2 x3 (by omega)) (I.hs1 k2 ek2 qy y1 y2 y3 (by omega)) z1 z2 h3
      · obtain ⟨_, z2, z3⟩ := pe x1 x2 x3 x4 h1
        rcases new hy' h2 with h | h
        · rw [← h3] at h; exact absurd h z3
        · omega
      · obtain ⟨_, z2, z3⟩ := pe y1 y2 y3 y4 h2
        rcases new hx' h1 with h | h
        · rw [h3] at h; exact absurd h z3
        · omega
      · exact hr.inj x y qx qy ex ey hx' hy' h1 h2 h3
  have hkp : Kp hS ε w hS' ε' w' := by
    refine ⟨hk.ext, hk.size, fun b hb hi => hk.keep b hb (fun h => hi (imgS b h)), fun b hb => ?_, by rw [p1, e1]; exact hk.nx, fun n hn' _ => hk.old n (by rw [← e1]; exact hn') (by omega), hk.same, fun n m cs hg => ?_⟩
    · obtain ⟨q, o, eq, h1, h2, h3⟩ := hb
      rcases split' q o h1 with ⟨k, ek, x1, x2, x3, x4, rfl⟩ | h
      · obtain ⟨e9, g1, g2, g3, g4⟩ := pend k ek o x1 x2 x3 x4
        have : e9 = eq := Option.some.inj ((hk.ext _ _ g1).symm.trans h2)
        subst this
        exact .inl ⟨base + k, o, e9, I.hs1 k ek o x1 x2 x3 (by omega), g1, h3⟩
      · rcases hk.img b ⟨q, o, eq, h, h2, h3⟩ with h' | h'
        · exact .inl (imgS b h')
        · exact .inr h'
    · by_cases hp : ∃ k ek ob, T[k]? = some ek ∧ ek.ob = some ob ∧ L k ∧ i < k ∧ n = base + k
      · obtain ⟨k, ek, ob, x1, x2, x3, x4, rfl⟩ := hp
        have hob := I.hs1 k ek ob x1 x2 x3 (by omega)
        rw [hob] at hg; cases hg
        refine ⟨hs1' k ek _ x1 x2 x3 x4, fun e9 he9 => ?_⟩
        obtain ⟨e8, g1, _, g3, g4⟩ := pend k ek _ x1 x2 x3 x4
        rw [g1] at he9; cases he9
        exact hk.keep _ g3 g4
      · have hq : ∀ k ek ob, T[k]? = some ek → ek.ob = some ob → L k → i < k → n ≠ base + k := fun k ek ob x1 x2 x3 x4 x5 => hp ⟨k, ek, ob, x1, x2, x3, x4, x5⟩
        have hge : e.h.get n = some (.g m cs) := by rw [← hg]; exact (e2 n hq).symm
        obtain ⟨r1, r2⟩ := hk.ro n m cs hge
        exact ⟨by rw [hs2' n hq]; exact r1, r2⟩
  have hnb := I.nxb
  refine ⟨t', hS', ⟨I.closed' D U, fun j hj => hj.elim (I.lt j) (fun h => by omega), by omega, fun j ej hj he => ?_, .inr ⟨i, e, rfl, U.at_, hef⟩, I.wrPut D U ht', (I.fr.mono hk.ext).put ht' hv, by rw [← I.df]; cases e.o.dst <;> rfl, ?_, p1, fun k ek ob hk' hb hL hc => ?_, fun q hq => ?_, hrep, fun k ek hk' ha hL => ?_, I.kp.trans hkp⟩⟩
  · rcases Nat.lt_trichotomy j i with h | rfl | h
    · refine ⟨fun _ => by omega, fun _ => .inl ?_⟩
      rcases I.ahead D hj U.at_ h U.pre with h3 | ⟨_, h3⟩
      · exact h3
      · have := h3 hef; simp [ef, this] at he
    · exact ⟨fun _ => by omega, fun _ => .inr rfl⟩
    · refine ⟨fun hL => ?_, fun h' => by omega⟩
      rcases hL with hL | rfl
      · have := (I.st j ej hj he).1 hL; omega
      · omega
  · have := hk.nx
    rw [← e1, I.hnx] at this
    omega
  · exact hs1' k ek ob hk' hb (hL.resolve_right (by omega)) (by omega)
  · exact hs2' q fun k ek ob hk' hb hL hik => hq k ek ob hk' hb (.inl hL) (by omega)
  · have hkl := (List.getElem?_eq_some_iff.1 hk').1
    rw [hk.old (base + k) (by rw [← e1, I.hnx]; omega) (by rw [← e1, I.hnx]; omega)]
    exact I.i5 k ek hk' ha (fun h => hL (.inl h))
end
end Go.Ev
