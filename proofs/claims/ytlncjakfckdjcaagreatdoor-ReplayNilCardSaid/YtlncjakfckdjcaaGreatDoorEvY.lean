/-
  Drawn regions: the state behind whatever was done, in whatever order. No statement.
-/
import Derived.Test.YtlncjakfckdjcaaGreatDoorEvW
set_option linter.all false
set_option maxRecDepth 100000
set_option maxHeartbeats 4000000
namespace Go.Ev
open Go
section
variable {P : Program} {Q : List Nat} {G : Nat}
structure Dr (P : Program) (Q : List Nat) (G : Nat) (call : Caller) (N : Nat) (ops : Array Oper) (base : Nat) (h0 hn : H) (t0 tn : Tr SV) (T : List En) : Prop where
  st : stat ops ops.toList [] [] = true
  len : T.length = ops.toList.length
  nt0 : ntl T tn 0 = t0
  nh0 : nhl T hn 0 = h0
  step : ∀ k e, T[k]? = some e → ops.toList[k]? = some e.o ∧ StepOk P Q call G N ops.toList base k e (ntl T tn (k + 1)) (nhl T hn (k + 1))
  cj : ∀ k e, T[k]? = some e → quiet e.o.op = true → e.w = true → chkQ P Q G base T (masks ops.toList []) k e 0 h0 = true ∧
    ∀ k' x, T[k']? = some x → ef x.o = true → chkQ P Q G base T (masks ops.toList []) k e (k' + 1) (nhl T hn (k' + 1)) = true
  cn : ∀ k x, T[k]? = some x → ef x.o = true → ∀ q e, k < q → T[q]? = some e → isAlc e.o.op = true → (nhl T hn (k + 1)).get (base + q) = none
  c0 : ∀ q e, T[q]? = some e → isAlc e.o.op = true → h0.get (base + q) = none
variable {call : Caller} {N base : Nat} {ops : Array Oper} {h0 hn : H} {t0 tn : Tr SV} {T : List En}
theorem nhl_at {k : Nat} {e : En} (h : T[k]? = some e) : nhl T hn k = e.h := by simp [nhl, h]
theorem ntl_at {k : Nat} {e : En} (h : T[k]? = some e) : ntl T tn k = e.t := by simp [ntl, h]
theorem Dr.wr (D : Dr P Q G call N ops base h0 hn t0 tn T) : ∀ j, j ≤ T.length → Wr T t0 (fun i => i < j) (ntl T tn j)
  | 0, _ => fun d => .inr ⟨fun j h => absurd h (Nat.not_lt_zero j), by rw [D.nt0]⟩
  | j + 1, hj => by
    have he : T[j]? = some (T[j]'(by omega)) := List.getElem?_eq_getElem _
    have ih := D.wr j (by omega)
    have hp := (D.step j _ he).2.put
    rw [← ntl_at (tn := tn) he] at hp
    have := ih.put he hp (fun k d hk _ _ => hk)
    intro d
    rcases this d with ⟨k, a1, a2, a3, a4⟩ | ⟨a1, a2⟩
    · exact .inl ⟨k, by omega, a2, a3, fun j' hj' hd' => a4 j' (by omega) hd'⟩
    · exact .inr ⟨fun k hk => a1 k (by omega), a2⟩
/-- between two effects -/
theorem Dr.between (D : Dr P Q G call N ops base h0 hn t0 tn T) {c : Nat} (hnx : base + T.length ≤ (nhl T hn c).nx) : ∀ (d : Nat), c + d ≤ T.length → (∀ k e, c ≤ k → k < c + d → T[k]? = some e → ef e.o = false) →
    (nhl T hn (c + d)).nx = (nhl T hn c).nx ∧
    (∀ k e ob, T[k]? = some e → e.ob = some ob → c ≤ k → k < c + d → (nhl T hn (c + d)).get (base + k) = some ob) ∧
    (∀ q, (∀ k e ob, T[k]? = some e → e.ob = some ob → c ≤ k → k < c + d → q ≠ base + k) → (nhl T hn (c + d)).get q = (nhl T hn c).get q)
  | 0, _, _ => ⟨rfl, fun k e ob _ _ h1 h2 => by omega, fun q _ => rfl⟩
  | d + 1, hd, hne => by
    obtain ⟨a1, a2, a3⟩ := D.between hnx d (by omega) (fun k e h1 h2 h3 => hne k e h1 (by omega) h3)
    have he : T[c + d]? = some (T[c + d]'(by omega)) := List.getElem?_eq_getElem _
    generalize T[c + d]'(by omega) = e at he
    obtain ⟨so, ss⟩ := D.step _ e he
    have hef := hne (c + d) e (by omega) (by omega) he
    have hh := nhl_at (hn := hn) he
    have hcd : c + (d + 1) = c + d + 1 := rfl
    rw [hcd]
    cases hw : e.w
    · obtain ⟨_, n1, n2⟩ := ss.no hw
      rw [n1, ← hh]
      refine ⟨a1, fun k e' ob hk hob h1 h2 => ?_, fun q hq => a3 q fun k e' ob hk hob h1 h2 => hq k e' ob hk hob h1 (by omega)⟩
      by_cases hkd : k = c + d
      · subst hkd; rw [he] at hk; cases hk; rw [n2] at hob; cases hob
      · exact a2 k e' ob hk hob h1 (by omega)
    · obtain ⟨y1, y2⟩ := ss.yes hw
      cases hal : isAlc e.o.op
      · have hqt : quiet e.o.op = true := by simp [ef, hal] at hef; exact hef
        have hcal : callee e.o.op = none := by
          cases ho : e.o.op <;> rw [ho] at hqt <;> simp only [quiet, Bool.false_eq_true] at hqt <;> try rfl
          rename_i cc
          simp only [callee]
          split
          · rename_i f hf; rw [hf] at hqt; cases hqt
          · rfl
        simp only [opS, hcal, hal, cond_false] at y1
        rw [hal, cond_false] at y2
        obtain ⟨z1, _⟩ := op1_quiet (m' := 0) hqt y1
        rw [z1, ← hh]
        refine ⟨a1, fun k e' ob hk hob h1 h2 => ?_, fun q hq => a3 q fun k e' ob hk hob h1 h2 => hq k e' ob hk hob h1 (by omega)⟩
        by_cases hkd : k = c + d
        · subst hkd; rw [he] at hk; cases hk; rw [y2] at hob; cases hob
        · exact a2 k e' ob hk hob h1 (by omega)
      · have hcal : callee e.o.op = none := by
          cases ho : e.o.op <;> rw [ho] at hal <;> simp only [isAlc, Bool.false_eq_true] at hal <;> rfl
        simp only [opS, hcal, hal, cond_true] at y1
        rw [hal, cond_true] at y2
        obtain ⟨ob, z1, _⟩ := op1_alc hal y1
        have hlt : base + (c + d) < e.h.nx := by rw [← hh, a1]; omega
        have hob : e.ob = some ob := by rw [y2, z1, get_addA, if_pos rfl]
        have hnx2 : (e.h.addA (base + (c + d)) ob).nx = e.h.nx := by
          show (bif Nat.beq _ _ then _ else _) = _
          rw [(bqf.2 (by omega) : Nat.beq (base + (c + d)) e.h.nx = false)]
          rfl
        rw [z1]
        refine ⟨by rw [hnx2, ← hh, a1], fun k e' ob' hk hob' h1 h2 => ?_, fun q hq => ?_⟩
        · rw [get_addA]
          by_cases hkd : k = c + d
          · subst hkd; rw [he] at hk; cases hk; rw [hob] at hob'; cases hob'; rw [if_pos rfl]
          · rw [if_neg (by omega), ← hh]; exact a2 k e' ob' hk hob' h1 (by omega)
        · rw [get_addA, if_neg (hq _ e ob he hob (by omega) (by omega)), ← hh]
          exact a3 q fun k e' ob hk hob h1 h2 => hq k e' ob hk hob h1 (by omega)
structure Inv (G : Nat) (ε0 : Env) (h00 : H) (w0 : World) (a0 : Act) (N : Nat) (ops : Array Oper) (base : Nat) (hn : H) (t0 : Tr SV) (T : List En) (L : Nat → Prop) (a : Act) (w : World) (c : Nat) (ε : Env) (tS : Tr SV) (hS : H) : Prop where
  closed : ∀ j o, L j → ops.toList[j]? = some o → ∀ p ∈ preds o, L p
  lt : ∀ j, L j → j < T.length
  cle : c ≤ T.length
  st : ∀ j e, T[j]? = some e → ef e.o = true → (L j ↔ j < c)
  prev : c = 0 ∨ ∃ k x, c = k + 1 ∧ T[k]? = some x ∧ ef x.o = true
  wr : Wr T t0 L tS
  fr : FR ε N tS a.tmps
  df : a.defers = a0.defers
  nxb : base + T.length ≤ (nhl T hn c).nx
  hnx : hS.nx = (nhl T hn c).nx
  hs1 : ∀ k e ob, T[k]? = some e → e.ob = some ob → L k → c ≤ k → hS.get (base + k) = some ob
  hs2 : ∀ q, (∀ k e ob, T[k]? = some e → e.ob = some ob → L k → c ≤ k → q ≠ base + k) → hS.get q = (nhl T hn c).get q
  rp : Rep G ε hS w
  i5 : ∀ k e, T[k]? = some e → isAlc e.o.op = true → ¬ L k → ε (base + k) = none
  kp : Kp h00 ε0 w0 hS ε w
theorem KpA.thenA {m : Nat} {h h1 h2 : H} {ε ε1 ε2 : Env} {w w1 w2 : World} (a : Kp h ε w h1 ε1 w1) (b : KpA m h1 ε1 w1 h2 ε2 w2) (hm : h.nx ≤ m) : Kp h ε w h2 ε2 w2 where
  same := a.same.trans b.same
  ro := fun n m cs hg => ⟨(b.ro n m cs (a.ro n m cs hg).1).1, fun e he => ((b.ro n m cs (a.ro n m cs hg).1).2 e (a.ext _ _ he)).trans ((a.ro n m cs hg).2 e he)⟩
  ext := a.ext.trans b.ext
  size := Nat.le_trans a.size b.size
  keep := fun k hk hi => by
    rw [b.keep k (Nat.lt_of_lt_of_le hk a.size) (fun hi' => (a.img k hi').elim hi (fun h => absurd hk (by omega))), a.keep k hk hi]
  img := fun k hk => by
    rcases b.img k hk with h' | h'
    · exact a.img k h'
    · exact .inr (Nat.le_trans a.size h')
  nx := Nat.le_trans a.nx b.nx
  old := fun n hn hm' => (b.old n (Nat.lt_of_lt_of_le hn a.nx) (by omega)).trans (a.old n hn hm')
section
variable {ε0 : Env} {h00 : H} {w0 : World} {a0 : Act} {L : Nat → Prop} {a : Act} {w : World} {c : Nat} {ε : Env} {tS : Tr SV} {hS : H}
/-- no name of a block that is to come is in the stage's heap -/
theorem Inv.nobody (I : Inv G ε0 h00 w0 a0 N ops base hn t0 T L a w c ε tS hS) (D : Dr P Q G call N ops base h0 hn t0 tn T) {q : Nat} {e : En} (hq : T[q]? = some e) (ha : isAlc e.o.op = true) (hc : c ≤ q) : (nhl T hn c).get (base + q) = none := by
  rcases I.prev with h | ⟨k, x, h, hk, hx⟩
  · rw [h, D.nh0]; exact D.c0 q e hq ha
  · rw [h]; exact D.cn k x hk hx q e (by omega) hq ha
theorem ob_alc (D : Dr P Q G call N ops base h0 hn t0 tn T) {k : Nat} {e : En} {ob : SO} (hk : T[k]? = some e) (hob : e.ob = some ob) : isAlc e.o.op = true ∧ e.w = true := by
  obtain ⟨_, ss⟩ := D.step k e hk
  cases hw : e.w
  · obtain ⟨_, _, n⟩ := ss.no hw; rw [n] at hob; cases hob
  · obtain ⟨_, y⟩ := ss.yes hw
    cases ha : isAlc e.o.op
    · rw [ha, cond_false] at y; rw [y] at hob; cases hob
    · exact ⟨rfl, rfl⟩
/-- the stage's heap is part of what is there -/
theorem Inv.stage_sub (I : Inv G ε0 h00 w0 a0 N ops base hn t0 T L a w c ε tS hS) (D : Dr P Q G call N ops base h0 hn t0 tn T) {q : Nat} {o : SO} (h : (nhl T hn c).get q = some o) : hS.get q = some o := by
  rw [I.hs2 q, h]
  rintro k e ob hk hob hL hc rfl
  rw [I.nobody D hk (ob_alc D hk hob).1 hc] at h
  cases h
/-- of what must be ahead: it is there; else apart -/
theorem Inv.ahead (I : Inv G ε0 h00 w0 a0 N ops base hn t0 T L a w c ε tS hS) (D : Dr P Q G call N ops base h0 hn t0 tn T) {i j : Nat} {ei ej : En} (hi : T[i]? = some ei) (hj : T[j]? = some ej) (hlt : i < j) (hp : ∀ p ∈ preds ej.o, L p) :
    L i ∨ (ei.o.apart ops ej.o = true ∧ (ef ej.o = true → quiet ei.o.op = true)) := by
  obtain ⟨_, m, t2, _, t4⟩ := stat_spec D.st rfl (D.step j ej hj).1
  simp only [List.length_nil, Nat.zero_add, List.nil_append] at t2 t4
  rcases t4 (D.step i ei hi).1 hlt with h | h
  · exact .inl (mask_sub D.st I.closed j (D.step j ej hj).1 t2 hp i h)
  · exact .inr h
theorem Inv.done (I : Inv G ε0 h00 w0 a0 N ops base hn t0 T L a w c ε tS hS) (D : Dr P Q G call N ops base h0 hn t0 tn T) (hall : ∀ j, j < T.length → L j) :
    FR ε N tn a.tmps ∧ a.defers = a0.defers ∧ Rep G ε hn w ∧ Kp h00 ε0 w0 hn ε w := by
  have hne : ∀ k e, c ≤ k → k < c + (T.length - c) → T[k]? = some e → ef e.o = false := fun k e h1 h2 h3 => by
    cases he : ef e.o
    · rfl
    · have hlt := (List.getElem?_eq_some_iff.1 h3).1
      have := (I.st k e h3 he).1 (hall k hlt); omega
  obtain ⟨b1, b2, b3⟩ := D.between I.nxb (T.length - c) (by have := I.cle; omega) hne
  have hcn : c + (T.length - c) = T.length := by have := I.cle; omega
  rw [hcn] at b1 b2 b3
  have hnn : nhl T hn T.length = hn := by simp [nhl]
  rw [hnn] at b1 b2 b3
  have htn : ntl T tn T.length = tn := by simp [ntl]
  have hget : ∀ q, hn.get q = hS.get q := fun q => by
    by_cases hq : ∃ k e ob, T[k]? = some e ∧ e.ob = some ob ∧ c ≤ k ∧ q = base + k
    · obtain ⟨k, e, ob, h1, h2, h3, rfl⟩ := hq
      have hlt := (List.getElem?_eq_some_iff.1 h1).1
      rw [b2 k e ob h1 h2 h3 hlt, I.hs1 k e ob h1 h2 (hall k hlt) h3]
    · have h1 := b3 q (fun k e ob x1 x2 x3 _ x5 => hq ⟨k, e, ob, x1, x2, x3, x5⟩)
      have h2 := I.hs2 q (fun k e ob x1 x2 _ x3 x5 => hq ⟨k, e, ob, x1, x2, x3, x5⟩)
      rw [h1, h2]
  have hnx : hn.nx = hS.nx := by rw [b1, I.hnx]
  refine ⟨I.fr.ext fun d => ?_, I.df, I.rp.sub (fun q o h => by rw [← hget]; exact h) hnx, ⟨I.kp.ext, I.kp.size, I.kp.keep, fun b hb => I.kp.img b ?_, by rw [hnx]; exact I.kp.nx, I.kp.old, I.kp.same, fun n m cs hg => ⟨by rw [hget]; exact (I.kp.ro n m cs hg).1, (I.kp.ro n m cs hg).2⟩⟩⟩
  · have hw := D.wr T.length (Nat.le_refl _)
    rw [htn] at hw
    exact (hw.eq I.wr (fun j hj => ⟨fun h => hall j h, fun h => I.lt j h⟩))
  · obtain ⟨q, o, e, h1, h2, h3⟩ := hb
    exact ⟨q, o, e, by rw [← hget]; exact h1, h2, h3⟩
end
end
end Go.Ev
