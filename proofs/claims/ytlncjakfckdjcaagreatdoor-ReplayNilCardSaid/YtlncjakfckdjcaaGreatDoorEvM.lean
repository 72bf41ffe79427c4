/-
  Small heaps: what is read, written, made. No statement.
-/
import Derived.Test.YtlncjakfckdjcaaGreatDoorEvR
set_option linter.all false
namespace Go.Ev
open Go
variable {P : Program} {G : Nat} {ε : Env} {h : H} {w : World}
theorem ty_info {t : Nat} {i : TypeInfo} (e : ty P t = some i) : P.info? t = some i := by
  unfold ty at e
  rw [nth_eq] at e
  have hs : t < P.types.size := by
    have := (List.getElem?_eq_some_iff.1 e).1
    simpa using this
  show (if t < P.types.size then P.types[t]? else _) = _
  rw [if_pos hs, ← Array.getElem?_toList]
  exact e
theorem und_eq {t : Nat} {d : TypeDesc} (e : und P t = some d) : P.underlying t = some d := by
  unfold und at e
  simp only [Option.bind_eq_some_iff] at e
  obtain ⟨i, hi, e⟩ := e
  unfold Program.underlying
  rw [ty_info hi]
  split at e
  · rename_i n u hd
    simp only [Option.bind_eq_some_iff, Option.some.injEq] at e
    obtain ⟨j, hj, rfl⟩ := e
    obtain ⟨desc, _⟩ := i
    simp only at hd
    subst hd
    simp [ty_info hj]
  · rename_i hd
    simp only [Option.some.injEq] at e
    subst e
    obtain ⟨desc, _⟩ := i
    cases desc <;> first | rfl | exact absurd rfl (hd _ _)
theorem sz_eq {t n : Nat} (e : szOf P t = some n) : ∃ i, P.info? t = some i ∧ i.size = n := by
  unfold szOf at e
  simp only [Option.bind_eq_some_iff, Option.some.injEq] at e
  obtain ⟨i, hi, rfl⟩ := e
  exact ⟨i, ty_info hi, rfl⟩
theorem run_size {t n : Nat} (e : szOf P t = some n) (w : World) : (sizeOf t).run P w = .ok n w := by
  obtain ⟨i, hi, rfl⟩ := sz_eq e
  simp [sizeOf, typeInfo, hi]
theorem isAg_row {d : TypeDesc} (e : isAg d = true) : d.isRow = true := by
  cases d <;> simp_all [isAg]
theorem run_isAgg {t : Nat} {d : TypeDesc} (e : und P t = some d) (w : World) : (isAgg t).run P w = .ok (isAg d) w := by
  unfold isAgg
  rw [Sem.run_bind, run_underlying (und_eq e) w]
  cases d <;> simp [isAg]
/-! ## constants -/
theorem ofS_R {v : Value} {s : SV} (e : ofS v = some s) : R ε s v ∧ v.oneCell' = true := by
  unfold ofS at e
  split at e <;> cases e <;> exact ⟨by constructor, rfl⟩
theorem mapO_R : ∀ {l : List Value} {m : List SV}, mapO ofS l = some m → Rs ε m l ∧ ∀ x ∈ l, x.oneCell' = true
  | [], m, e => by simp [mapO] at e; subst e; exact ⟨.nil, by simp⟩
  | x :: l, m, e => by
    simp only [mapO, Option.bind_eq_some_iff, Option.some.injEq] at e
    obtain ⟨y, hy, r, hr, rfl⟩ := e
    have a := ofS_R (ε := ε) hy
    have b := mapO_R hr
    exact ⟨.cons a.1 b.1, fun z hz => by rcases List.mem_cons.1 hz with rfl | h; exact a.2; exact b.2 z h⟩
theorem ofV_R {v : Value} {s : SV} (e : ofV v = some s) : R ε s v := by
  unfold ofV at e
  split at e
  · simp only [Option.bind_eq_some_iff, Option.some.injEq] at e
    obtain ⟨l, hl, rfl⟩ := e
    have := mapO_R (ε := ε) hl
    simpa using R.a this.1 this.2
  · simp only [Option.bind_eq_some_iff, Option.some.injEq] at e
    obtain ⟨l, hl, rfl⟩ := e
    simpa using R.t (mapO_R (ε := ε) hl).1
  · rename_i f fs cs
    cases hb : (Nat.beq fs.toList.length 0 && Nat.beq cs.toList.length 0)
    · simp only [hb, cond_false] at e; cases e
    · simp only [hb, cond_true, Option.some.injEq] at e
      subst e
      simp only [Bool.and_eq_true, Nat.beq_eq_true_eq] at hb
      have h1 : fs = #[] := by have := hb.1; simpa using this
      have h2 : cs = #[] := by have := hb.2; simpa using this
      subst h1 h2
      exact R.f .nil .nil
  · exact (ofS_R e).1
theorem zero_run {t : Nat} {z : SV} (e : zeroS P t = some z) (w : World) : ∃ v, (zeroValue t).run P w = .ok v w ∧ R ε z v := by
  unfold zeroS at e
  simp only [Option.bind_eq_some_iff] at e
  obtain ⟨i, hi, v, hv, hz⟩ := e
  exact ⟨v, by simp [zeroValue, typeInfo, ty_info hi, hv], ofV_R hz⟩
/-! ## operands -/
theorem opd_R {t : Tr SV} {N : Nat} {a : Act} {x : Operand} {v : SV} (hf : FR ε N t a.tmps) (r : Rep G ε h w) (e : opd G t x = some v) : R ε v (a.eval x) := by
  cases x with
  | tmp i => simp only [opd, Option.some.injEq] at e; subst e; exact hf.2 i
  | const u => exact ofV_R e
  | global g =>
    simp only [opd] at e
    cases hb : Nat.blt g G
    · simp [hb] at e
    · simp only [hb, cond_true, Option.some.injEq] at e
      subst e
      obtain ⟨ee, h1, h2⟩ := r.gl g (Nat.lt_of_succ_le (by simpa [Nat.blt] using hb))
      subst h2
      exact .p h1
  | func f => simp only [opd, Option.some.injEq] at e; subst e; exact R.f .nil .nil
theorem opds_R {t : Tr SV} {N : Nat} {a : Act} (hf : FR ε N t a.tmps) (r : Rep G ε h w) : ∀ {l : List Operand} {m : List SV}, opds G t l = some m → Rs ε m (l.map a.eval)
  | [], m, e => by simp [opds] at e; subst e; exact .nil
  | x :: l, m, e => by
    simp only [opds, Option.bind_eq_some_iff, Option.some.injEq] at e
    obtain ⟨v, hv, q, hq, rfl⟩ := e
    exact .cons (opd_R hf r hv) (opds_R hf r hq)
/-! ## reading -/
theorem readL_R {cs : Tr SV} {m : Nat} {arr : Array Value} (hc : Cs ε m cs arr) : ∀ (n k : Nat) {l : List SV}, readL cs n k = some l → k + n ≤ m →
    ∃ vs, Rs ε l vs ∧ vs.length = n ∧ (∀ x ∈ vs, x.oneCell' = true) ∧ ∀ j v, vs[j]? = some v → arr[k + j]? = some v
  | 0, k, l, e, _ => by simp [readL_zero] at e; subst e; exact ⟨[], .nil, rfl, by simp, by simp⟩
  | n + 1, k, l, e, hm => by
    simp only [readL_succ, Option.bind_eq_some_iff, Option.some.injEq] at e
    obtain ⟨v, hv, r, hr, rfl⟩ := e
    obtain ⟨v', x, h1, h2, h3, h4⟩ := hc k (by omega)
    rw [hv] at h1
    cases h1
    obtain ⟨vs, a, b, c, d⟩ := readL_R hc n (k + 1) hr (by omega)
    refine ⟨x :: vs, .cons h3 a, by simp [b], fun y hy => ?_, fun j u hj => ?_⟩
    · rcases List.mem_cons.1 hy with rfl | hy
      · exact h4
      · exact c y hy
    · cases j with
      | zero => simp at hj; subst hj; simpa using h2
      | succ j => rw [show k + (j + 1) = k + 1 + j by omega]; exact d j u (by simpa using hj)
theorem cell_at {b o : Nat} {arr : Array Value} {t : TypeId} {fz : Nat × Nat} {v : Value} (hb : w.heap[b]? = some (.cells arr t fz)) (e : arr[o]? = some v) : w.cell? ⟨b, o, none⟩ = some v := by
  simp [World.cell?, hb, e]
theorem loadC_R (r : Rep G ε h w) {a : Nat × Nat} {n : Nat} {l : List SV} (e : loadC h a n = some l) :
    ∃ ee vs, ε a.1 = some ee ∧ Rs ε l vs ∧ vs.length = n ∧ (∀ x ∈ vs, x.oneCell' = true) ∧ w.rangeAt ee.b a.2 vs := by
  unfold loadC at e
  simp only [Option.bind_eq_some_iff] at e
  obtain ⟨o, ho, e⟩ := e
  obtain ⟨ee, h1, h2⟩ := r.obj _ _ ho
  split at e
  · rename_i ty m cs
    obtain ⟨arr, b1, b2, b3⟩ := h2
    cases hb : Nat.ble (a.2 + n) m
    · simp [hb] at e
    · simp only [hb, cond_true] at e
      obtain ⟨vs, c1, c2, c3, c4⟩ := readL_R b2 n a.2 e (by simpa using hb)
      exact ⟨ee, vs, h1, c1, c2, c3, fun j v hv => cell_at b1 (c4 j v hv)⟩
  · rename_i ty s m cs
    obtain ⟨arr, b1, b2, b3⟩ := h2
    cases hb : Nat.ble (a.2 + n) m
    · simp [hb] at e
    · simp only [hb, cond_true] at e
      obtain ⟨vs, c1, c2, c3, c4⟩ := readL_R b2 n a.2 e (by simpa using hb)
      exact ⟨ee, vs, h1, c1, c2, c3, fun j v hv => cell_at b1 (c4 j v hv)⟩
  · rename_i m cs
    obtain ⟨arr, _, _, b1, b2, b3⟩ := h2
    cases hb : Nat.ble (a.2 + n) m
    · simp [hb] at e
    · simp only [hb, cond_true] at e
      obtain ⟨vs, c1, c2, c3, c4⟩ := readL_R b2 n a.2 e (by simpa using hb)
      exact ⟨ee, vs, h1, c1, c2, c3, fun j v hv => cell_at b1 (c4 j v hv)⟩
  · cases e
/-! ## writing -/
theorem setCells_heap (b : Nat) (t : TypeId) (fz : Nat × Nat) : ∀ (vs : List Value) (o : Nat) (w : World) (arr : Array Value), w.heap[b]? = some (.cells arr t fz) → o + vs.length ≤ arr.size →
    ∃ arr', (w.setCells b o vs).heap[b]? = some (.cells arr' t fz) ∧ arr'.size = arr.size ∧ (∀ j v, vs[j]? = some v → arr'[o + j]? = some v) ∧ (∀ k, k < o ∨ o + vs.length ≤ k → arr'[k]? = arr[k]?)
  | [], o, w, arr, hb, _ => ⟨arr, hb, rfl, by simp, fun _ _ => rfl⟩
  | v :: vs, o, w, arr, hb, hl => by
    have h1 : (w.setCell ⟨b, o, none⟩ v).heap[b]? = some (.cells (arr.setIfInBounds o v) t fz) := by
      simp [World.setCell, Array.getElem?_modify, hb]
    obtain ⟨arr', a1, a2, a3, a4⟩ := setCells_heap b t fz vs (o + 1) _ _ h1 (by simp at hl ⊢; omega)
    refine ⟨arr', a1, by simpa using a2, fun j u hj => ?_, fun k hk => ?_⟩
    · cases j with
      | zero =>
        simp at hj; subst hj
        rw [Nat.add_zero, a4 o (.inl (by omega))]
        simp at hl
        simp [Array.getElem?_setIfInBounds, show o < arr.size by omega]
      | succ j => rw [show o + (j + 1) = o + 1 + j by omega]; exact a3 j u (by simpa using hj)
    · rw [a4 k (by simp at hk; omega)]
      simp at hk
      rw [Array.getElem?_setIfInBounds_ne (by omega)]
theorem setCells_size (b : Nat) : ∀ (vs : List Value) (o : Nat) (w : World), (w.setCells b o vs).heap.size = w.heap.size
  | [], _, _ => rfl
  | v :: vs, o, w => by rw [World.setCells, setCells_size b vs]; simp [World.setCell]
theorem setCells_other (b : Nat) : ∀ (vs : List Value) (o : Nat) (w : World) (k : Nat), k ≠ b → (w.setCells b o vs).heap[k]? = w.heap[k]?
  | [], _, _, _, _ => rfl
  | v :: vs, o, w, k, hk => by
    rw [World.setCells, setCells_other b vs _ _ k hk]
    simp only [World.setCell, Array.getElem?_modify]
    rw [if_neg (fun e => hk e.symm)]
theorem putL_get : ∀ (l : List SV) (cs : Tr SV) (k j : Nat), (putL cs l k).get j = if k ≤ j ∧ j < k + l.length then l[j - k]? else cs.get j
  | [], cs, k, j => by simp [putL_nil]; intro h1 h2; omega
  | v :: l, cs, k, j => by
    rw [putL_cons, putL_get l, get_set]
    by_cases h1 : k + 1 ≤ j ∧ j < k + 1 + l.length
    · rw [if_pos h1, if_pos (by simp; omega)]
      obtain ⟨q, rfl⟩ : ∃ q, j = k + 1 + q := ⟨j - (k + 1), by omega⟩
      rw [show k + 1 + q - k = q + 1 by omega, show k + 1 + q - (k + 1) = q by omega]
      simp
    · rw [if_neg h1]
      by_cases h2 : j = k
      · subst h2; simp
      · rw [if_neg h2, if_neg (by simp; omega)]
theorem Cs.put {m o : Nat} {cs : Tr SV} {arr arr' : Array Value} {l : List SV} {vs : List Value} (hc : Cs ε m cs arr) (hl : Rs ε l vs) (h1 : ∀ x ∈ vs, x.oneCell' = true)
    (ha : ∀ j v, vs[j]? = some v → arr'[o + j]? = some v) (hk : ∀ k, k < o ∨ o + vs.length ≤ k → arr'[k]? = arr[k]?) : Cs ε m (putL cs l o) arr' := by
  intro k hkm
  obtain ⟨v, x, a, b, c, d⟩ := hc k hkm
  rw [putL_get, hl.length]
  by_cases hin : o ≤ k ∧ k < o + vs.length
  · rw [if_pos hin]
    have hx : l[k - o]? = some (l[k - o]'(by rw [hl.length]; omega)) := List.getElem?_eq_getElem _
    obtain ⟨y, hy, hr⟩ := hl.get (k - o) hx
    refine ⟨_, y, hx, ?_, hr, h1 y (List.mem_of_getElem? hy)⟩
    have := ha (k - o) y hy
    rwa [show o + (k - o) = k by omega] at this
  · rw [if_neg hin]
    exact ⟨v, x, a, (hk k (by omega)).trans b, c, d⟩
theorem get_put_h {h : H} {n m : Nat} {o : Option SO} : (h.put n o).get m = if m = n then o else h.get m := by
  simp only [H.put, H.get, get_set]
theorem get_add {h : H} {m : Nat} {o : SO} : (h.add o).get m = if m = h.nx then some o else h.get m := by
  simp only [H.add, H.get, get_set]
theorem setCells_same (b : Nat) : ∀ (vs : List Value) (o : Nat) (w : World), SameW w (w.setCells b o vs)
  | [], _, w => SameW.refl w
  | v :: vs, o, w => by
    rw [World.setCells]
    exact SameW.trans ⟨rfl, rfl, rfl⟩ (setCells_same b vs (o + 1) _)
/-- an object's block is written, nothing else -/
theorem Rep.write (r : Rep G ε h w) {n : Nat} {o o' : SO} {e : E} {w' : World} (hn : h.get n = some o) (he : ε n = some e) (ho : Ob ε o' e w')
    (hs : w'.heap.size = w.heap.size) (hk : ∀ k, k ≠ e.b → w'.heap[k]? = w.heap[k]?) (hsm : SameW w w' := by first | exact ⟨rfl, rfl, rfl⟩ | exact setCells_same _ _ _ _) (hng : ∀ m cs, o ≠ .g m cs := by intro _ _ h; cases h) : Rep G ε (h.put n (some o')) w' ∧ Kp h ε w (h.put n (some o')) ε w' := by
  have back : ∀ m q, (h.put n (some o')).get m = some q → ∃ q', h.get m = some q' := fun m q hq => by
    rw [get_put_h] at hq
    by_cases hmn : m = n
    · subst hmn; exact ⟨o, hn⟩
    · rw [if_neg hmn] at hq; exact ⟨q, hq⟩
  refine ⟨⟨r.fresh, fun m q hq => ?_, fun a b qa qb ea eb ha hb h1 h2 h3 => ?_, r.gl⟩, ⟨Ext.refl _, by omega, fun b hb hi => ?_, fun b hb => ?_, Nat.le_refl _, fun _ _ _ => rfl, hsm, fun a m cs hg => ?_⟩⟩
  · rw [get_put_h] at hq
    by_cases hmn : m = n
    · subst hmn; rw [if_pos rfl] at hq; cases hq; exact ⟨e, he, ho⟩
    · rw [if_neg hmn] at hq
      obtain ⟨e2, h1, h2⟩ := r.obj m q hq
      exact ⟨e2, h1, h2.keep (hk _ (fun hc => hmn (r.inj m n q o e2 e hq hn h1 he hc)))⟩
  · obtain ⟨q1, hq1⟩ := back a qa ha
    obtain ⟨q2, hq2⟩ := back b qb hb
    exact r.inj a b q1 q2 ea eb hq1 hq2 h1 h2 h3
  · exact hk b (fun hc => hi ⟨n, o, e, hn, he, hc.symm⟩)
  · obtain ⟨m, q, e2, h1, h2, h3⟩ := hb
    obtain ⟨q', hq'⟩ := back m q h1
    exact .inl ⟨m, q', e2, hq', h2, h3⟩
  · have hne : a ≠ n := fun hc => by subst hc; rw [hn] at hg; exact hng m cs (Option.some.inj hg)
    refine ⟨by rw [get_put_h, if_neg hne]; exact hg, fun e2 he2 => hk _ fun hc => hne (r.inj a n _ o e2 e hg hn he2 he hc)⟩
theorem storeC_R (r : Rep G ε h w) {a : Nat × Nat} {l : List SV} {h' : H} (e : storeC h a l = some h') {vs : List Value} (hl : Rs ε l vs) (h1 : ∀ x ∈ vs, x.oneCell' = true) :
    ∃ ee, ε a.1 = some ee ∧ w.there ee.b a.2 vs.length ∧ Rep G ε h' (w.setCells ee.b a.2 vs) ∧ Kp h ε w h' ε (w.setCells ee.b a.2 vs) := by
  unfold storeC at e
  simp only [Option.bind_eq_some_iff] at e
  obtain ⟨o, ho, e⟩ := e
  obtain ⟨ee, g1, g2⟩ := r.obj _ _ ho
  have there : ∀ {arr : Array Value} {t : TypeId}, w.heap[ee.b]? = some (.cells arr t (0, 0)) → a.2 + vs.length ≤ arr.size → w.there ee.b a.2 vs.length := fun {arr t} hb hle j hj => by
    have : a.2 + j < arr.size := by omega
    exact ⟨by rw [cell_at hb (Array.getElem?_eq_getElem this)]; rfl, by simp [World.frozen?, hb]⟩
  split at e
  · rename_i ty m cs
    obtain ⟨arr, b1, b2, b3⟩ := g2
    cases hb : Nat.ble (a.2 + len l 0) m
    · simp [hb] at e
    · simp only [hb, cond_true, Option.some.injEq] at e
      subst e
      have hle : a.2 + vs.length ≤ arr.size := by
        rw [len_eq, hl.length] at hb; simp at hb; omega
      obtain ⟨arr', c1, c2, c3, c4⟩ := setCells_heap ee.b ty (0, 0) vs a.2 w arr b1 hle
      exact ⟨ee, g1, there b1 hle, r.write ho g1 ⟨arr', c1, b2.put hl h1 c3 c4, by omega⟩ (setCells_size _ _ _ _) (fun k hk => setCells_other _ _ _ _ _ hk)⟩
  · rename_i ty s m cs
    obtain ⟨arr, b1, b2, b3, b4, b5⟩ := g2
    cases hb : Nat.ble (a.2 + len l 0) m
    · simp [hb] at e
    · simp only [hb, cond_true, Option.some.injEq] at e
      subst e
      have hle : a.2 + vs.length ≤ arr.size := by
        rw [len_eq, hl.length] at hb; simp at hb; omega
      obtain ⟨arr', c1, c2, c3, c4⟩ := setCells_heap ee.b ty (0, 0) vs a.2 w arr b1 hle
      exact ⟨ee, g1, there b1 hle, r.write ho g1 ⟨arr', c1, b2.put hl h1 c3 c4, by omega, by omega, b5⟩ (setCells_size _ _ _ _) (fun k hk => setCells_other _ _ _ _ _ hk)⟩
  · cases e
/-! ## making -/
def Env.add (ε : Env) (n : Nat) (e : E) : Env := fun m => if m = n then some e else ε m
theorem Ext.add {n : Nat} {e : E} (h : ε n = none) : Ext ε (ε.add n e) := fun m x hm => by
  unfold Env.add
  by_cases hc : m = n
  · subst hc; rw [h] at hm; cases hm
  · rw [if_neg hc]; exact hm
theorem Env.add_at (ε : Env) (n : Nat) (e : E) : ε.add n e n = some e := by simp [Env.add]
/-- a block is made, an object for it, at a name of one's own -/
theorem get_addA {h : H} {n m : Nat} {o : SO} : (h.addA n o).get m = if m = n then some o else h.get m := by
  simp only [H.addA, H.get, get_set]
theorem nx_addA {h : H} {m : Nat} {o : SO} (hle : m ≤ h.nx) : h.nx ≤ (h.addA m o).nx ∧ m < (h.addA m o).nx := by
  show h.nx ≤ (bif Nat.beq m h.nx then h.nx + 1 else h.nx) ∧ m < (bif Nat.beq m h.nx then h.nx + 1 else h.nx)
  cases hb : Nat.beq m h.nx
  · have : m ≠ h.nx := Nat.ne_of_beq_eq_false hb
    simp; omega
  · have := Nat.eq_of_beq_eq_true hb
    simp; omega
theorem Rep.makeA (r : Rep G ε h w) {m0 : Nat} (hm0 : ε m0 = none) (hle : m0 ≤ h.nx) {o : SO} {e : E} {ob : Obj} (hb : e.b = w.heap.size) (ho : Ob (ε.add m0 e) o e (w.alloc ob)) :
    Rep G (ε.add m0 e) (h.addA m0 o) (w.alloc ob) ∧ KpA m0 h ε w (h.addA m0 o) (ε.add m0 e) (w.alloc ob) := by
  have hx : Ext ε (ε.add m0 e) := Ext.add hm0
  obtain ⟨nx1, nx2⟩ := nx_addA (o := o) hle
  have old : ∀ k, k < w.heap.size → (w.alloc ob).heap[k]? = w.heap[k]? := fun k hk => by
    show (w.heap.push ob)[k]? = _; rw [Array.getElem?_push_lt hk, Array.getElem?_eq_getElem hk]
  refine ⟨⟨fun n hn => ?_, fun m q hq => ?_, fun a b qa qb ea eb ha hb' h1 h2 h3 => ?_, fun g hg => ?_⟩, ⟨hx, by show _ ≤ (w.heap.push ob).size; rw [Array.size_push]; omega, fun b hb' hi => old b hb', fun b hi => ?_, nx1, fun n _ hm => by unfold Env.add; rw [if_neg hm], ⟨rfl, rfl, rfl⟩, fun a m cs hg => ?_⟩⟩
  · unfold Env.add
    rw [if_neg (by omega)]
    exact r.fresh n (by omega)
  · rw [get_addA] at hq
    by_cases hc : m = m0
    · subst hc; rw [if_pos rfl] at hq; cases hq; exact ⟨e, Env.add_at _ _ _, ho⟩
    · rw [if_neg hc] at hq
      obtain ⟨e2, h1, h2⟩ := r.obj m q hq
      exact ⟨e2, hx _ _ h1, (h2.mono hx).keep (old _ h2.lt)⟩
  · rw [get_addA] at ha hb'
    have low : ∀ m q e2, m ≠ m0 → h.get m = some q → (ε.add m0 e) m = some e2 → ε m = some e2 ∧ e2.b < w.heap.size := fun m q e2 hm hq he2 => by
      obtain ⟨e3, g1, g2⟩ := r.obj m q hq
      have : ε m = some e2 := by unfold Env.add at he2; rwa [if_neg hm] at he2
      rw [g1] at this; cases this
      exact ⟨g1, g2.lt⟩
    by_cases ca : a = m0 <;> by_cases cb : b = m0
    · rw [ca, cb]
    · rw [if_neg cb] at hb'
      have := low b qb eb cb hb' h2
      subst ca
      rw [Env.add_at] at h1; cases h1
      omega
    · rw [if_neg ca] at ha
      have := low a qa ea ca ha h1
      subst cb
      rw [Env.add_at] at h2; cases h2
      omega
    · rw [if_neg ca] at ha
      rw [if_neg cb] at hb'
      exact r.inj a b qa qb ea eb ha hb' (low a qa ea ca ha h1).1 (low b qb eb cb hb' h2).1 h3
  · obtain ⟨e2, h1, h2⟩ := r.gl g hg
    exact ⟨e2, hx _ _ h1, h2⟩
  · obtain ⟨m, q, e2, h1, h2, h3⟩ := hi
    rw [get_addA] at h1
    by_cases hc : m = m0
    · subst hc; rw [Env.add_at] at h2; cases h2; exact .inr (by omega)
    · rw [if_neg hc] at h1
      obtain ⟨e3, g1, _⟩ := r.obj m q h1
      unfold Env.add at h2
      rw [if_neg hc] at h2
      exact .inl ⟨m, q, e2, h1, h2, h3⟩
  · obtain ⟨e3, g1, g2⟩ := r.obj a _ hg
    have hne : a ≠ m0 := fun hc => by subst hc; rw [hm0] at g1; cases g1
    refine ⟨by rw [get_addA, if_neg hne]; exact hg, fun e2 he2 => ?_⟩
    rw [g1] at he2; cases he2
    exact old _ g2.lt
theorem addA_nx {h : H} {o : SO} : h.addA h.nx o = h.add o := by
  show (⟨h.h.set h.nx (some o), bif Nat.beq h.nx h.nx then h.nx + 1 else h.nx⟩ : H) = _
  rw [Nat.beq_refl]; rfl
theorem Rep.make (r : Rep G ε h w) {o : SO} {e : E} {ob : Obj} (hb : e.b = w.heap.size) (ho : Ob (ε.add h.nx e) o e (w.alloc ob)) :
    Rep G (ε.add h.nx e) (h.add o) (w.alloc ob) ∧ Kp h ε w (h.add o) (ε.add h.nx e) (w.alloc ob) := by
  have := r.makeA (r.fresh _ (Nat.le_refl _)) (Nat.le_refl _) hb ho
  rwa [addA_nx] at this
theorem Cs.new {l : List SV} {vs : List Value} (hl : Rs ε l vs) (h1 : ∀ x ∈ vs, x.oneCell' = true) : Cs ε vs.length (putL .e l 0) vs.toArray := fun k hk => by
  have hx : l[k]? = some (l[k]'(by rw [hl.length]; omega)) := List.getElem?_eq_getElem _
  obtain ⟨y, hy, hr⟩ := hl.get k hx
  refine ⟨_, y, ?_, by simpa using hy, hr, h1 y (List.mem_of_getElem? hy)⟩
  have e := hl.length
  rw [putL_get, if_pos ⟨Nat.zero_le _, by omega⟩]
  simpa using hx
theorem Rep.rowA (r : Rep G ε h w) {m0 : Nat} (hm0 : ε m0 = none) (hle : m0 ≤ h.nx) {t : Nat} {l : List SV} {vs : List Value} (hl : Rs ε l vs) (h1 : ∀ x ∈ vs, x.oneCell' = true) :
    Rep G (ε.add m0 ⟨w.heap.size, 0, 0⟩) (h.addA m0 (row t l)) (w.alloc (.cells vs.toArray t)) ∧ KpA m0 h ε w (h.addA m0 (row t l)) (ε.add m0 ⟨w.heap.size, 0, 0⟩) (w.alloc (.cells vs.toArray t)) := by
  have hx : Ext ε (ε.add m0 ⟨w.heap.size, 0, 0⟩) := Ext.add hm0
  refine r.makeA hm0 hle rfl ⟨vs.toArray, by show (w.heap.push _)[w.heap.size]? = _; simp, ?_, by rw [len_eq, hl.length]; simp⟩
  rw [len_eq, hl.length, Nat.add_zero]
  exact Cs.new (hl.mono hx) h1
end Go.Ev
