/-
  append, copy, clear, len, min, max, ==: the evaluator's and the model's. No statement.
-/
import Derived.Test.YtlncjakfckdjcaaGreatDoorEvT
import Derived.Laws.AppendOwn
import Derived.Laws.Pointers
set_option linter.all false
set_option maxRecDepth 100000
set_option maxHeartbeats 2000000
namespace Go.Ev
open Go
variable {P : Program} {G : Nat} {ε : Env} {h h' : H} {w : World}
theorem cell_heap {w w2 : World} (e : w2.heap = w.heap) (a : Addr) : w2.cell? a = w.cell? a := by simp [World.cell?, e]
theorem lenV_R {x : SV} {x' : Value} {n : Nat} (e : lenV x = some n) (hx : R ε x x') : (∃ a c, x' = .slice a n c) ∧ ∀ w : World, (Builtin.lenOf x').run P w = .ok n w := by
  unfold lenV at e
  split at e <;> cases e <;> cases hx <;> exact ⟨⟨_, _, rfl⟩, fun _ => rfl⟩
theorem loadCells_nil (a : Addr) (w : World) : (loadCells a 0).run P w = .ok #[] w := by simp [loadCells, loadCellsFrom]
theorem firstC_R (r : Rep G ε h w) {s n : Nat} {x : SV} {x' : Value} {l : List SV} (e : firstC h s n x = some l) (hx : R ε x x') :
    ∃ vs, Rs ε l vs ∧ vs.length = n * s ∧ (∀ u ∈ vs, u.oneCell' = true) ∧ ∀ w2 : World, w2.heap = w.heap → (Builtin.firstCells s n x').run P w2 = .ok vs.toArray w2 := by
  have nilc : ∀ {a : Addr} {ln c : Nat}, n * s = 0 → ∀ w2 : World, (Builtin.firstCells s n (.slice (some a) ln c)).run P w2 = .ok ([] : List Value).toArray w2 := fun {a ln c} h0 w2 => by
    simp only [Builtin.firstCells, h0]; exact loadCells_nil a w2
  have some_ : ∀ {b o ln c : Nat} {vs : List Value}, vs.length = n * s → w.rangeAt b o vs → ∀ w2 : World, w2.heap = w.heap → (Builtin.firstCells s n (.slice (some ⟨b, o, none⟩) ln c)).run P w2 = .ok vs.toArray w2 := fun {b o ln c vs} hl hr w2 he =>
    run_firstCells_some w2 s n ⟨b, o, none⟩ ln c vs hl (fun j v hv => by rw [cell_heap he, add_pos]; exact hr j v hv)
  unfold firstC at e
  split at e
  · rename_i a ln c
    cases hb : Nat.beq (n * s) 0
    · simp only [hb, cond_false] at e
      obtain ⟨ee, vs, g1, g2, g3, g4, g5⟩ := loadC_R r e
      cases hx with
      | s l c he => rw [he] at g1; cases g1; exact ⟨vs, g2, g3, g4, some_ g3 g5⟩
    · simp only [hb, cond_true, Option.some.injEq] at e
      subst e
      have h0 : n * s = 0 := bqi.1 hb
      cases hx with
      | s l c he => exact ⟨[], .nil, h0.symm, by simp, fun w2 _ => nilc h0 w2⟩
  · cases hb : Nat.beq n 0
    · (simp only [hb, cond_false] at e; cases e)
    · simp only [hb, cond_true, Option.some.injEq] at e
      subst e
      have h0 : n = 0 := bqi.1 hb
      cases hx with
      | sn l c => exact ⟨[], .nil, by simp [h0], by simp, fun w2 _ => by simp [Builtin.firstCells]⟩
  · rename_i b i ln
    cases hb : Nat.beq (n * s) 0
    · simp only [hb, cond_false, Option.bind_eq_some_iff] at e
      obtain ⟨o, ho, e⟩ := e
      obtain ⟨e2, k1, k2⟩ := r.obj _ _ ho
      split at e
      · rename_i ty' s' m cs
        cases hss : Nat.beq s s'
        · (simp only [hss, cond_false] at e; cases e)
        · simp only [hss, cond_true] at e
          have : s = s' := bqi.1 hss
          subst this
          obtain ⟨arr, b1, b2, b3, b4, b5⟩ := k2
          obtain ⟨ee, vs, g1, g2, g3, g4, g5⟩ := loadC_R r e
          rw [k1] at g1; cases g1
          cases hx with
          | o he => rw [he] at k1; cases k1; exact ⟨vs, g2, g3, g4, by rw [b5]; exact some_ g3 g5⟩
      · cases e
    · simp only [hb, cond_true, Option.some.injEq] at e
      subst e
      have h0 : n * s = 0 := bqi.1 hb
      cases hx with
      | o he => exact ⟨[], .nil, h0.symm, by simp, fun w2 _ => nilc h0 w2⟩
  · cases hb : Nat.beq n 0
    · (simp only [hb, cond_false] at e; cases e)
    · simp only [hb, cond_true, Option.some.injEq] at e
      subst e
      have h0 : n = 0 := bqi.1 hb
      cases hx with
      | z a c =>
        refine ⟨[], .nil, by simp [h0], by simp, fun w2 _ => ?_⟩
        cases a with
        | none => simp [Builtin.firstCells]
        | some a => exact nilc (by simp [h0]) w2
  · cases e
theorem next_le {need old : Nat} (ho : old < need) : Builtin.nextslicecap need old ≤ 2 * need + 768 := by
  unfold Builtin.nextslicecap
  split
  · omega
  · split
    · omega
    · rw [growBy_four]
      repeat' split
      all_goals omega
theorem get_lt (r : Rep G ε h w) {n : Nat} {o : SO} (e : h.get n = some o) : n < h.nx := by
  obtain ⟨e2, h1, _⟩ := r.obj n o e
  rcases Nat.lt_or_ge n h.nx with hl | hl
  · exact hl
  · rw [r.fresh n hl] at h1; cases h1
theorem Rep.drop (r : Rep G ε h w) (n : Nat) (hng : ∀ m cs, h.get n ≠ some (.g m cs)) : Rep G ε (h.put n none) w ∧ Kp h ε w (h.put n none) ε w := by
  have back : ∀ m q, (h.put n none).get m = some q → h.get m = some q := fun m q hq => by
    rw [get_put_h] at hq
    by_cases hmn : m = n
    · rw [if_pos hmn] at hq; cases hq
    · rwa [if_neg hmn] at hq
  exact ⟨⟨r.fresh, fun m q hq => r.obj m q (back m q hq), fun a b qa qb ea eb ha hb h1 h2 h3 => r.inj a b qa qb ea eb (back _ _ ha) (back _ _ hb) h1 h2 h3, r.gl⟩,
    ⟨Ext.refl _, Nat.le_refl _, fun _ _ _ => rfl, fun b ⟨m, q, e, h1, h2, h3⟩ => .inl ⟨m, q, e, back m q h1, h2, h3⟩, Nat.le_refl _, fun _ _ _ => rfl, SameW.refl w, fun a m cs hg => ⟨by rw [get_put_h, if_neg (fun hc => by subst hc; exact hng m cs hg)]; exact hg, fun _ _ => rfl⟩⟩⟩
/-- a name goes, another one takes its block -/
theorem Rep.move (r : Rep G ε h w) {n : Nat} {o o' : SO} {e e' : E} {w' : World} (hn : h.get n = some o) (he : ε n = some e) (hb : e'.b = e.b) (ho : Ob (ε.add h.nx e') o' e' w')
    (hs : w'.heap.size = w.heap.size) (hk : ∀ k, k ≠ e.b → w'.heap[k]? = w.heap[k]?) (hsm : SameW w w' := by first | exact ⟨rfl, rfl, rfl⟩ | exact setCells_same _ _ _ _) (hng : ∀ m cs, o ≠ .g m cs := by intro _ _ h; cases h) :
    Rep G (ε.add h.nx e') ((h.put n none).add o') w' ∧ Kp h ε w ((h.put n none).add o') (ε.add h.nx e') w' := by
  have hx : Ext ε (ε.add h.nx e') := Ext.add (r.fresh _ (Nat.le_refl _))
  have gx : ∀ m q, ((h.put n none).add o').get m = some q → (m = h.nx ∧ q = o') ∨ (m ≠ h.nx ∧ m ≠ n ∧ h.get m = some q) := fun m q hq => by
    rw [get_add, show (h.put n none).nx = h.nx from rfl] at hq
    by_cases hc : m = h.nx
    · rw [if_pos hc] at hq; cases hq; exact .inl ⟨hc, rfl⟩
    · rw [if_neg hc, get_put_h] at hq
      by_cases hmn : m = n
      · rw [if_pos hmn] at hq; cases hq
      · rw [if_neg hmn] at hq; exact .inr ⟨hc, hmn, hq⟩
  have old : ∀ (m : Nat) (e2 : E), m ≠ h.nx → (ε.add h.nx e') m = some e2 → ε m = some e2 := fun m e2 hm h2 => by unfold Env.add at h2; rwa [if_neg hm] at h2
  have apart : ∀ m q e2, m ≠ n → h.get m = some q → ε m = some e2 → e2.b ≠ e.b := fun m q e2 hm hq h2 hc => hm (r.inj m n q o e2 e hq hn h2 he hc)
  refine ⟨⟨fun m hm => ?_, fun m q hq => ?_, fun a b qa qb ea eb ha hb' h1 h2 h3 => ?_, fun g hg => ?_⟩, ⟨hx, by omega, fun b hb' hi => hk b (fun hc => hi ⟨n, o, e, hn, he, hc.symm⟩), fun b ⟨m, q, e2, h1, h2, h3⟩ => ?_, Nat.le_succ _, fun n _ hm => by unfold Env.add; rw [if_neg hm], hsm, fun a m cs hg => ?_⟩⟩
  · have hm' : h.nx + 1 ≤ m := hm
    unfold Env.add
    rw [if_neg (by omega)]
    exact r.fresh m (by omega)
  · rcases gx m q hq with ⟨rfl, rfl⟩ | ⟨hc, hmn, hq⟩
    · exact ⟨e', Env.add_at _ _ _, ho⟩
    · obtain ⟨e2, h1, h2⟩ := r.obj m q hq
      exact ⟨e2, hx _ _ h1, (h2.mono hx).keep (hk _ (apart m q e2 hmn hq h1))⟩
  · rcases gx a qa ha with ⟨rfl, rfl⟩ | ⟨hca, hna, hqa⟩ <;> rcases gx b qb hb' with ⟨rfl, rfl⟩ | ⟨hcb, hnb, hqb⟩
    · rfl
    · rw [Env.add_at] at h1; cases h1
      exact absurd (h3.symm.trans hb) (apart b qb eb hnb hqb (old b eb hcb h2))
    · rw [Env.add_at] at h2; cases h2
      exact absurd (h3.trans hb) (apart a qa ea hna hqa (old a ea hca h1))
    · exact r.inj a b qa qb ea eb hqa hqb (old a ea hca h1) (old b eb hcb h2) h3
  · obtain ⟨e2, h1, h2⟩ := r.gl g hg
    exact ⟨e2, hx _ _ h1, h2⟩
  · rcases gx m q h1 with ⟨rfl, rfl⟩ | ⟨hc, hmn, hq⟩
    · rw [Env.add_at] at h2; cases h2
      exact .inl ⟨n, o, e, hn, he, hb.symm.trans h3⟩
    · exact .inl ⟨m, q, e2, hq, old m e2 hc h2, h3⟩
  · have hne : a ≠ n := fun hc => by subst hc; rw [hn] at hg; exact hng m cs (Option.some.inj hg)
    have hnx : a ≠ h.nx := fun hc => by have := get_lt r hg; omega
    refine ⟨by rw [get_add, show (h.put n none).nx = h.nx from rfl, if_neg hnx, get_put_h, if_neg hne]; exact hg, fun e2 he2 => hk _ fun hc => apart a _ e2 hne hg he2 hc⟩
theorem zeroCells_size (z : Array Value) (n : Nat) : (Builtin.zeroCells z n).size = n * z.size := size_zeroCells z n
/-- what grows: the new row -/
theorem grow_Ob (r : Rep G ε h w) {e' : E} {t s need cap : Nat} {old new : List SV} {olds news : List Value} {z : Array Value} (h1 : Rs ε old olds) (h2 : Rs ε new news) (o1 : ∀ u ∈ olds, u.oneCell' = true) (o2 : ∀ u ∈ news, u.oneCell' = true)
    (hx : Ext ε (ε.add h.nx ⟨w.heap.size, cap, s⟩)) (hl : olds.length + news.length = need * s) (hz : z.size = s) (hc : need ≤ cap) :
    Ob (ε.add h.nx ⟨w.heap.size, cap, s⟩) (.w t s (need * s) (putL .e (app old new) 0)) ⟨w.heap.size, cap, s⟩ (w.drew.alloc (.cells ((olds ++ news).toArray ++ Builtin.zeroCells z (cap - need)) t)) := by
  have hlen : (olds ++ news).length = need * s := by simp [hl]
  have hC := Cs.new ((h1.append h2).mono hx) (fun u hu => (List.mem_append.1 hu).elim (o1 u) (o2 u))
  rw [hlen] at hC
  have hsz : ((olds ++ news).toArray ++ Builtin.zeroCells z (cap - need)).size = cap * s := by
    rw [Array.size_append, zeroCells_size, hz]
    simp only [List.size_toArray, hlen]
    rw [← Nat.add_mul]
    congr 1
    omega
  refine ⟨_, by show (w.heap.push _)[w.heap.size]? = _; simp, fun k hk => ?_, hsz, ?_, rfl⟩
  · obtain ⟨v, x, a, b, c, d⟩ := hC k hk
    refine ⟨v, x, by rw [app_eq]; exact a, ?_, c, d⟩
    have hk2 : k < (olds ++ news).toArray.size := by simp only [List.size_toArray, hlen]; exact hk
    rw [Array.getElem?_append_left hk2]
    exact b
  · rw [hsz]; exact Nat.mul_le_mul_right s hc
theorem appS_R (r : Rep G ε h w) {ts : List Nat} {tyr : TypeId} {x y v : SV} {x' y' : Value} (e : appS P h ts x y = some (v, h')) (hx : R ε x x') (hy : R ε y y') :
    Goes P G ε h w v h' (Builtin.append_ ts.toArray tyr #[x', y']) := by
  unfold appS at e
  split at e
  · rename_i t u
    simp only [Option.bind_eq_some_iff] at e
    obtain ⟨d, hd, el, hel, d', hd', el', hel', i, hi, n, hn, new, hnew, z, hz, e⟩ := e
    have := asSl_eq hel; subst this
    have := asSl_eq hel'; subst this
    have hi' := ty_info hi
    cases hc : (Nat.ble n GREAT && Nat.ble i.bytes GREAT && Nat.blt 0 i.size && Nat.beq z.cells.toList.length i.size)
    · (simp only [hc, cond_false] at e; cases e)
    simp only [hc, cond_true] at e
    simp only [Bool.and_eq_true, Nat.ble_eq, Nat.blt, bqi] at hc
    obtain ⟨⟨⟨c1, c2⟩, c3⟩, c4⟩ := hc
    have hzs : z.cells.size = i.size := by simpa using c4
    obtain ⟨⟨ya, yc, rfl⟩, hlen⟩ := lenV_R (P := P) hn hy
    obtain ⟨news, n1, n2, n3, n4⟩ := firstC_R (P := P) r hnew hy
    have src : ∀ w2 : World, w2.heap = w.heap → Src P i.size u (.slice ya n yc) n news w2 := fun w2 he =>
      ⟨.inl ⟨el', und_eq hd'⟩, hlen, n4 w2 he, n4 w2.drew he, n2, n3⟩
    have hG : (2 * (GREAT + GREAT) + 768) * GREAT ≤ 281474976710656 := by decide
    have hfit : ∀ {ln cap : Nat}, ln ≤ GREAT → cap < ln + n → ((ln + n : Nat) : Int) ≤ 9223372036854775807 ∧ Builtin.nextslicecap (ln + n) cap * i.bytes ≤ 281474976710656 := fun {ln cap} h1 h2 => by
      have hg : GREAT = 1000000 := rfl
      refine ⟨by omega, ?_⟩
      calc Builtin.nextslicecap (ln + n) cap * i.bytes ≤ (2 * (GREAT + GREAT) + 768) * GREAT := Nat.mul_le_mul (Nat.le_trans (next_le h2) (by omega)) c2
        _ ≤ _ := hG
    /- the row that grows -/
    have grows : ∀ {h0 : H} {w0 : World} {ln cap : Nat} {base : Option Addr} {old : List SV} {olds : List Value}, Rep G ε h0 w → h0.nx = h.nx → Rs ε old olds → olds.length = ln * i.size → (∀ q ∈ olds, q.oneCell' = true) →
        (Builtin.firstCells i.size ln (.slice base ln cap)).run P w.drew = .ok olds.toArray w.drew → ln ≤ GREAT → cap < ln + n →
        ∃ w', (Builtin.append_ #[t, u] tyr #[.slice base ln cap, .slice ya n yc]).run P w = .ok (.slice (some ⟨w.heap.size, 0, none⟩) (ln + n) (grownCap w (ln + n) cap el)) w' ∧
          Rep G (ε.add h.nx ⟨w.heap.size, grownCap w (ln + n) cap el, i.size⟩) (h0.add (.w el i.size ((ln + n) * i.size) (putL .e (app old new) 0))) w' ∧
          Kp h0 ε w (h0.add (.w el i.size ((ln + n) * i.size) (putL .e (app old new) 0))) (ε.add h.nx ⟨w.heap.size, grownCap w (ln + n) cap el, i.size⟩) w' := by
      intro h0 w0 ln cap base old olds r0 hnx ho hol ho1 hrun hle hlt
      obtain ⟨f1, f2⟩ := hfit hle hlt
      have hr := run_append_grow_src w t u tyr el i z (und_eq hd) hi' hz base ln cap olds hrun (.slice ya n yc) n news (src w rfl) hlt f1 f2
      have hcap := grownCap_ge w (ln + n) cap el
      have rd : Rep G ε h0 w.drew := r0.heapEq rfl
      have hOb := grow_Ob (h := h0) (t := el) (e' := ⟨0, 0, 0⟩) r0 ho n1 ho1 n3 (Ext.add (r0.fresh _ (Nat.le_refl _))) (s := i.size) (need := ln + n) (by rw [hol, n2, Nat.add_mul]) hzs hcap
      obtain ⟨m1, m2⟩ := rd.make (e := ⟨w.heap.size, grownCap w (ln + n) cap el, i.size⟩) rfl hOb
      rw [hnx] at m1 m2
      exact ⟨_, hr, m1, ⟨m2.ext, m2.size, m2.keep, m2.img, m2.nx, m2.old, m2.same, m2.ro⟩⟩
    split at e
    · rename_i a ln cap
      cases hn0 : Nat.beq n 0
      · simp only [hn0, cond_false] at e
        cases hroom : Nat.ble (ln + n) cap
        · simp only [hroom, cond_false] at e
          cases hle : Nat.ble ln GREAT
          · (simp only [hle, cond_false] at e; cases e)
          simp only [hle, cond_true, Option.bind_eq_some_iff, Option.some.injEq, Prod.mk.injEq] at e
          obtain ⟨old, hold, rfl, rfl⟩ := e
          obtain ⟨olds, o1, o2, o3, o4⟩ := firstC_R (P := P) r hold hx
          have hlt : cap < ln + n := by
            have : ¬ (ln + n ≤ cap) := fun hc => by rw [Nat.ble_eq_true_of_le hc] at hroom; cases hroom
            omega
          have hx' : ∃ base, x' = .slice base ln cap := by cases hx <;> exact ⟨_, rfl⟩
          obtain ⟨base, rfl⟩ := hx'
          obtain ⟨w', g1, g2, g3⟩ := grows (w0 := w) r rfl o1 o2 o3 (o4 w.drew rfl) (Nat.le_of_ble_eq_true hle) hlt
          refine ⟨_, w', _, g1, ?_, g2, g3⟩
          have := R.o (ε := ε.add h.nx ⟨w.heap.size, grownCap w (ln + n) cap el, i.size⟩) (n := h.nx) (i := 0) (l := ln + n) (Env.add_at _ _ _)
          simpa using this
        · simp only [hroom, cond_true] at e
          split at e
          · rename_i a
            simp only [Option.bind_eq_some_iff, Option.some.injEq, Prod.mk.injEq] at e
            obtain ⟨h2, hst, rfl, rfl⟩ := e
            obtain ⟨ee, s1, s2, s3, s4⟩ := storeC_R r hst n1 n3
            cases hx with
            | s l c he =>
              rw [he] at s1; cases s1
              exact ⟨_, _, ε, run_append_room_src w t u tyr el i (und_eq hd) hi' ee.b _ ln cap (.slice ya n yc) n news (src w rfl) (Nat.le_of_ble_eq_true hroom) (fun j hj => (s2 j hj).1) (fun j hj => (s2 j hj).2), .s _ _ he, s3, s4⟩
          · cases e
      · simp only [hn0, cond_true] at e
        cases hle : Nat.ble ln cap
        · (simp only [hle, cond_false] at e; cases e)
        · simp only [hle, cond_true, Option.some.injEq, Prod.mk.injEq] at e
          obtain ⟨rfl, rfl⟩ := e
          have h0 : n = 0 := bqi.1 hn0
          subst h0
          have hnil : news = [] := by apply List.eq_nil_of_length_eq_zero; rw [n2]; simp
          subst hnil
          have hx' : ∃ base, x' = .slice base ln cap := by cases hx <;> exact ⟨_, rfl⟩
          obtain ⟨base, rfl⟩ := hx'
          exact Goes.still r (run_append_nothing w t u tyr el i (und_eq hd) hi' base ln cap (Nat.le_of_ble_eq_true hle) (.slice ya 0 yc) (src w rfl)) hx
    · rename_i b j ln
      simp only [Option.bind_eq_some_iff] at e
      obtain ⟨o, ho, e⟩ := e
      obtain ⟨ee, k1, k2⟩ := r.obj _ _ ho
      split at e
      · rename_i e' s' m cs
        cases hcc : (Nat.beq i.size s' && Nat.beq el e')
        · (simp only [hcc, cond_false] at e; cases e)
        simp only [hcc, cond_true] at e
        simp only [Bool.and_eq_true, bqi] at hcc
        obtain ⟨rfl, rfl⟩ := hcc
        cases hn0 : Nat.beq n 0
        · simp only [hn0, cond_false] at e
          obtain ⟨arr, b1, b2, b3, b4, b5⟩ := k2
          cases hroom : Nat.ble ((j + ln + n) * i.size) m
          · simp only [hroom, cond_false] at e
            cases hj : (Nat.beq j 0 && Nat.ble ln GREAT)
            · (simp only [hj, cond_false] at e; cases e)
            simp only [hj, cond_true, Option.bind_eq_some_iff, Option.some.injEq, Prod.mk.injEq] at e
            simp only [Bool.and_eq_true, bqi, Nat.ble_eq] at hj
            obtain ⟨rfl, hle⟩ := hj
            obtain ⟨old, hold, rfl, rfl⟩ := e
            obtain ⟨olds, o1, o2, o3, o4⟩ := firstC_R (P := P) r hold hx
            cases hx with
            | o he =>
              rw [he] at k1; cases k1
              simp only [Nat.zero_mul, Nat.sub_zero] at o4 ⊢
              rcases Nat.lt_or_ge ee.c (ln + n) with hlt | hge
              · obtain ⟨d1, d2⟩ := r.drop b (fun m cs hc => by rw [ho] at hc; cases hc)
                obtain ⟨w', g1, g2, g3⟩ := grows (w0 := w) d1 rfl o1 o2 o3 (o4 w.drew rfl) hle hlt
                refine ⟨_, w', _, g1, ?_, g2, d2.trans g3⟩
                have := R.o (ε := ε.add h.nx ⟨w.heap.size, grownCap w (ln + n) ee.c el, i.size⟩) (n := h.nx) (i := 0) (l := ln + n) (Env.add_at _ _ _)
                simpa using this
              · have hcs : (ln + n) * i.size ≤ arr.size := by rw [b3]; exact Nat.mul_le_mul_right _ hge
                have hoff : ln * i.size + news.length ≤ arr.size := by rw [n2, ← Nat.add_mul]; exact hcs
                obtain ⟨arr', q1, q2, q3, q4⟩ := setCells_heap ee.b el (0, 0) news (ln * i.size) w arr b1 hoff
                have hrun := run_append_room_src w t u tyr el i (und_eq hd) hi' ee.b 0 ln ee.c (.slice ya n yc) n news (src w rfl) hge
                  (fun k hk => by
                    have : 0 + ln * i.size + k < arr.size := by omega
                    rw [cell_at b1 (Array.getElem?_eq_getElem this)]; rfl)
                  (fun k hk => by simp [World.frozen?, b1])
                simp only [Nat.zero_add] at hrun
                have holds : ∀ k, k < olds.length → arr[k]? = olds[k]? := fun k hk => by
                  have h1 := o4 w rfl
                  have h3 : w.rangeAt ee.b 0 olds := by
                    unfold firstC at hold
                    simp only [Nat.zero_mul] at hold
                    cases hz0 : Nat.beq (ln * i.size) 0
                    · simp only [hz0, cond_false, Option.bind_eq_some_iff] at hold
                      obtain ⟨o2', ho2, hold⟩ := hold
                      rw [ho] at ho2; cases ho2
                      simp only [Nat.beq_refl, cond_true] at hold
                      obtain ⟨e3, vs, t1, t2, t3, t4, t5⟩ := loadC_R r hold
                      rw [he] at t1; cases t1
                      have hf := run_firstCells_some (P := P) w i.size ln ⟨ee.b, 0, none⟩ ln ee.c vs t3 (fun j v hv => by rw [add_pos]; exact t5 j v hv)
                      rw [hf] at h1
                      simp only [Result.ok.injEq, and_true] at h1
                      have : vs = olds := by simpa using h1
                      rw [← this]; exact t5
                    · have h0 : ln * i.size = 0 := bqi.1 hz0
                      have : olds = [] := List.eq_nil_of_length_eq_zero (by omega)
                      subst this
                      intro j v hv; simp at hv
                  have h4 := h3 k olds[k] (List.getElem?_eq_getElem hk)
                  simp only [World.cell?, b1, Nat.zero_add] at h4
                  rw [List.getElem?_eq_getElem hk]
                  simpa using h4
                have hxt : Ext ε (ε.add h.nx ⟨ee.b, ee.c, i.size⟩) := Ext.add (r.fresh _ (Nat.le_refl _))
                obtain ⟨m1, m2⟩ := r.move (e' := ⟨ee.b, ee.c, i.size⟩) (o' := .w el i.size ((ln + n) * i.size) (putL .e (app old new) 0)) (w' := w.setCells ee.b (ln * i.size) news) ho he rfl
                  ⟨arr', q1, fun k hk => by
                    have hlk : (old ++ new).length = (olds ++ news).length := (o1.append n1).length
                    have hll : (olds ++ news).length = (ln + n) * i.size := by simp [o2, n2, Nat.add_mul]
                    have hgx : (old ++ new)[k]? = some ((old ++ new)[k]'(by omega)) := List.getElem?_eq_getElem _
                    obtain ⟨yv, hyv, hyr⟩ := (o1.append n1).get k hgx
                    refine ⟨_, yv, by rw [putL_get, app_eq, if_pos ⟨Nat.zero_le _, by omega⟩]; simpa using hgx, ?_, hyr.mono hxt, ?_⟩
                    · by_cases hko : k < olds.length
                      · rw [q4 k (.inl (by omega)), holds k hko, ← hyv, List.getElem?_append_left hko]
                      · have := q3 (k - olds.length) yv (by rw [← hyv, List.getElem?_append_right (by omega)])
                        rwa [show ln * i.size + (k - olds.length) = k by omega] at this
                    · have := List.mem_of_getElem? hyv
                      rcases List.mem_append.1 this with hm | hm
                      · exact o3 _ hm
                      · exact n3 _ hm, by rw [q2, b3], by rw [q2]; exact hcs, rfl⟩
                  (setCells_size _ _ _ _) (fun k hk => setCells_other _ _ _ _ _ hk)
                refine ⟨_, _, _, hrun, ?_, m1, m2⟩
                have := R.o (ε := ε.add h.nx ⟨ee.b, ee.c, i.size⟩) (n := h.nx) (i := 0) (l := ln + n) (Env.add_at _ _ _)
                simpa using this
          · simp only [hroom, cond_true, Option.bind_eq_some_iff, Option.some.injEq, Prod.mk.injEq] at e
            obtain ⟨h2, hst, rfl, rfl⟩ := e
            obtain ⟨e3, s1, s2, s3, s4⟩ := storeC_R r hst n1 n3
            cases hx with
            | @o _ _ _ e9 he =>
              have h9 : e3 = e9 := Option.some.inj (s1.symm.trans he)
              have h8 : ee = e9 := Option.some.inj (k1.symm.trans he)
              subst h9
              subst h8
              have hcap : j + ln + n ≤ ee.c := by
                have h1 : (j + ln + n) * i.size ≤ ee.c * i.size := Nat.le_trans (Nat.le_of_ble_eq_true hroom) (by omega)
                exact Nat.le_of_mul_le_mul_right h1 (by omega)
              rw [b5]
              simp only [Nat.add_mul] at s2 s3 s4
              have hrun := run_append_room_src w t u tyr el i (und_eq hd) hi' ee.b (j * i.size) ln (ee.c - j) (.slice ya n yc) n news (src w rfl) (by omega) (fun k hk => (s2 k hk).1) (fun k hk => (s2 k hk).2)
              refine ⟨_, _, ε, hrun, ?_, s3, s4⟩
              have := R.o (ε := ε) (n := b) (i := j) (l := ln + n) he
              rw [b5] at this
              exact this
        · simp only [hn0, cond_true] at e
          cases hle : Nat.ble ((j + ln) * i.size) m
          · (simp only [hle, cond_false] at e; cases e)
          · simp only [hle, cond_true, Option.some.injEq, Prod.mk.injEq] at e
            obtain ⟨rfl, rfl⟩ := e
            have h0 : n = 0 := bqi.1 hn0
            subst h0
            have hnil : news = [] := by apply List.eq_nil_of_length_eq_zero; rw [n2]; simp
            subst hnil
            obtain ⟨arr, b1, b2, b3, b4, b5⟩ := k2
            cases hx with
            | @o _ _ _ e9 he =>
              have h8 : ee = e9 := Option.some.inj (k1.symm.trans he)
              subst h8
              have hcap : j + ln ≤ ee.c := by
                have h1 : (j + ln) * i.size ≤ ee.c * i.size := Nat.le_trans (Nat.le_of_ble_eq_true hle) (by omega)
                exact Nat.le_of_mul_le_mul_right h1 (by omega)
              exact Goes.still r (run_append_nothing w t u tyr el i (und_eq hd) hi' _ ln (ee.c - j) (by omega) (.slice ya 0 yc) (src w rfl)) (.o he)
      · cases e
    · cases e
  · cases e
end Go.Ev
