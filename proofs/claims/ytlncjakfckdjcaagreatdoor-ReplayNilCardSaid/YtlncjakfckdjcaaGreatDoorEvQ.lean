/-
  copy, clear, len, min, max, ==, and each operation: the evaluator's and the model's. No statement.
-/
import Derived.Test.YtlncjakfckdjcaaGreatDoorEvP
import Derived.Laws.Small
set_option linter.all false
set_option maxRecDepth 100000
set_option maxHeartbeats 2000000
namespace Go.Ev
open Go
variable {P : Program} {G : Nat} {ε : Env} {h h' : H} {w : World}
theorem copyS_R (r : Rep G ε h w) {ts : List Nat} {tyr : TypeId} {x y v : SV} {x' y' : Value} (e : copyS P h ts x y = some (v, h')) (hx : R ε x x') (hy : R ε y y') :
    Goes P G ε h w v h' (Builtin.copy_ ts.toArray tyr #[x', y']) := by
  unfold copyS at e
  split at e
  · rename_i t u
    simp only [Option.bind_eq_some_iff] at e
    obtain ⟨d, hd, el, hel, s, hs, dl, hdl, m, hm, l, hl, e⟩ := e
    have := asSl_eq hel; subst this
    obtain ⟨⟨xa, xc, rfl⟩, _⟩ := lenV_R (P := P) hdl hx
    obtain ⟨_, hlen⟩ := lenV_R (P := P) hm hy
    obtain ⟨vs, n1, n2, n3, n4⟩ := firstC_R (P := P) r hl hy
    cases hn0 : Nat.beq (Nat.min m dl) 0
    · simp only [hn0, cond_false] at e
      split at e
      · rename_i a ln cp
        simp only [Option.bind_eq_some_iff, Option.some.injEq, Prod.mk.injEq] at e
        obtain ⟨h2, hst, rfl, rfl⟩ := e
        obtain ⟨ee, s1, s2, s3, s4⟩ := storeC_R r hst n1 n3
        cases hx with
        | s l c he =>
          rw [he] at s1; cases s1
          have hst' := run_storeCells_cells (P := P) ee.b _ vs 0 w (fun j hj => by simpa using (s2 j hj).1) (fun j hj => by simpa using (s2 j hj).2) n3
          simp only [Nat.add_zero] at hst'
          refine ⟨.int .i64 (.ofNat (Nat.min m dl)), _, ε, ?_, .i _ _, s3, s4⟩
          simp [Builtin.copy_, run_underlying (und_eq hd), Sem.run_bind, hlen, run_size hs, n4 w rfl, hst', goInt]
      · cases e
    · simp only [hn0, cond_true, Option.some.injEq, Prod.mk.injEq] at e
      obtain ⟨rfl, rfl⟩ := e
      have h0 : Nat.min m dl = 0 := bqi.1 hn0
      have hnil : vs = [] := List.eq_nil_of_length_eq_zero (by rw [n2, h0]; simp)
      subst hnil
      refine Goes.still r (v' := .int .i64 0) ?_ (.i _ _)
      have := n4 w rfl
      rw [h0] at this
      cases xa with
      | none => simp [Builtin.copy_, run_underlying (und_eq hd), Sem.run_bind, hlen, run_size hs, h0, this, goInt]
      | some a => simp [Builtin.copy_, run_underlying (und_eq hd), Sem.run_bind, hlen, run_size hs, h0, this, goInt, storeCells]
  · cases e
theorem clearS_R (r : Rep G ε h w) {ts : List Nat} {tyr : TypeId} {x v : SV} {x' : Value} (e : clearS P h ts x = some (v, h')) (hx : R ε x x') :
    Goes P G ε h w v h' (Builtin.clear_ ts.toArray tyr #[x']) := by
  unfold clearS at e
  split at e
  · rename_i t
    simp only [Option.bind_eq_some_iff] at e
    obtain ⟨d, hd, el, hel, n, hn, e⟩ := e
    have := asSl_eq hel; subst this
    obtain ⟨⟨xa, xc, rfl⟩, _⟩ := lenV_R (P := P) hn hx
    cases hn0 : Nat.beq n 0
    · simp only [hn0, cond_false, Option.bind_eq_some_iff] at e
      obtain ⟨s, hs, z, hz, e⟩ := e
      obtain ⟨i, zv, hi, hzv, hov⟩ := zeroS_info hz
      have hzr : R ε z zv := ofV_R hov
      cases hb : (Nat.beq (len (cellsOf z) 0) s && (cellsOf z).all sc)
      · simp only [hb, cond_false] at e; cases e
      simp only [hb, cond_true] at e
      rw [Bool.and_eq_true] at hb
      obtain ⟨hb, hsc⟩ := hb
      have hb := bqi.1 hb
      rw [len_eq, Nat.add_zero] at hb
      have hzl := hzr.cells.length
      have hsz : zv.cells.size = s := by rw [← hb, hzl]; simp
      have hone := one_of_sc hzr hsc
      have hrs : Rs ε (rep (cellsOf z) n) (rep zv.cells.toList n) := hzr.cells.rep n
      have hro : ∀ u ∈ rep zv.cells.toList n, u.oneCell' = true := rep_mem hone n
      have hne : n ≠ 0 := bqf.1 hn0
      obtain ⟨k, rfl⟩ : ∃ k, n = k + 1 := ⟨n - 1, by omega⟩
      have hzc : (Builtin.zeroCells zv.cells (k + 1)).toList = rep zv.cells.toList (k + 1) := by
        have := cells_rep zv.cells (k + 1) s hsz
        simp only [Builtin.zeroCells, hsz]
        rw [← hsz]
        rw [hsz]
        rw [hsz] at this
        rw [this]
      have hzero : ∀ w : World, (zeroValue el).run P w = .ok zv w := fun w => by simp [zeroValue, typeInfo, hi, hzv]
      have key : ∀ {a : Nat × Nat} {hh : H} {cp : Nat} {ee : E}, storeC h a (rep (cellsOf z) (k + 1)) = some hh → ε a.1 = some ee →
          Goes P G ε h w undefS hh (Builtin.clear_ #[t] tyr #[.slice (some ⟨ee.b, a.2, none⟩) (k + 1) cp]) := fun {a hh cp ee} hst hee => by
        obtain ⟨e2, s1, s2, s3, s4⟩ := storeC_R r hst hrs hro
        rw [hee] at s1; cases s1
        have hst' := run_storeCells_cells (P := P) ee.b a.2 (rep zv.cells.toList (k + 1)) 0 w (fun j hj => by simpa using (s2 j hj).1) (fun j hj => by simpa using (s2 j hj).2) hro
        simp only [Nat.add_zero] at hst'
        refine ⟨.tuple #[], _, ε, ?_, .t .nil, s3, s4⟩
        simp [Builtin.clear_, run_underlying (und_eq hd), Sem.run_bind, hzero, hzc, hst']
      split at e
      · rename_i a ln cp
        simp only [Option.bind_eq_some_iff, Option.some.injEq, Prod.mk.injEq] at e
        obtain ⟨h2, hst, rfl, rfl⟩ := e
        cases hx with
        | s l c he => exact key hst he
      · rename_i b i2 ln
        simp only [Option.bind_eq_some_iff] at e
        obtain ⟨o, ho, e⟩ := e
        obtain ⟨e2, k1, k2⟩ := r.obj _ _ ho
        split at e
        · rename_i ty' s' m cs
          cases hss : Nat.beq s s'
          · simp only [hss, cond_false] at e; cases e
          · simp only [hss, cond_true, Option.bind_eq_some_iff, Option.some.injEq, Prod.mk.injEq] at e
            obtain ⟨h2, hst, rfl, rfl⟩ := e
            have : s = s' := bqi.1 hss
            subst this
            obtain ⟨arr, b1, b2, b3, b4, b5⟩ := k2
            cases hx with
            | o he =>
              rw [he] at k1; cases k1
              rw [b5]
              exact key hst he
        · cases e
      · cases e
    · simp only [hn0, cond_true, Option.some.injEq, Prod.mk.injEq] at e
      obtain ⟨rfl, rfl⟩ := e
      have h0 : n = 0 := bqi.1 hn0
      subst h0
      refine Goes.still r (v' := .tuple #[]) ?_ (.t .nil)
      cases xa <;> simp [Builtin.clear_, run_underlying (und_eq hd), Sem.run_bind]
  · cases e
theorem lenS_R {t n : Nat} {tyr : TypeId} {x : SV} {x' : Value} (e : lenS P t x = some n) (hx : R ε x x') (w : World) : (Builtin.len_ #[t] tyr #[x']).run P w = .ok (.int .i64 (.ofNat n)) w := by
  simp only [lenS, Option.bind_eq_some_iff] at e
  obtain ⟨d, hd, e⟩ := e
  split at e <;> cases e
  · simp [Builtin.len_, run_underlying (und_eq hd), Sem.run_bind, goInt]
  · cases hx <;> simp [Builtin.len_, run_underlying (und_eq hd), Sem.run_bind, goInt]
  · cases hx; simp [Builtin.len_, run_underlying (und_eq hd), Sem.run_bind, goInt]
  · cases hx; simp [Builtin.len_, run_underlying (und_eq hd), Sem.run_bind, goInt]
theorem mm_R {lt : Bool} {x y v : SV} {x' y' : Value} (e : mm lt x y = some v) (hx : R ε x x') (hy : R ε y y') (w : World) :
    ∃ v', ((if lt then Builtin.min2 x' y' else Builtin.max2 x' y')).run P w = .ok v' w ∧ R ε v v' := by
  unfold mm at e
  split at e
  · rename_i k a k' b
    cases e
    cases hx
    cases hy
    cases lt
    · refine ⟨.int k (if a < b then b else a), rfl, ?_⟩
      simp only [cond_false, ilt_eq]
      by_cases hc : a < b <;> simp [hc] <;> exact .i _ _
    · refine ⟨.int k (if b < a then b else a), rfl, ?_⟩
      simp only [cond_true, ilt_eq]
      by_cases hc : b < a <;> simp [hc] <;> exact .i _ _
  · cases e
theorem leq_R : ∀ {l m : List SV} {l' m' : List Value} {r : Bool}, leq l m = some r → Rs ε l l' → Rs ε m m' →
    ∃ a b : List (IntKind × Int), l' = a.map (fun x => Value.int x.1 x.2) ∧ m' = b.map (fun x => Value.int x.1 x.2) ∧ a.map (·.1) = b.map (·.1) ∧ r = (a == b)
  | [], [], l', m', r, e, hl, hm => by
    cases hl; cases hm
    simp [leq] at e; subst e
    exact ⟨[], [], rfl, rfl, rfl, rfl⟩
  | .i k x :: l, .i k' y :: m, l', m', r, e, hl, hm => by
    cases hl with
    | cons h1 h2 => cases hm with
      | cons g1 g2 =>
        cases h1; cases g1
        simp only [leq] at e
        cases hk : keq k k'
        · simp only [hk, cond_false] at e; cases e
        · simp only [hk, cond_true, Option.bind_eq_some_iff, Option.some.injEq] at e
          obtain ⟨q, hq, rfl⟩ := e
          have := keq_eq hk
          subst this
          obtain ⟨a, b, rfl, rfl, h3, rfl⟩ := leq_R hq h2 g2
          refine ⟨(k, x) :: a, (k, y) :: b, rfl, rfl, by simp [h3], ?_⟩
          rw [ieq_eq, Bool.eq_iff_iff]
          cases hxy : (x == y) <;> simp_all
  | [], _ :: _, _, _, _, e, _, _ => by simp [leq] at e
  | .b _ :: _, _, _, _, _, e, _, _ => by simp [leq] at e
  | .p _ :: _, _, _, _, _, e, _, _ => by simp [leq] at e
  | .s _ _ _ :: _, _, _, _, _, e, _, _ => by simp [leq] at e
  | .o _ _ _ :: _, _, _, _, _, e, _, _ => by simp [leq] at e
  | .z :: _, _, _, _, _, e, _, _ => by simp [leq] at e
  | .m :: _, _, _, _, _, e, _, _ => by simp [leq] at e
  | .f _ _ _ :: _, _, _, _, _, e, _, _ => by simp [leq] at e
  | .y _ :: _, _, _, _, _, e, _, _ => by simp [leq] at e
  | .nf :: _, _, _, _, _, e, _, _ => by simp [leq] at e
  | .a _ :: _, _, _, _, _, e, _, _ => by simp [leq] at e
  | .t _ :: _, _, _, _, _, e, _, _ => by simp [leq] at e
  | .i _ _ :: _, [], _, _, _, e, _, _ => by simp [leq] at e
  | .i _ _ :: _, .b _ :: _, _, _, _, e, _, _ => by simp [leq] at e
  | .i _ _ :: _, .p _ :: _, _, _, _, e, _, _ => by simp [leq] at e
  | .i _ _ :: _, .s _ _ _ :: _, _, _, _, e, _, _ => by simp [leq] at e
  | .i _ _ :: _, .o _ _ _ :: _, _, _, _, e, _, _ => by simp [leq] at e
  | .i _ _ :: _, .z :: _, _, _, _, e, _, _ => by simp [leq] at e
  | .i _ _ :: _, .m :: _, _, _, _, e, _, _ => by simp [leq] at e
  | .i _ _ :: _, .f _ _ _ :: _, _, _, _, e, _, _ => by simp [leq] at e
  | .i _ _ :: _, .y _ :: _, _, _, _, e, _, _ => by simp [leq] at e
  | .i _ _ :: _, .nf :: _, _, _, _, e, _, _ => by simp [leq] at e
  | .i _ _ :: _, .a _ :: _, _, _, _, e, _, _ => by simp [leq] at e
  | .i _ _ :: _, .t _ :: _, _, _, _, e, _, _ => by simp [leq] at e
theorem eqS_R {Q : List Nat} (hQ : ∀ t ∈ Q, EqOk P t) {t : Nat} {x y : SV} {x' y' : Value} {b : Bool} (e : eqS P Q t x y = some b) (hx : R ε x x') (hy : R ε y y') (w : World) :
    (Op.equal t x' y').run P w = .ok b w ∧ (binOp .eql t x' y').run P w = .ok (.bool b) w ∧ (binOp .neq t x' y').run P w = .ok (.bool (!b)) w ∧ ∀ (op : BinOp) (u v : Operand), (eqGuard op t u v x' y').run P w = .ok () w := by
  unfold eqS at e
  split at e
  · rename_i a
    simp only [Option.bind_eq_some_iff] at e
    obtain ⟨d, hd, e⟩ := e
    split at e
    · rename_i el
      cases e
      have hu : P.underlying t = some (.pointer (P.pointee t)) := by simp [Program.pointee, und_eq hd]
      have hp : ∃ p, x' = .pointer p ∧ p.isNone = a.isNone := by cases hx <;> exact ⟨_, rfl, rfl⟩
      obtain ⟨p, rfl, hpn⟩ := hp
      cases hy
      rw [← hpn]
      exact ⟨run_equal_pointer_nil w t p hu, run_eql_pointer_nil w t p hu, run_neq_pointer_nil w t p hu, fun op u v => by cases op <;> simp [eqGuard]⟩
    · cases e
  · rename_i a b'
    simp only [Option.bind_eq_some_iff] at e
    obtain ⟨d, hd, e⟩ := e
    split at e
    · cases e
      cases hx; cases hy
      have h1 : (Op.equal t (.bool a) (.bool b')).run P w = .ok (a == b') w := run_equal_bool w t a b' (und_eq hd)
      refine ⟨h1, ?_, ?_, fun op u v => by cases op <;> simp [eqGuard]⟩
      · simp only [binOp]; simp [h1]
      · simp only [binOp]; simp [h1]
    · cases e
  · rename_i l m
    simp only [Option.bind_eq_some_iff] at e
    obtain ⟨n, hn, e⟩ := e
    cases hc : (Q.any (Nat.beq t) && Nat.beq (len l 0) n && Nat.beq (len m 0) n)
    · simp only [hc, cond_false] at e; cases e
    simp only [hc, cond_true] at e
    simp only [Bool.and_eq_true, bqi, len_eq, Nat.add_zero, List.any_eq_true] at hc
    obtain ⟨⟨⟨q, hq, rfl⟩, hl⟩, hm⟩ := hc
    obtain ⟨hg, he⟩ := hQ _ hq
    cases hx with
    | a h1 h2 => cases hy with
      | a g1 g2 =>
        obtain ⟨a, c, rfl, rfl, h3, rfl⟩ := leq_R e h1 g1
        have h4 := he w n a c hn (by rw [← hl, h1.length]; simp) (by rw [← hm, g1.length]; simp) h3
        refine ⟨h4, ?_, ?_, fun op u v => ?_⟩
        · simp only [binOp]; simp [h4]
        · simp only [binOp]; simp [h4]
        · cases op <;> simp [eqGuard, hg]
  · cases e
theorem bop_R {Q : List Nat} (hQ : ∀ t ∈ Q, EqOk P t) {op : BinOp} {t : Nat} {x y v : SV} {x' y' : Value} (e : bop P Q op t x y = some v) (hx : R ε x x') (hy : R ε y y') (w : World) :
    ∃ v', (binOp op t x' y').run P w = .ok v' w ∧ R ε v v' ∧ ∀ (u z : Operand), (eqGuard op t u z x' y').run P w = .ok () w := by
  unfold bop at e
  split at e
  · rename_i k a k2 b
    cases hx; cases hy
    cases hb : Nat.ble b GREAT
    · simp only [hb, cond_false] at e; cases e
    simp only [hb, cond_true, Option.some.injEq] at e
    subst e
    refine ⟨.int k (k.wrap (Int.ofNat a * 2 ^ (min b k.bits))), ?_, ?_, fun u z => by simp [eqGuard]⟩
    · have : ¬ ((b : Int) < 0) := by omega
      simp only [binOp, Op.shift]
      rw [if_neg (by show ¬ ((b : Int) < 0); omega)]
      rfl
    · rw [wr_eq]
      have hmin : (bif Nat.ble b k.bits then b else k.bits) = min b k.bits := by
        cases hbk : Nat.ble b k.bits
        · have : ¬ b ≤ k.bits := fun hc => by rw [Nat.ble_eq_true_of_le hc] at hbk; cases hbk
          simp; omega
        · have := Nat.le_of_ble_eq_true hbk
          simp; omega
      rw [hmin]
      have : (Int.ofNat (a * 2 ^ min b k.bits)) = Int.ofNat a * 2 ^ min b k.bits := by
        show ((a * 2 ^ min b k.bits : Nat) : Int) = (a : Int) * 2 ^ min b k.bits
        rw [Int.natCast_mul, Int.natCast_pow]; rfl
      rw [this]
      exact .i _ _
  · rename_i k a k2 b
    cases hx; cases hy
    cases hb : Nat.ble b GREAT
    · simp only [hb, cond_false] at e; cases e
    simp only [hb, cond_true, Option.some.injEq] at e
    subst e
    refine ⟨.int k ((Int.ofNat a).fdiv (2 ^ (min b k.bits))), ?_, ?_, fun u z => by simp [eqGuard]⟩
    · simp only [binOp, Op.shift]
      rw [if_neg (by show ¬ ((b : Int) < 0); omega)]
      rfl
    · have hmin : (bif Nat.ble b k.bits then b else k.bits) = min b k.bits := by
        cases hbk : Nat.ble b k.bits
        · have : ¬ b ≤ k.bits := fun hc => by rw [Nat.ble_eq_true_of_le hc] at hbk; cases hbk
          simp; omega
        · have := Nat.le_of_ble_eq_true hbk
          simp; omega
      rw [hmin]
      have : (Int.ofNat a).fdiv (2 ^ min b k.bits) = Int.ofNat (a / 2 ^ min b k.bits) := by
        have h1 : (2 : Int) ^ min b k.bits = ((2 ^ min b k.bits : Nat) : Int) := by rw [Int.natCast_pow]; rfl
        rw [h1, Int.fdiv_eq_ediv_of_nonneg _ (Int.natCast_nonneg _)]
        rfl
      rw [this]
      exact .i _ _
  · rename_i k a k2 b hs1 hs2
    cases hk : keq k k2
    · simp only [hk, cond_false] at e; cases e
    simp only [hk, cond_true] at e
    have := keq_eq hk
    subst this
    cases hx; cases hy
    obtain ⟨v', a1, a2⟩ := iop_R (P := P) (w := w) (ε := ε) t e (fun hc => by subst hc; simp [iop] at e) (fun hc => by subst hc; simp [iop] at e)
    exact ⟨v', a1, a2, fun u z => by cases op <;> simp [eqGuard]⟩
  · simp only [Option.bind_eq_some_iff, Option.some.injEq] at e
    obtain ⟨r, hr, rfl⟩ := e
    obtain ⟨_, h1, _, h3⟩ := eqS_R hQ hr hx hy w
    exact ⟨_, h1, .b _, fun u z => h3 _ u z⟩
  · simp only [Option.bind_eq_some_iff, Option.some.injEq] at e
    obtain ⟨r, hr, rfl⟩ := e
    obtain ⟨_, _, h1, h3⟩ := eqS_R hQ hr hx hy w
    exact ⟨_, h1, .b _, fun u z => h3 _ u z⟩
  · cases e
end Go.Ev
