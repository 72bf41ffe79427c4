/-
  Operations: the evaluator's and the model's. No statement.
-/
import Derived.Test.YtlncjakfckdjcaaGreatDoorEvI
set_option linter.all false
set_option maxRecDepth 100000
namespace Go.Ev
open Go
variable {P : Program} {G : Nat} {ε : Env} {h h' : H} {w : World}
def Goes (P : Program) (G : Nat) (ε : Env) (h : H) (w : World) (v : SV) (h' : H) (s : Sem Value) : Prop :=
  ∃ v' w' ε', s.run P w = .ok v' w' ∧ R ε' v v' ∧ Rep G ε' h' w' ∧ Kp h ε w h' ε' w'
theorem Goes.still (r : Rep G ε h w) {v : SV} {v' : Value} {s : Sem Value} (e : s.run P w = .ok v' w) (hv : R ε v v') : Goes P G ε h w v h s :=
  ⟨v', w, ε, e, hv, r, KpA.refl h ε w⟩
theorem asP_R {v : SV} {a : Nat × Nat} {u : Value} (e : asP v = some a) (hv : R ε v u) : ∃ ee, ε a.1 = some ee ∧ u = .pointer (some ⟨ee.b, a.2, none⟩) := by
  unfold asP at e
  split at e
  · cases e
    cases hv with
    | p h => exact ⟨_, h, rfl⟩
  · cases e
theorem asN_R {v : SV} {n : Nat} {u : Value} (e : asN v = some n) (hv : R ε v u) : ∃ k, u = .int k (.ofNat n) := by
  unfold asN at e
  split at e
  · cases e
    cases hv with
    | i k => exact ⟨_, rfl⟩
  · cases e
theorem asB_R {v : SV} {b : Bool} {u : Value} (e : asB v = some b) (hv : R ε v u) : u = .bool b := by
  unfold asB at e
  split at e
  · cases e
    cases hv with
    | b => rfl
  · cases e
theorem asA_R {v : SV} {l : List SV} {u : Value} (e : asA v = some l) (hv : R ε v u) : ∃ m, u = .agg m.toArray ∧ Rs ε l m ∧ ∀ x ∈ m, x.oneCell' = true := by
  unfold asA at e
  split at e
  · cases e
    cases hv with
    | a h h1 => exact ⟨_, rfl, h, h1⟩
  · cases e
theorem asT_R {v : SV} {l : List SV} {u : Value} (e : asT v = some l) (hv : R ε v u) : ∃ m, u = .tuple m.toArray ∧ Rs ε l m := by
  unfold asT at e
  split at e
  · cases e
    cases hv with
    | t h => exact ⟨_, rfl, h⟩
  · cases e
theorem asSl_eq {d : TypeDesc} {e : Nat} (h : asSl d = some e) : d = .slice e := by
  unfold asSl at h
  split at h <;> cases h; rfl
/-! ### load, store -/
theorem loadT_R (r : Rep G ε h w) {t : Nat} {a : Nat × Nat} {v : SV} (e : loadT P h t a = some v) {ee : E} (he : ε a.1 = some ee) :
    ∃ v', (loadVar t ⟨ee.b, a.2, none⟩).run P w = .ok v' w ∧ R ε v v' := by
  simp only [loadT, Option.bind_eq_some_iff] at e
  obtain ⟨d, hd, e⟩ := e
  cases hag : isAg d
  · simp only [hag, cond_false, Option.bind_eq_some_iff] at e
    obtain ⟨l, hl, e⟩ := e
    obtain ⟨e2, vs, h1, h2, h3, h4, h5⟩ := loadC_R r hl
    rw [he] at h1; cases h1
    rw [nth_eq] at e
    obtain ⟨y, hy, hr⟩ := h2.get 0 e
    have hc := h5 0 y hy
    refine ⟨y, ?_, hr⟩
    have hg := run_isAgg hd w
    rw [hag] at hg
    simp only [loadVar, Sem.run_bind, hg, Result.andThen_ok, Bool.false_eq_true, if_false]
    rw [run_load]
    simp only [Nat.add_zero] at hc
    rw [hc]
  · simp only [hag, cond_true, Option.bind_eq_some_iff, Option.some.injEq] at e
    obtain ⟨n, hn, l, hl, rfl⟩ := e
    obtain ⟨e2, vs, h1, h2, h3, h4, h5⟩ := loadC_R r hl
    rw [he] at h1; cases h1
    obtain ⟨i, hi, hs⟩ := sz_eq hn
    exact ⟨_, run_loadVar_mid w ee.b a.2 t vs d h5 (und_eq hd) (isAg_row hag) (by rw [hi]; simp [hs, h3]), .a h2 h4⟩
theorem storeT_R (r : Rep G ε h w) {t : Nat} {a : Nat × Nat} {v : SV} {v' : Value} (e : storeT P h t a v = some h') (hv : R ε v v') {ee : E} (he : ε a.1 = some ee) :
    ∃ w', (storeVar t ⟨ee.b, a.2, none⟩ v').run P w = .ok () w' ∧ Rep G ε h' w' ∧ Kp h ε w h' ε w' := by
  simp only [storeT, Option.bind_eq_some_iff] at e
  obtain ⟨n, hn, e⟩ := e
  obtain ⟨i, hi, hs⟩ := sz_eq hn
  cases hb : Nat.beq (len (cellsOf v) 0) n
  · simp [hb] at e
  · simp only [hb, cond_true] at e
    have hlen : v'.cells.size = n := by
      have := hv.cells.length
      rw [len_eq] at hb
      simp at hb this
      omega
    have key : ∀ (l : List SV), storeC h a l = some h' → Rs ε l v'.cells.toList → (∀ x ∈ v'.cells.toList, x.oneCell' = true) →
        ∃ w', (storeVar t ⟨ee.b, a.2, none⟩ v').run P w = .ok () w' ∧ Rep G ε h' w' ∧ Kp h ε w h' ε w' := fun l hl hrs h1 => by
      obtain ⟨e2, g1, g2, g3, g4⟩ := storeC_R r hl hrs h1
      rw [he] at g1; cases g1
      refine ⟨_, ?_, g3, g4⟩
      have := run_storeCells_cells (P := P) ee.b a.2 v'.cells.toList 0 w (fun j hj => by simpa using (g2 j (by simpa using hj)).1) (fun j hj => by simpa using (g2 j (by simpa using hj)).2) h1
      simp only [Nat.add_zero] at this
      simp [storeVar, run_size hn w, Sem.run_bind, hlen, this]
    split at e
    · rename_i l
      exact key l e hv.cells (hv.cells_one (by simp))
    · rename_i hne
      cases hsc : sc v
      · simp [hsc] at e
      · simp only [hsc, cond_true] at e
        have h2 := hv.cells
        have h3 : cellsOf v = [v] := by
          unfold cellsOf
          split
          · simp [sc] at hsc
          · rfl
        rw [h3] at h2
        exact key [v] e h2 (hv.cells_one (fun l hl => by subst hl; simp [sc] at hsc))
/-! ### addresses -/
theorem add_pos (b o n : Nat) : (⟨b, o, none⟩ : Addr).add n = ⟨b, o + n, none⟩ := Addr.add_mid b o n
theorem fieldOf_eq {t f : Nat} {fd : Field} (e : fieldOf P t f = some fd) : ∃ fs, P.underlying t = some (.struct fs) ∧ fs[f]? = some fd := by
  simp only [fieldOf, Option.bind_eq_some_iff] at e
  obtain ⟨d, hd, e⟩ := e
  split at e
  · rename_i fs
    rw [nth_eq] at e
    exact ⟨fs, und_eq hd, by simpa using e⟩
  · cases e
theorem fieldAt_run {s f : Nat} {fd : Field} {n : Nat} (e : fieldOf P s f = some fd) (hn : szOf P fd.type = some n) (hp : Nat.blt 0 n = true) (b o : Nat) (w : World) :
    (Instr.fieldAt s (.pointer (some ⟨b, o, none⟩)) f).run P w = .ok (.pointer (some ⟨b, o + fd.offset, none⟩)) w := by
  obtain ⟨fs, h1, h2⟩ := fieldOf_eq e
  have hp' : n ≠ 0 := by simp [Nat.blt] at hp; omega
  simp [Instr.fieldAt, run_underlying h1, Sem.run_bind, h2, Instr.sureAddr, fieldPlace, run_size hn, hp', add_pos]
theorem idxA_R (r : Rep G ε h w) {t i : Nat} {k : IntKind} {x v : SV} {x' : Value} (e : idxA P h t x i = some v) (hx : R ε x x') :
    ∃ v', (Instr.indexAt t x' (.int k (.ofNat i))).run P w = .ok v' w ∧ R ε v v' := by
  simp only [idxA, Option.bind_eq_some_iff] at e
  obtain ⟨d, hd, e⟩ := e
  have hu := run_underlying (P := P) (und_eq hd)
  split at e
  · rename_i n el a
    cases hb : Nat.blt i n
    · simp [hb] at e
    · simp only [hb, cond_true, Option.bind_eq_some_iff, Option.some.injEq] at e
      obtain ⟨s, hs, rfl⟩ := e
      have hlt : i < n := by simp [Nat.blt] at hb; omega
      cases hx with
      | p he =>
        refine ⟨_, ?_, .p he⟩
        simp [Instr.indexAt, asIntOf, Sem.run_bind, hu, Instr.sureAddr, run_size hs, add_pos, hlt]
  · rename_i el a n c
    cases hb : Nat.blt i n
    · simp [hb] at e
    · simp only [hb, cond_true, Option.bind_eq_some_iff, Option.some.injEq] at e
      obtain ⟨s, hs, rfl⟩ := e
      have hlt : i < n := by simp [Nat.blt] at hb; omega
      cases hx with
      | s l c he =>
        refine ⟨_, ?_, .p he⟩
        simp [Instr.indexAt, asIntOf, Sem.run_bind, hu, Instr.sureAddr, run_size hs, add_pos, hlt]
  · rename_i el b j n
    cases hb : Nat.blt i n
    · simp [hb] at e
    · simp only [hb, cond_true, Option.bind_eq_some_iff, Option.some.injEq] at e
      obtain ⟨s, hs, o, ho, e⟩ := e
      have hlt : i < n := by simp [Nat.blt] at hb; omega
      obtain ⟨e2, g1, g2⟩ := r.obj _ _ ho
      split at e
      · rename_i ty' s' m cs
        cases hss : Nat.beq s s'
        · simp [hss] at e
        · simp only [hss, cond_true, Option.some.injEq] at e
          subst e
          obtain ⟨arr, b1, b2, b3, b4, b5⟩ := g2
          have : s = s' := by simpa using hss
          subst this
          cases hx with
          | o he =>
            rw [he] at g1; cases g1
            refine ⟨.pointer (some ⟨e2.b, (j + i) * s, none⟩), ?_, .p he⟩
            simp [Instr.indexAt, asIntOf, Sem.run_bind, hu, Instr.sureAddr, run_size hs, add_pos, hlt, b5, Nat.add_mul]
      · cases e
  · cases e
theorem partS_R {t off : Nat} {l : List SV} {m : List Value} {v : SV} (e : partS P t l off = some v) (hl : Rs ε l m) (h1 : ∀ x ∈ m, x.oneCell' = true) (w : World) :
    ∃ v', (part t m.toArray off).run P w = .ok v' w ∧ R ε v v' := by
  simp only [partS, Option.bind_eq_some_iff] at e
  obtain ⟨d, hd, e⟩ := e
  have hg := run_isAgg hd w
  cases hag : isAg d
  · simp only [hag, cond_false] at e
    rw [hag] at hg
    rw [nth_eq] at e
    obtain ⟨y, hy, hr⟩ := hl.get off e
    exact ⟨y, by simp [part, Sem.run_bind, hg, hy], hr⟩
  · simp only [hag, cond_true, Option.bind_eq_some_iff] at e
    obtain ⟨s, hs, e⟩ := e
    rw [hag] at hg
    cases hb : Nat.ble (off + s) (len l 0)
    · simp [hb] at e
    · simp only [hb, cond_true, Option.some.injEq] at e
      subst e
      refine ⟨.agg ((m.drop off).take s).toArray, ?_, ?_⟩
      · simp [part, Sem.run_bind, hg, run_size hs, List.extract_eq_take_drop]
      · rw [take_eq, drop_eq]
        exact .a ((hl.drop off).take s) (fun x hx => h1 x (List.mem_of_mem_drop (List.mem_of_mem_take hx)))
theorem field_R {s f : Nat} {fd : Field} {l : List SV} {m : List Value} {v : SV} (hf : fieldOf P s f = some fd) (e : partS P fd.type l fd.offset = some v) (hl : Rs ε l m) (h1 : ∀ x ∈ m, x.oneCell' = true) (w : World) :
    ∃ v', (Instr.field s (.agg m.toArray) f).run P w = .ok v' w ∧ R ε v v' := by
  obtain ⟨fs, g1, g2⟩ := fieldOf_eq hf
  obtain ⟨v', a, b⟩ := partS_R e hl h1 w
  exact ⟨v', by simp [Instr.field, run_underlying g1, Sem.run_bind, g2, asAgg, a], b⟩
theorem idxV_R {t i : Nat} {k : IntKind} {l : List SV} {m : List Value} {v : SV} (e : idxV P t l i = some v) (hl : Rs ε l m) (h1 : ∀ x ∈ m, x.oneCell' = true) (w : World) :
    ∃ v', (Instr.index t (.agg m.toArray) (.int k (.ofNat i))).run P w = .ok v' w ∧ R ε v v' := by
  simp only [idxV, Option.bind_eq_some_iff] at e
  obtain ⟨d, hd, e⟩ := e
  split at e
  · rename_i n el
    cases hb : Nat.blt i n
    · simp [hb] at e
    · simp only [hb, cond_true, Option.bind_eq_some_iff] at e
      obtain ⟨s, hs, e⟩ := e
      have hlt : i < n := by simp [Nat.blt] at hb; omega
      obtain ⟨v', a, b⟩ := partS_R e hl h1 w
      exact ⟨v', by simp [Instr.index, asIntOf, run_underlying (und_eq hd), Sem.run_bind, hlt, run_size hs, a], b⟩
  · cases e
theorem conv_R {s d : Nat} {x v : SV} {x' : Value} {ds : TypeDesc} (hs : und P s = some ds) (e : conv P d x = some v) (hx : R ε x x') (w : World) :
    ∃ v', (convert s d x').run P w = .ok v' w ∧ R ε v v' := by
  unfold conv at e
  split at e
  · rename_i k n
    simp only [Option.bind_eq_some_iff] at e
    obtain ⟨dd, hd, e⟩ := e
    split at e
    · rename_i k'
      cases e
      cases hx with
      | i =>
        refine ⟨.int k' (k'.wrap n), ?_, by rw [wr_eq]; exact .i _ _⟩
        simp only [convert, Sem.run_bind, run_underlying (und_eq hs), run_underlying (und_eq hd), Result.andThen_ok]
        rfl
    · cases e
  · cases e
theorem uop_R {op : UnOp} {x v : SV} {x' : Value} (e : uop op x = some v) (hx : R ε x x') (w : World) : ∃ v', (Op.unary op x').run P w = .ok v' w ∧ R ε v v' := by
  unfold uop at e
  split at e
  · cases e; cases hx with
    | b b => exact ⟨_, rfl, .b _⟩
  · rename_i k n
    cases e; cases hx with
    | i => exact ⟨.int k (k.wrap (0 - n)), by simp [Op.unary, Op.intArith], by rw [wr_eq, isub_eq]; exact .i _ _⟩
  · rename_i k n
    cases hs : k.signed
    · simp only [hs, cond_false] at e
      cases hb : Nat.blt n (big k)
      · simp [hb] at e
      · simp only [hb, cond_true, Option.some.injEq] at e
        subst e
        cases hx with
        | i =>
          have hn : n < big k := by simp [Nat.blt] at hb; omega
          have hk : big k = 2 ^ k.bits := by cases k <;> first | rfl | exact absurd hs (by decide)
          have hmax : k.max = ((big k - 1 : Nat) : Int) := by cases k <;> first | rfl | exact absurd hs (by decide)
          have hp : 0 < big k := by omega
          refine ⟨.int k (k.wrap ((BitVec.ofInt k.bits k.max ^^^ BitVec.ofInt k.bits (Int.ofNat n)).toNat : Int)), by simp only [Op.unary, hs, Bool.false_eq_true, if_false, Op.intBits]; rfl, ?_⟩
          have h1 : (BitVec.ofInt k.bits k.max ^^^ BitVec.ofInt k.bits (Int.ofNat n)).toNat = Nat.xor (big k - 1) n := by
            rw [BitVec.toNat_xor, hmax]
            show (BitVec.ofInt k.bits _).toNat ^^^ (BitVec.ofInt k.bits (n : Int)).toNat = _
            rw [BitVec.ofInt_natCast, BitVec.ofInt_natCast, BitVec.toNat_ofNat, BitVec.toNat_ofNat, Nat.mod_eq_of_lt (by omega), Nat.mod_eq_of_lt (by omega)]
            rfl
          have h2 : Nat.xor (big k - 1) n < big k := by rw [hk]; exact Nat.xor_lt_two_pow (by omega) (by omega)
          rw [h1, show ((Nat.xor (big k - 1) n : Nat) : Int) = Int.ofNat (Nat.xor (big k - 1) n) from rfl, wrap_small h2]
          exact .i _ _
    · simp [hs] at e
  · cases e
end Go.Ev
