/-
  Types that are compared as rows of numbers: arrays of numbers, structs of two. No statement.
-/
import Derived.Test.YtlncjakfckdjcaaGreatDoorEvR
import Derived.Test.YtlncjakfckdjcaaGreatDoorEvI
import Derived.ChangeKeysEq
import Derived.Laws.StructEq
set_option linter.all false
set_option maxRecDepth 100000
set_option maxHeartbeats 2000000
namespace Go.Ev
open Go
variable {P : Program}
theorem run_eqItems_int {e : TypeId} {k : IntKind} (he : P.underlying e = some (.int k)) (hp : P.plainKey e = true) (w : World) (d : Nat) {l m : List (IntKind × Int)} (hk : l.map (·.1) = m.map (·.1)) : ∀ (is : List Nat), (∀ i ∈ is, i < l.length) →
    (Op.eqItems (d + 1) e 1 (l.map fun x => Value.int x.1 x.2).toArray (m.map fun x => Value.int x.1 x.2).toArray is).run P w = .ok (is.all fun i => (l[i]?.map (·.2)) == (m[i]?.map (·.2))) w
  | [], _ => by simp [Op.eqItems]
  | i :: is, h => by
    have hi : i < l.length := h i (by simp)
    have hlm : l.length = m.length := by simpa using congrArg List.length hk
    have ha : l[i]? = some l[i] := List.getElem?_eq_getElem hi
    have hb : m[i]? = some (m[i]'(by omega)) := List.getElem?_eq_getElem (by omega)
    generalize l[i] = a at ha
    generalize m[i]'(by omega) = b at hb
    have hab : a.1 = b.1 := by
      have := congrArg (fun q => q[i]?) hk
      simpa [ha, hb] using this
    obtain ⟨ka, a⟩ := a
    obtain ⟨kb, b⟩ := b
    simp only at hab
    subst hab
    have e1 : (part e (l.map fun x => Value.int x.1 x.2).toArray (i * 1)).run P w = .ok (.int ka a) w := run_part_plain (w := w) hp (by simp [ha])
    have e2 : (part e (m.map fun x => Value.int x.1 x.2).toArray (i * 1)).run P w = .ok (.int ka b) w := run_part_plain (w := w) hp (by simp [hb])
    have e3 := run_equalIn_int w d e ka k a b he
    simp only [Op.eqItems, Sem.run_bind, e1, e2, e3, Result.andThen_ok, List.all_cons, ha, hb, Option.map_some]
    by_cases hc : a = b
    · subst hc
      simp only [beq_self_eq_true, Bool.not_true, Bool.false_eq_true, if_false, Bool.true_and]
      exact run_eqItems_int he hp w d hk is fun j hj => h j (by simp [hj])
    · have : (a == b) = false := by simpa using hc
      have h2 : (some a == some b) = false := by simpa using hc
      simp [this, h2]
theorem rows_eq {l m : List (IntKind × Int)} (hk : l.map (·.1) = m.map (·.1)) : ((List.range l.length).all fun i => (l[i]?.map (·.2)) == (m[i]?.map (·.2))) = (l == m) := by
  rw [Bool.eq_iff_iff, List.all_eq_true, beq_iff_eq]
  have hlm : l.length = m.length := by simpa using congrArg List.length hk
  constructor
  · intro h
    apply List.ext_getElem? 
    intro i
    rcases Nat.lt_or_ge i l.length with hi | hi
    · have h1 := h i (List.mem_range.2 hi)
      have h2 := congrArg (fun q => q[i]?) hk
      simp only [List.getElem?_map] at h2
      rw [beq_iff_eq] at h1
      rw [List.getElem?_eq_getElem hi, List.getElem?_eq_getElem (by omega : i < m.length)] at h1 h2 ⊢
      simp only [Option.map_some, Option.some.injEq] at h1 h2 ⊢
      exact Prod.ext h2 h1
    · rw [List.getElem?_eq_none hi, List.getElem?_eq_none (by omega)]
  · rintro rfl i _
    simp
theorem eqok_array {t e : TypeId} {n : Nat} {k : IntKind} (hg : P.eqGuardType P.depth t = false) (hu : P.underlying t = some (.array n e)) (hi' : (P.info? e).isSome = true) (he : P.underlying e = some (.int k)) (hp : P.plainKey e = true)
    (hc : P.cellsOf e = 1) (hs : szOf P t = some n) : EqOk P t := by
  refine ⟨hg, fun w q l m hq hl hm hk => ?_⟩
  rw [hs] at hq
  cases hq
  obtain ⟨i, hi⟩ := Option.isSome_iff_exists.1 hi'
  show (Op.equalIn (9999 + 1) t _ _).run P w = _
  rw [run_equalIn_array w 9999 _ _ hu hi, hc, ← rows_eq hk, hl]
  exact run_eqItems_int he hp w 9998 hk _ fun j hj => by rw [hl]; exact List.mem_range.1 hj
theorem eqok_pair {t : TypeId} {f g : Field} {k k' : IntKind} (hg : P.eqGuardType P.depth t = false) (ht : P.underlying t = some (.struct (P.fieldsOf t))) (hst : P.stoodInHeld t = false) (hf : (P.fieldsOf t).toList = [f, g])
    (n1 : f.name ≠ "_") (n2 : g.name ≠ "_") (o1 : f.offset = 0) (o2 : g.offset = 1) (u1 : P.underlying f.type = some (.int k)) (u2 : P.underlying g.type = some (.int k')) (p1 : P.plainKey f.type = true) (p2 : P.plainKey g.type = true)
    (hs : szOf P t = some 2) : EqOk P t := by
  refine ⟨hg, fun w q l m hq hl hm hk => ?_⟩
  rw [hs] at hq
  cases hq
  obtain ⟨⟨k1, a1⟩, ⟨k2, a2⟩, rfl⟩ : ∃ x y, l = [x, y] := by
    match l, hl with
    | [x, y], _ => exact ⟨x, y, rfl⟩
  obtain ⟨⟨k3, b1⟩, ⟨k4, b2⟩, rfl⟩ : ∃ x y, m = [x, y] := by
    match m, hm with
    | [x, y], _ => exact ⟨x, y, rfl⟩
  simp only [List.map_cons, List.map_nil, List.cons.injEq, and_true] at hk
  obtain ⟨rfl, rfl⟩ := hk
  show (Op.equalIn (9999 + 1) t _ _).run P w = _
  rw [run_equalIn_struct w 9999 t _ _ ht hst, hf]
  have e1 : ∀ (k0 k9 : IntKind) (x y : Int), (part f.type #[Value.int k0 x, Value.int k9 y] f.offset).run P w = .ok (.int k0 x) w := fun k0 k9 x y => run_part_plain (w := w) p1 (by simp [o1])
  have e2 : ∀ (k0 k9 : IntKind) (x y : Int), (part g.type #[Value.int k0 x, Value.int k9 y] g.offset).run P w = .ok (.int k9 y) w := fun k0 k9 x y => run_part_plain (w := w) p2 (by simp [o2])
  have e3 := run_equalIn_int w 9998 f.type k1 k a1 b1 u1
  have e4 : (Op.equalIn 9999 g.type (.int k2 a2) (.int k2 b2)).run P w = .ok (a2 == b2) w := run_equalIn_int w 9998 g.type k2 k' a2 b2 u2
  show (Op.eqFields 9999 #[Value.int k1 a1, Value.int k2 a2] #[Value.int k1 b1, Value.int k2 b2] [f, g]).run P w = _
  simp only [Op.eqFields, if_pos n1, if_pos n2, Sem.run_bind, e1, e2, e3, e4, Result.andThen_ok]
  have e4' : (Op.equalIn 9999 g.type (.int k2 b2) (.int k2 b2)).run P w = .ok true w := by simpa using run_equalIn_int w 9998 g.type k2 k' b2 b2 u2
  by_cases h1 : a1 = b1 <;> by_cases h2 : a2 = b2 <;> simp [h1, h2, e2, e4, e4']
end Go.Ev
