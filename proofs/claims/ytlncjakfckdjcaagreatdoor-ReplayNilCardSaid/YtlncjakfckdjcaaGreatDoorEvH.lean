/-
  A closed call within a run: what it answers is told ahead. No statement.
-/
import Derived.Test.YtlncjakfckdjcaaGreatDoorEvE
set_option linter.all false
set_option maxRecDepth 100000
set_option maxHeartbeats 2000000
namespace Go.Ev
open Go
noncomputable section
/-- a row of numbers -/
def isI : SV → Bool
  | .i _ _ => true
  | _ => false
def rowI (m : Nat) (cs : Tr SV) : Option (List SV) := (readL cs m 0).bind fun l => bif l.all isI then some l else none
/-- the first heap's rows (all only read, at the names of a list) are the second's -/
def chkG (hg h : H) : List Nat → Bool
  | [] => true
  | g :: l => (match hg.get g, h.get g with
    | some (.g m cs), some (.g m' cs') => Nat.beq m m' && (match rowI m cs, rowI m' cs' with
      | some a, some b => sveqs a b
      | _, _ => false)
    | _, _ => false) && chkG hg h l
def oracle (k : Nat) (L : List Nat) (hg : H) (base : Caller) : Caller := fun f l h => match f, l with
  | .f j [] [], [] => bif Nat.beq j k && chkG hg h L then some (.b true, h) else base (.f j [] []) [] h
  | f, l => base f l h
end
theorem readL_get {cs : Tr SV} : ∀ {n k : Nat} {l : List SV}, readL cs n k = some l → l.length = n ∧ ∀ j, j < n → cs.get (k + j) = l[j]?
  | 0, k, l, e => by simp [readL_zero] at e; subst e; exact ⟨rfl, fun j h => absurd h (Nat.not_lt_zero j)⟩
  | n + 1, k, l, e => by
    simp only [readL_succ, Option.bind_eq_some_iff, Option.some.injEq] at e
    obtain ⟨v, hv, r, hr, rfl⟩ := e
    obtain ⟨a, b⟩ := readL_get hr
    refine ⟨by simp [a], fun j hj => ?_⟩
    cases j with
    | zero => simpa using hv
    | succ j => rw [show k + (j + 1) = k + 1 + j by omega, b j (by omega)]; simp
theorem rowI_spec {m : Nat} {cs : Tr SV} {l : List SV} (e : rowI m cs = some l) : l.length = m ∧ (∀ x ∈ l, isI x = true) ∧ ∀ j, j < m → cs.get j = l[j]? := by
  unfold rowI at e
  simp only [Option.bind_eq_some_iff] at e
  obtain ⟨r, hr, e⟩ := e
  cases hb : r.all isI
  · rw [hb] at e; cases e
  · rw [hb, cond_true] at e
    cases e
    obtain ⟨a, b⟩ := readL_get hr
    exact ⟨a, by simpa using hb, fun j hj => by rw [← b j hj, Nat.zero_add]⟩
theorem chkG_spec {hg h : H} : ∀ {L : List Nat}, chkG hg h L = true → ∀ g ∈ L, ∃ m cs cs' l, hg.get g = some (.g m cs) ∧ h.get g = some (.g m cs') ∧ rowI m cs = some l ∧ rowI m cs' = some l
  | [], _, _, hm => by cases hm
  | g :: L, e, q, hm => by
    rw [chkG, Bool.and_eq_true] at e
    obtain ⟨e1, e2⟩ := e
    rcases List.mem_cons.1 hm with rfl | hm
    · split at e1
      · rename_i m cs m' cs' h1 h2
        rw [Bool.and_eq_true] at e1
        obtain ⟨x1, x2⟩ := e1
        have : m = m' := bqi.1 x1
        subst this
        split at x2
        · rename_i a b h3 h4
          have : a = b := sveqs_eq x2
          subst this
          exact ⟨m, cs, cs', a, h1, h2, h3, h4⟩
        · cases x2
      · cases e1
    · exact chkG_spec e2 q hm
theorem R_int {ε ε' : Env} {v : SV} {x : Value} (hv : isI v = true) (h : R ε v x) : R ε' v x := by
  cases h with
  | i k n => exact .i k n
  | _ => cases hv
theorem Rep.keepAll {G : Nat} {ε : Env} {h : H} {w w' : World} (r : Rep G ε h w) (hb : ∀ b, b < w.heap.size → w'.heap[b]? = w.heap[b]?) : Rep G ε h w' :=
  ⟨r.fresh, fun n o hn => let ⟨e, h1, h2⟩ := r.obj n o hn; ⟨e, h1, h2.keep (hb _ h2.lt)⟩, r.inj, r.gl⟩
variable {P : Program} {Q : List Nat} {G : Nat}
theorem oracle_R (hQ : ∀ t ∈ Q, EqOk P t) (hN : NoNum P) (hm : P.follows .mixedOrders = true) {n k : Nat} {L : List Nat} {hg h9 : H}
    (e : (evK P Q (drawS P Q) G n).call (.f k [] []) [] hg = some (.b true, h9)) (hL : ∀ q o, hg.get q = some o → q ∈ L ∧ q < G) (hnx : hg.nx = G) {base : Caller} (hb : CallOk P G base) : CallOk P G (oracle k L hg base) := by
  intro f l h v h' e1 F m ε w f' l' hF hf hl r
  unfold oracle at e1
  split at e1
  · rename_i j
    cases hc : (Nat.beq j k && chkG hg h L)
    · rw [hc, cond_false] at e1
      exact hb _ _ _ _ _ e1 F m ε w f' l' hF hf hl r
    · rw [hc, cond_true] at e1
      cases e1
      rw [Bool.and_eq_true] at hc
      obtain ⟨c1, c2⟩ := hc
      have hjk : j = k := bqi.1 c1
      subst hjk
      have all := chkG_spec c2
      have hro : ∀ q o, hg.get q = some o → ∃ m cs, o = .g m cs := fun q o hq => by
        obtain ⟨m, cs, cs', l, h1, _⟩ := all q (hL q o hq).1
        rw [h1] at hq; cases hq; exact ⟨m, cs, rfl⟩
      have r2 : Rep G (fun q => if q < G then ε q else none) hg w := by
        refine ⟨fun q hq => by rw [if_neg (by omega)], fun q o hq => ?_, fun a b qa qb ea eb ha hb' h1 h2 h3 => ?_, fun g hg' => ?_⟩
        · obtain ⟨m, cs, cs', l, h1, h2, h3, h4⟩ := all q (hL q o hq).1
          rw [h1] at hq; cases hq
          obtain ⟨ee, k1, arr, ty, fz, k2, k3, k4⟩ := r.obj q _ h2
          obtain ⟨a1, a2, a3⟩ := rowI_spec h3
          obtain ⟨b1, b2, b3⟩ := rowI_spec h4
          refine ⟨ee, by rw [if_pos (hL q _ h1).2]; exact k1, arr, ty, fz, k2, fun i hi => ?_, k4⟩
          obtain ⟨v, x, y1, y2, y3, y4⟩ := k3 i hi
          refine ⟨v, x, by rw [a3 i hi, ← b3 i hi]; exact y1, y2, R_int (b2 v ?_) y3, y4⟩
          rw [b3 i hi] at y1
          exact List.mem_of_getElem? y1
        · obtain ⟨m, cs, cs', l, g1, g2, _⟩ := all a (hL a qa ha).1
          obtain ⟨m', cs1, cs1', l', g1', g2', _⟩ := all b (hL b qb hb').1
          rw [if_pos (hL a qa ha).2] at h1
          rw [if_pos (hL b qb hb').2] at h2
          exact r.inj a b _ _ ea eb g2 g2' h1 h2 h3
        · obtain ⟨ee, h1, h2⟩ := r.gl g hg'
          exact ⟨ee, by rw [if_pos hg']; exact h1, h2⟩
      rw [evK_eq] at e
      cases hf with
      | f hfs hcs =>
        cases hfs; cases hcs; cases hl
        obtain ⟨d, nx, h1, h2, h3⟩ := (ev_R hQ hN (drawS_R hQ hm) n) _ _ _ _ _ e F m _ w (.func (.func j) #[] #[]) [] hF (.f .nil .nil) .nil r2
        refine ⟨d, nx, h1, h2, h3.imp (fun ⟨g, as, y1, y2⟩ => ⟨g, as, y1, y2.mono fun ed w' p => ?_⟩) fun ⟨y, _⟩ => absurd rfl (y j [] [])⟩
        obtain ⟨v', ε', p1, p2, p3⟩ := Post.below hro p
        refine ⟨v', ε, p1, by cases p2; exact .b true, r.keepAll p3.block, Ext.refl ε, p3.size, fun b hb _ => p3.block b hb, fun b hb => .inl hb, Nat.le_refl _, fun _ _ _ => rfl, ⟨p3.os, p3.tape, p3.output⟩, fun q m' cs hq => ⟨hq, fun e9 he9 => ?_⟩⟩
        obtain ⟨e8, z1, z2⟩ := r.obj q _ hq
        rw [z1] at he9; cases he9
        exact p3.block _ z2.lt
  · exact hb _ _ _ _ _ e1 F m ε w f' l' hF hf hl r
end Go.Ev
