import Derived.Test.YtcafafdimcecpaaGreatDoorNlae
import Derived.Test.YtcafafdimcecpaaGreatDoorNlah
import Derived.Deep.DeepCutAuto
import Derived.Test.YtcafafdimcecpaaGreatDoorNlad
import Derived.Test.YtcafafdimcecpaaGreatDoorNlZ
namespace Go.Proofs.YtcafafdimcecpaaGreatDoor
open Go.RowKit
set_option linter.unusedVariables false
set_option linter.unusedSimpArgs false
set_option maxRecDepth 100000
def cG (p : Nat) (v : Value) (b : Nat) : Prop := b = p ∨ v.ownBlock = some b
section
variable {w w' : World} {p q : Nat} {v : Value} {x : LgS} {G : Nat → Prop}
theorem ldNts {ad : Addr} {A : Option Addr} {n c : Nat} (h : w.cell? ad = some (.slice A n c)) : (Instr.loadAt 86 (.pointer (some ad))).run Tryz.prog w = .ok (.slice A n c) w := by simp [go_sem, h]
end
section
variable {ρ : Operand → Value} {o : Oper} {x y : Operand} {w : World} {t r : TypeId} {a b : Nat}
theorem exec_sbU (ho : o.op = .binOp .sub t x y r) (hx : ρ x = .int .u64 ((a + b : Nat) : Int)) (hy : ρ y = .int .u64 (a : Int)) (h : a + b < 18446744073709551616) : (execOp ρ o).run Tryz.prog w = .ok (.value (.int .u64 (b : Int))) w := by
  have e : IntKind.u64.wrap (((a + b : Nat) : Int) - (a : Int)) = (b : Int) := by rw [show ((a + b : Nat) : Int) - (a : Int) = (b : Int) from by omega]; exact IntWalk.u64_in _ ⟨by omega, by omega⟩
  unfold execOp
  simp [ho, hx, hy, eqGuard, binOp, Op.intArith]
  simpa using e
theorem exec_cvU6I (ho : o.op = .convert 35 3 x) (hx : ρ x = .int .u64 (a : Int)) (h : a < 9223372036854775808) : (execOp ρ o).run Tryz.prog w = .ok (.value (.int .i64 (a : Int))) w := by
  have e : IntKind.i64.wrap (a : Int) = (a : Int) := IntWalk.i64_in _ ⟨by omega, by omega⟩
  have hc : (convert 35 3 (.int .u64 (a : Int))).run Tryz.prog w = .ok (.int .i64 (a : Int)) w := by simp [convert, go_sem, e]
  unfold execOp
  simp only [ho, hx, Sem.run_bind, hc, Result.andThen_ok, Sem.run_pure]
end
theorem sz_tak {n : Nte} (h : 1 ≤ n.cells ∧ n.cells ≤ 32) : sizN n.cells = aY n := by unfold sizN aY; rw [if_neg (by omega)]
def solo (S : List Blk) (L : List (Int × Blk)) (left : Nat) (b9 : Bool) (st : Nat) : BenS := ⟨[⟨S, L, false⟩], left, b9, st⟩
def Stp.okn (n : Nat) : Stp → Prop
  | .wr k _ => 0 ≤ k ∧ k < n
  | .fl => True
def aft : List Stp → List Blk × List (Int × Blk) → List Blk × List (Int × Blk)
  | [], z => z
  | .wr n b :: l, z => aft l (z.1, z.2 ++ [(n, b)])
  | .fl :: l, z => aft l (flS z.1 z.2, [])
theorem aft_app (a b : List Stp) : ∀ z, aft (a ++ b) z = aft b (aft a z) := by
  induction a with
  | nil => intro z; rfl
  | cons s a ih =>
    intro z
    cases s with
    | wr n x => exact ih _
    | fl => exact ih _
section
variable {S : List Blk} {L : List (Int × Blk)} {left st : Nat}
theorem solo_has (b9 : Bool) : dr (solo S L left b9 st) 0 = 0 := by unfold dr solo; simp
theorem solo_lit : cH (solo S L left false st) 0 = 0 := by rw [litE_light rfl]; exact solo_has _
theorem solo_se (b9 : Bool) : bY (solo S L left b9 st) 0 = (S.length : Int) := by unfold bY; rw [if_pos (solo_has _)]; rfl
theorem solo_rdE {n : Int} (h : 0 ≤ n ∧ n < S.length) : bT (solo S L left false st) 0 n = 0 := by
  unfold bT
  rw [if_pos solo_lit]
  exact fa h
theorem solo_rdB {k : Nat} (h : k < S.length) : cF (solo S [] left false st) 0 (k : Int) = S.getD k al := by
  unfold cF
  rw [if_pos solo_lit]
  show d7 S [] false (k : Int) = _
  rw [readB_ok (fa ⟨by omega, by omega⟩)]
  rfl
theorem solo_wrE {n : Int} {b : Blk} (h : 0 ≤ n ∧ n < S.length) : stpE 0 (solo S L left false st) (.wr n b) = if left = 1 then 8 else 0 := by
  show wrE6 _ _ _ = _
  unfold wrE6
  rw [if_pos (solo_rdE h)]
  rfl
theorem solo_wrS {n : Int} {b : Blk} (h : 0 ≤ n ∧ n < S.length) (hl : left ≠ 1) : stpS 0 (solo S L left false st) (.wr n b) = solo S (L ++ [(n, b)]) (left - 1) false (st + 1) := by
  show wrS6 _ _ _ _ = _
  unfold wrS6
  rw [if_pos (solo_rdE h), if_neg (show ¬ (solo S L left false st).left = 1 from hl)]
  have e : wrL S L false n b = L ++ [(n, b)] := by unfold wrL; rw [if_pos (fa h)]
  show BenS.put _ _ ⟨S, wrL S L false n b, false⟩ = _
  rw [e]
  rfl
theorem solo_wrN {n : Int} {b : Blk} (h : 0 ≤ n ∧ n < S.length) : stpS 0 (solo S L 1 false st) (.wr n b) = solo S L 1 true st := by
  show wrS6 _ _ _ _ = _
  unfold wrS6
  rw [if_pos (solo_rdE h), if_pos (show (solo S L 1 false st).left = 1 from rfl)]
  rfl
theorem solo_flA : flA6 (solo S L left false st) 0 = 0 := by
  unfold flA6
  rw [if_pos solo_lit]
  rfl
theorem solo_flE : stpE 0 (solo S L left false st) .fl = if left = 1 then 8 else 0 := by
  show flE6 _ _ = _
  unfold flE6
  rw [if_pos solo_flA]
  rfl
theorem solo_flS (hl : left ≠ 1) : stpS 0 (solo S L left false st) .fl = solo (flS S L) [] (left - 1) false (st + 1) := by
  show flS6 _ _ = _
  unfold flS6
  rw [if_pos solo_flA, if_neg (show ¬ (solo S L left false st).left = 1 from hl)]
  rfl
theorem solo_flN : stpS 0 (solo S L 1 false st) .fl = solo S L 1 true st := by
  show flS6 _ _ = _
  unfold flS6
  rw [if_pos solo_flA, if_pos (show (solo S L 1 false st).left = 1 from rfl)]
  rfl
end
theorem solo_go (l : List Stp) : ∀ (S : List Blk) (L : List (Int × Blk)) (left st : Nat), (∀ s ∈ l, s.okn S.length) →
    ((left = 0 ∨ l.length < left) ∧ goE 0 (solo S L left false st) l = 0 ∧ goB 0 (solo S L left false st) l = solo (aft l (S, L)).1 (aft l (S, L)).2 (left - l.length) false (st + l.length)) ∨
    (1 ≤ left ∧ left ≤ l.length ∧ goE 0 (solo S L left false st) l = 8 ∧ goB 0 (solo S L left false st) l = solo (aft (l.take (left - 1)) (S, L)).1 (aft (l.take (left - 1)) (S, L)).2 1 true (st + (left - 1))) := by
  induction l with
  | nil => intro S L left st _; exact .inl ⟨by simp; omega, rfl, rfl⟩
  | cons s l ih =>
    intro S L left st hs
    by_cases h1 : left = 1
    · subst h1
      right
      have hE : stpE 0 (solo S L 1 false st) s = 8 := by
        cases s with
        | wr n b => rw [solo_wrE (hs _ (List.mem_cons_self ..))]; rfl
        | fl => rw [solo_flE]; rfl
      have hB : stpS 0 (solo S L 1 false st) s = solo S L 1 true st := by
        cases s with
        | wr n b => exact solo_wrN (hs _ (List.mem_cons_self ..))
        | fl => exact solo_flN
      refine ⟨Nat.le_refl _, by simp, ?_, ?_⟩
      · rw [(go_no (by rw [hE]; decide)).1, hE]
      · rw [(go_no (by rw [hE]; decide)).2, hB]; rfl
    · obtain ⟨S', L', hl', hE, hB, hA⟩ : ∃ S' L', S'.length = S.length ∧ stpE 0 (solo S L left false st) s = 0 ∧ stpS 0 (solo S L left false st) s = solo S' L' (left - 1) false (st + 1) ∧ ∀ l, aft (s :: l) (S, L) = aft l (S', L') := by
        cases s with
        | wr n b => exact ⟨S, L ++ [(n, b)], rfl, by rw [solo_wrE (hs _ (List.mem_cons_self ..)), if_neg h1], solo_wrS (hs _ (List.mem_cons_self ..)) h1, fun _ => rfl⟩
        | fl => exact ⟨flS S L, [], eZ _ _, by rw [solo_flE, if_neg h1], solo_flS h1, fun _ => rfl⟩
      have := ih S' L' (left - 1) (st + 1) (fun t ht => by rw [hl']; exact hs t (List.mem_cons_of_mem _ ht))
      rw [(go_ok hE).1, (go_ok hE).2, hB]
      rcases this with ⟨g1, g2, g3⟩ | ⟨g1, g2, g3, g4⟩
      · left
        refine ⟨by rw [List.length_cons]; omega, g2, ?_⟩
        rw [g3, hA, List.length_cons, show left - 1 - l.length = left - (l.length + 1) from by omega, show st + 1 + l.length = st + (l.length + 1) from by omega]
      · right
        refine ⟨by omega, by rw [List.length_cons]; omega, g3, ?_⟩
        rw [g4, show left - 1 = (left - 1 - 1) + 1 from by omega, List.take_succ_cons, hA, show left - 1 - 1 + 1 - 1 = left - 1 - 1 from by omega, show st + 1 + (left - 1 - 1) = st + (left - 1 - 1 + 1) from by omega]
theorem flS_off {L : List (Int × Blk)} {j : Nat} (h : ∀ q ∈ L, q.1.toNat ≠ j) : ∀ S : List Blk, (flS S L).getD j al = S.getD j al := by
  induction L with
  | nil => intro S; rfl
  | cons q L ih =>
    intro S
    show (flS (S.set q.1.toNat q.2) L).getD j al = _
    rw [ih (fun p hp => h p (List.mem_cons_of_mem _ hp)), bl (Ne.symm (h q (List.mem_cons_self ..)))]
theorem crI_keep {S : List Blk} {L : List (Int × Blk)} {P : List Int} {j : Nat} (h : ∀ q ∈ L, q.1.toNat ≠ j) : ∀ i, i ≤ L.length → (crI S L P i).getD j al = S.getD j al
  | 0, _ => rfl
  | i + 1, hi => by
    have hm : L.getD i (0, al) ∈ L := getD_mem (by omega)
    rw [crI, bl (Ne.symm (h _ hm))]
    exact crI_keep h i (by omega)
theorem crI_one (S : List Blk) (n : Int) (b : Blk) (P : List Int) : crI S [(n, b)] P 1 = S.set n.toNat (torn (S.getD n.toNat al) b (P.getD 0 0)) := rfl
theorem Cod.torn_two {Y : Type} (C : Cod Y) {x : Y} {b d : Blk} {t : Int} (hx : C.pE x = 0) (hb : cx b.toList = agO b.toList) (hne : cx b.toList ≠ C.num x) (hd : torn b (C.pB x) t = d) : d = C.pB x ∨ d = b ∨ C.gE d ≠ 0 := by
  have a1 := C.of_pE hx
  have hnl : C.num x < 18446744073709551616 := by have := C.may_num _ a1; omega
  have pn := C.may_putE a1
  rw [C.pB_ok a1] at *
  have en := of_getE (put_getE hnl pn)
  have nn : cx (putB (C.num x) (C.body x)).toList = C.num x := by rw [← getN_of (put_getE hnl pn)]; exact put_getN hnl pn
  by_cases hg : C.gE d = 0
  · have hdd := (of_getE (C.of_gE hg).1).2.1
    rw [← hd] at hdd
    rcases torn_whole (n := t) en.2.1 hb (by rw [nn]; exact fun e => hne e.symm) hdd with h | h
    · exact .inl (by rw [← hd, h])
    · exact .inr (.inl (by rw [← hd, h]))
  · exact .inr (.inr hg)
theorem Cod.pB_num {Y : Type} (C : Cod Y) {x : Y} (hx : C.pE x = 0) : cx (C.pB x).toList = C.num x ∧ cx (C.pB x).toList = agO (C.pB x).toList := by
  have a1 := C.of_pE hx
  have hnl : C.num x < 18446744073709551616 := by have := C.may_num _ a1; omega
  have pn := C.may_putE a1
  rw [C.pB_ok a1]
  have en := of_getE (put_getE hnl pn)
  exact ⟨by rw [← getN_of (put_getE hnl pn)]; exact put_getN hnl pn, en.2.1⟩
theorem Cod.gN_le_num {Y : Type} (C : Cod Y) (b : Blk) : C.gN b ≤ cx b.toList := by
  by_cases h : C.gE b = 0
  · rw [C.gN_of h, getN_of (C.of_gE h).1]; exact Nat.le_refl _
  · rw [C.gN_no h]; exact Nat.zero_le _
theorem mod_ne {r p q : Nat} (h1 : p < q) (h2 : q < p + r) : p % r ≠ q % r := by
  intro e
  have e1 := Nat.div_add_mod p r
  have e2 := Nat.div_add_mod q r
  rw [← e] at e2
  have h3 : p / r < q / r := by
    rcases Nat.lt_or_ge (p / r) (q / r) with h | h
    · exact h
    · have := Nat.mul_le_mul_left r h
      omega
  have h4 := Nat.mul_le_mul_left r (show p / r + 1 ≤ q / r from h3)
  rw [Nat.mul_add, Nat.mul_one] at h4
  omega
theorem dY (r p : Nat) : (bR r p).toNat = 10 + p % r := by unfold bR; omega
theorem eC {α : Type} {f : Nat → α} {n : Nat} {a : α} (h : a ∈ (List.range n).map f) : ∃ i, i < n ∧ f i = a := by
  obtain ⟨i, hi, e⟩ := List.mem_map.1 h
  exact ⟨i, List.mem_range.1 hi, e⟩
theorem aft_wr (f : Nat → Int × Blk) : ∀ (n : Nat) (z : List Blk × List (Int × Blk)), aft ((List.range n).map fun i => Stp.wr (f i).1 (f i).2) z = (z.1, z.2 ++ (List.range n).map f)
  | 0, z => by simp [aft]
  | n + 1, z => by
    rw [List.range_succ, List.map_append, aft_app, aft_wr f n, List.map_append, ← List.append_assoc]
    rfl
theorem flS_rng (f : Nat → Int × Blk) (S : List Blk) : ∀ n, (∀ i, i < n → (f i).1.toNat < S.length) → (∀ i j, i < n → j < n → i ≠ j → (f i).1.toNat ≠ (f j).1.toNat) → ∀ i, i < n → (flS S ((List.range n).map f)).getD (f i).1.toNat al = (f i).2
  | 0, _, _, i, hi => by omega
  | n + 1, h1, h2, i, hi => by
    have e : flS S ((List.range (n + 1)).map f) = (flS S ((List.range n).map f)).set (f n).1.toNat (f n).2 := by
      rw [List.range_succ, List.map_append]
      unfold flS
      rw [List.foldl_append]
      rfl
    rw [e]
    by_cases hin : i = n
    · subst hin
      rw [cw (by rw [eZ]; exact h1 i (by omega))]
    · rw [bl (h2 i n hi (by omega) hin)]
      exact flS_rng f S n (fun j hj => h1 j (by omega)) (fun j k hj hk => h2 j k (by omega) (by omega)) i (by omega)
theorem flS_zero {L : List (Int × Blk)} {j : Nat} (h : ∀ q ∈ L, q.2 = al) : ∀ S : List Blk, S.getD j al = al → (flS S L).getD j al = al := by
  induction L with
  | nil => intro S e; exact e
  | cons q L ih =>
    intro S e
    refine ih (fun p hp => h p (List.mem_cons_of_mem _ hp)) (S.set q.1.toNat q.2) ?_
    by_cases hj : j = q.1.toNat
    · subst hj
      by_cases hl : q.1.toNat < S.length
      · rw [cw hl]; exact h q (List.mem_cons_self ..)
      · rw [List.getD, List.getElem?_eq_none (by rw [List.length_set]; omega)]; rfl
    · rw [bl hj]; exact e
structure OnD (S : List Blk) (x : LgS) (A : Nat → List Cl) (N : Nat) : Prop where
  len : S.length = 10 + x.size
  siz : 40 ≤ x.size ∧ x.size ≤ 256
  own : x.own ≠ 0 ∧ x.own < 18446744073709551616
  dev : x.d = 0
  lim : N ≤ 1000000
  cnt : 1 ≤ x.cnt ∧ x.cnt ≤ N
  fst : 1 ≤ x.fst ∧ x.next ≤ N
  pos : x.head ≤ 34 * N
  mrk : S.getD (x.cnt % 2) al = aN.pB ⟨x.cnt, ⟨x.own, (x.size : Int), x.fst, x.pos⟩⟩
  oth : aN.gN (S.getD ((x.cnt + 1) % 2) al) < x.cnt
  eig : x.nts.length ≤ 8
  use : x.used ≤ x.size
  nts : ∀ i, i < x.nts.length → (x.nts.getD i aI).seq = x.fst + i ∧ (x.nts.getD i aI).pos = x.pos + usd (x.nts.take i) ∧ S.getD (2 + (x.fst + i) % 8) al = aS.pB (x.nts.getD i aI)
  old : ∀ j, j < 8 → aS.gN (S.getD (2 + j) al) < x.next
  rcd : ∀ i, i < x.nts.length → recE (A (x.fst + i)) = 0 ∧ (x.nts.getD i aI).cells = ((A (x.fst + i)).length : Int) ∧ (x.nts.getD i aI).sum = sumB (bC (A (x.fst + i))) ∧
    ∀ j, j < (bC (A (x.fst + i))).length → S.getD (10 + ((x.nts.getD i aI).pos + j) % x.size) al = (bC (A (x.fst + i))).getD j al
structure Twn (S : List Blk) (x : LgS) : Prop where
  mkk : cx (S.getD ((x.cnt + 1) % 2) al).toList = agO (S.getD ((x.cnt + 1) % 2) al).toList ∧ cx (S.getD ((x.cnt + 1) % 2) al).toList < x.cnt
  nt : ∀ j, j < 8 → cx (S.getD (2 + j) al).toList = agO (S.getD (2 + j) al).toList ∧ cx (S.getD (2 + j) al).toList < x.next
section
variable {S S' : List Blk} {x : LgS} {A : Nat → List Cl} {N left st : Nat}
theorem OnD.tak (h : OnD S x A N) {i : Nat} (hi : i < x.nts.length) : aY (x.nts.getD i aI) = (bC (A (x.fst + i))).length ∧ 1 ≤ (A (x.fst + i)).length ∧ (A (x.fst + i)).length ≤ 32 := by
  obtain ⟨h1, h2, _⟩ := h.rcd i hi
  obtain ⟨h3, h4, _⟩ := of_recE h1
  refine ⟨?_, h3, h4⟩
  unfold aY
  rw [h2, bO, Int.toNat_natCast]
theorem OnD.end_ (h : OnD S x A N) {i : Nat} (hi : i < x.nts.length) : usd (x.nts.take i) + aY (x.nts.getD i aI) ≤ x.used := by
  have h1 := fz hi
  have h2 := fe x.nts (i + 1)
  unfold LgS.used
  omega
theorem OnD.mark_fit (h : OnD S x A N) {c f a : Nat} (hc : 1 ≤ c ∧ c ≤ 2000000) (hf : 1 ≤ f ∧ f ≤ 2000000) (ha : a ≤ 100000000) : aN.pE ⟨c, ⟨x.own, (x.size : Int), f, a⟩⟩ = 0 ∧ aN.fits ⟨c, ⟨x.own, (x.size : Int), f, a⟩⟩ := by
  obtain ⟨s1, s2⟩ := h.siz
  obtain ⟨o1, o2⟩ := h.own
  refine ⟨aN.pE_ok ?_, by show c < _; omega, by show x.own < _; omega, by show f < _; omega, by show a < _; omega⟩
  rw [el, Bool.and_eq_true]
  exact ⟨decide_eq_true ⟨by omega, by omega⟩, decide_eq_true ⟨o1, by show (40 : Int) ≤ (x.size : Int); omega, by show (x.size : Int) ≤ 256; omega, by show 1 ≤ f; omega, by show f ≤ _; omega, by show a ≤ _; omega⟩⟩
theorem OnD.mark_got (h : OnD S x A N) : aN.gE (S.getD (x.cnt % 2) al) = 0 ∧ aN.gX (S.getD (x.cnt % 2) al) = ⟨x.cnt, ⟨x.own, (x.size : Int), x.fst, x.pos⟩⟩ := by
  have hl := h.lim
  have hc := h.cnt
  have hf := h.fst
  have hp := h.pos
  have hn : x.next = x.fst + x.nts.length := rfl
  have hh : x.head = x.pos + x.used := rfl
  obtain ⟨h1, h2⟩ := h.mark_fit (c := x.cnt) (f := x.fst) (a := x.pos) (by omega) (by omega) (by omega)
  rw [h.mrk]
  exact aN.put_get h2 h1
theorem OnD.record (h : OnD S x A N) {q : Nat} (hq : livQ x q = true) : rcdE (solo S [] left false st) x q = 0 ∧ rcdC (solo S [] left false st) x q = A q := by
  obtain ⟨h1, h2⟩ : x.fst ≤ q ∧ q < x.next := of_decide_eq_true hq
  have hn : x.next = x.fst + x.nts.length := rfl
  obtain ⟨i, rfl⟩ : ∃ i, q = x.fst + i := ⟨q - x.fst, by omega⟩
  have hi : i < x.nts.length := by omega
  obtain ⟨c1, c2, c3, c4⟩ := h.rcd i hi
  obtain ⟨t1, t2, t3⟩ := h.tak hi
  have hnote : x.note (x.fst + i) = x.nts.getD i aI := by unfold LgS.note; rw [show x.fst + i - x.fst = i from by omega]
  obtain ⟨s1, s2⟩ := h.siz
  have hlen := h.len
  have hsec : ∀ p, 10 + p % x.size < S.length := fun p => by have := Nat.mod_lt p (show 0 < x.size by omega); omega
  have hL : rcdL (solo S [] left false st) x (x.nts.getD i aI) = bC (A (x.fst + i)) := by
    unfold rcdL
    apply List.ext_getElem
    · rw [List.length_map, List.length_range, t1]
    · intro j hj1 hj2
      rw [List.getElem_map, List.getElem_range, h.dev, bR, show ((0 : Nat) : Int) = 0 from rfl, solo_rdB (hsec _), c4 j hj2, List.getD, List.getElem?_eq_getElem hj2]
      rfl
  have hr : bT (solo S [] left false st) (x.d : Int) (bR x.size (x.nts.getD i aI).pos) = 0 := by
    rw [h.dev]
    have := hsec (x.nts.getD i aI).pos
    exact solo_rdE ⟨by unfold bR; omega, by unfold bR; omega⟩
  obtain ⟨g1, g2⟩ := rec_got c1
  have hE : rcdE (solo S [] left false st) x (x.fst + i) = 0 := by
    unfold rcdE
    rw [if_pos hq, hnote, if_pos hr, hL]
    unfold rcdF
    rw [if_pos c3.symm, c2, g1]
    rfl
  refine ⟨hE, ?_⟩
  unfold rcdC
  rw [if_pos hE, hnote, hL, c2, g2]
theorem OnD.keep (h : OnD S x A N) (hl : S'.length = S.length) (hm : S'.getD (x.cnt % 2) al = S.getD (x.cnt % 2) al) (ho : aN.gN (S'.getD ((x.cnt + 1) % 2) al) < x.cnt)
    (hn : ∀ j, j < 8 → S'.getD (2 + j) al = S.getD (2 + j) al ∨ (aS.gN (S'.getD (2 + j) al) < x.next ∧ ∀ i, i < x.nts.length → (x.fst + i) % 8 ≠ j))
    (hr : ∀ p, x.pos ≤ p → p < x.head → S'.getD (10 + p % x.size) al = S.getD (10 + p % x.size) al) : OnD S' x A N where
  len := hl.trans h.len
  siz := h.siz
  own := h.own
  dev := h.dev
  lim := h.lim
  cnt := h.cnt
  fst := h.fst
  pos := h.pos
  mrk := hm.trans h.mrk
  oth := ho
  eig := h.eig
  use := h.use
  nts := fun i hi => by
    obtain ⟨h1, h2, h3⟩ := h.nts i hi
    refine ⟨h1, h2, ?_⟩
    rcases hn ((x.fst + i) % 8) (Nat.mod_lt _ (by omega)) with e | ⟨_, e⟩
    · rw [e]; exact h3
    · exact absurd rfl (e i hi)
  old := fun j hj => by
    rcases hn j hj with e | ⟨e, _⟩
    · rw [e]; exact h.old j hj
    · exact e
  rcd := fun i hi => by
    obtain ⟨h1, h2, h3, h4⟩ := h.rcd i hi
    refine ⟨h1, h2, h3, fun j hj => ?_⟩
    obtain ⟨n1, n2, n3⟩ := h.nts i hi
    have he := h.end_ hi
    have ht := (h.tak hi).1
    rw [hr _ (by omega) (by unfold LgS.head; omega)]
    exact h4 j hj
end
section
variable {S S' : List Blk} {x : LgS} {A : Nat → List Cl} {N left st : Nat} {cs : List Cl} {f : Nat}
theorem of_appQ (h : appQ x cs = 0) : recE cs = 0 ∧ x.nts.length < 8 ∧ (bC cs).length ≤ x.free := by
  unfold appQ at h
  by_cases h1 : recE cs = 0
  · rw [if_neg (by omega)] at h
    by_cases h2 : 8 ≤ x.nts.length ∨ x.free < (bC cs).length
    · rw [if_pos h2] at h; cases h
    · exact ⟨h1, by omega, by omega⟩
  · rw [if_pos h1] at h; omega
def upA (A : Nat → List Cl) (q : Nat) (cs : List Cl) : Nat → List Cl := fun p => if p = q then cs else A p
theorem upA_at : upA A f cs f = cs := if_pos rfl
theorem upA_off {q : Nat} (h : q ≠ f) : upA A f cs q = A q := if_neg h
theorem eO : aY (cE x cs) = (bC cs).length := by unfold aY cE; rw [bO]; simp
theorem getD_app_lt {α : Type} {l : List α} {a d : α} {i : Nat} (h : i < l.length) : (l ++ [a]).getD i d = l.getD i d := by simp [List.getD, List.getElem?_append_left h]
theorem getD_app_at {α : Type} {l : List α} {a d : α} : (l ++ [a]).getD l.length d = a := by simp [List.getD]
theorem lgNt_fit (h : OnD S x A N) (hq : appQ x cs = 0) (hN : N + 1 ≤ 1000000) : aS.pE (cE x cs) = 0 ∧ (cE x cs).fit := by
  obtain ⟨q1, q2, q3⟩ := of_appQ hq
  obtain ⟨r1, r2, _⟩ := of_recE q1
  have hf := h.fst
  have hp := h.pos
  have hs := sumB_lt (bC cs)
  refine ⟨aS.pE_ok (decide_eq_true ⟨?_, ?_, ?_, ?_, ?_⟩), ?_, ?_, ?_⟩
  · show 1 ≤ x.next; unfold LgS.next; omega
  · show x.next ≤ _; omega
  · show x.head ≤ _; omega
  · show (1 : Int) ≤ (cs.length : Int); omega
  · show (cs.length : Int) ≤ 32; omega
  · show x.next < _; omega
  · show x.head < _; omega
  · exact hs
theorem OnD.app (h : OnD S x A N) (hq : appQ x cs = 0) (hN : N + 1 ≤ 1000000) (hl : S'.length = S.length) (h0 : ∀ j, j < 2 → S'.getD j al = S.getD j al)
    (hn : ∀ j, j < 8 → j ≠ x.next % 8 → S'.getD (2 + j) al = S.getD (2 + j) al) (hb : S'.getD (2 + x.next % 8) al = aS.pB (cE x cs))
    (hr : ∀ p, x.pos ≤ p → p < x.head → S'.getD (10 + p % x.size) al = S.getD (10 + p % x.size) al)
    (hw : ∀ i, i < (bC cs).length → S'.getD (10 + (x.head + i) % x.size) al = (bC cs).getD i al) : OnD S' (x.with_ (cE x cs)) (upA A x.next cs) (N + 1) := by
  obtain ⟨q1, q2, q3⟩ := of_appQ hq
  obtain ⟨r1, r2, _⟩ := of_recE q1
  obtain ⟨p1, p2⟩ := lgNt_fit h hq hN
  have hnx : x.next = x.fst + x.nts.length := rfl
  have hhd : x.head = x.pos + x.used := rfl
  have huse := h.use
  have hfr : x.free = x.size - x.used := rfl
  have hrl := bO cs
  have hhd2 : hd cs.length ≤ 2 := by unfold hd; omega
  have hc := h.cnt
  have hf := h.fst
  have hp := h.pos
  have hsz := h.siz
  refine ⟨hl.trans h.len, h.siz, h.own, h.dev, hN, ⟨hc.1, by show x.cnt ≤ _; omega⟩, ⟨hf.1, by rw [with_next]; omega⟩, ?_, (h0 _ (Nat.mod_lt _ (by omega))).trans h.mrk, ?_, ?_, ?_, ?_, ?_, ?_⟩
  · rw [with_head, eO]; omega
  · show aN.gN (S'.getD ((x.cnt + 1) % 2) al) < x.cnt
    rw [h0 _ (Nat.mod_lt _ (by omega))]; exact h.oth
  · show (x.nts ++ [cE x cs]).length ≤ 8
    rw [List.length_append, List.length_singleton]; omega
  · rw [with_used, eO]; show _ ≤ x.size; omega
  · intro i hi
    have hi' : i < x.nts.length + 1 := by have : i < (x.nts ++ [cE x cs]).length := hi; rwa [List.length_append, List.length_singleton] at this
    show ((x.nts ++ [cE x cs]).getD i aI).seq = x.fst + i ∧ ((x.nts ++ [cE x cs]).getD i aI).pos = x.pos + usd ((x.nts ++ [cE x cs]).take i) ∧ S'.getD (2 + (x.fst + i) % 8) al = aS.pB ((x.nts ++ [cE x cs]).getD i aI)
    by_cases e : i = x.nts.length
    · subst e
      rw [getD_app_at, List.take_append_of_le_length (Nat.le_refl _), List.take_length]
      exact ⟨rfl, rfl, hb⟩
    · have hlt : i < x.nts.length := by omega
      obtain ⟨n1, n2, n3⟩ := h.nts i hlt
      rw [getD_app_lt hlt, List.take_append_of_le_length (by omega), hn _ (Nat.mod_lt _ (by omega)) (by omega)]
      exact ⟨n1, n2, n3⟩
  · intro j hj
    rw [with_next]
    by_cases e : j = x.next % 8
    · subst e
      rw [hb, aS.put_gN p2 p1]
      show x.next < _
      omega
    · rw [hn j hj e]
      have := h.old j hj
      omega
  · intro i hi
    have hi' : i < x.nts.length + 1 := by have : i < (x.nts ++ [cE x cs]).length := hi; rwa [List.length_append, List.length_singleton] at this
    show recE (upA A x.next cs (x.fst + i)) = 0 ∧ ((x.nts ++ [cE x cs]).getD i aI).cells = ((upA A x.next cs (x.fst + i)).length : Int) ∧ ((x.nts ++ [cE x cs]).getD i aI).sum = sumB (bC (upA A x.next cs (x.fst + i))) ∧
      ∀ j, j < (bC (upA A x.next cs (x.fst + i))).length → S'.getD (10 + (((x.nts ++ [cE x cs]).getD i aI).pos + j) % x.size) al = (bC (upA A x.next cs (x.fst + i))).getD j al
    by_cases e : i = x.nts.length
    · subst e
      rw [getD_app_at, ← hnx, upA_at]
      exact ⟨q1, rfl, rfl, hw⟩
    · have hlt : i < x.nts.length := by omega
      obtain ⟨n1, n2, n3⟩ := h.nts i hlt
      obtain ⟨c1, c2, c3, c4⟩ := h.rcd i hlt
      have he := h.end_ hlt
      have ht := (h.tak hlt).1
      rw [getD_app_lt hlt, upA_off (by omega)]
      refine ⟨c1, c2, c3, fun j hj => ?_⟩
      rw [hr _ (by omega) (by omega)]
      exact c4 j hj
theorem Twn.app (h : OnD S x A N) (t : Twn S x) (hq : appQ x cs = 0) (hN : N + 1 ≤ 1000000) (h0 : ∀ j, j < 2 → S'.getD j al = S.getD j al)
    (hn : ∀ j, j < 8 → j ≠ x.next % 8 → S'.getD (2 + j) al = S.getD (2 + j) al) (hb : S'.getD (2 + x.next % 8) al = aS.pB (cE x cs)) : Twn S' (x.with_ (cE x cs)) := by
  obtain ⟨p1, p2⟩ := lgNt_fit h hq hN
  refine ⟨?_, fun j hj => ?_⟩
  · show cx (S'.getD ((x.cnt + 1) % 2) al).toList = agO (S'.getD ((x.cnt + 1) % 2) al).toList ∧ cx (S'.getD ((x.cnt + 1) % 2) al).toList < x.cnt
    rw [h0 _ (Nat.mod_lt _ (by omega))]
    exact t.mkk
  · rw [with_next]
    by_cases e : j = x.next % 8
    · subst e
      rw [hb]
      obtain ⟨e1, e2⟩ := aS.pB_num p1
      refine ⟨e2, ?_⟩
      rw [e1]
      show x.next < _
      omega
    · rw [hn j hj e]
      obtain ⟨e1, e2⟩ := t.nt j hj
      exact ⟨e1, by omega⟩
theorem drop_getD {α : Type} (l : List α) (g i : Nat) (d : α) : (l.drop g).getD i d = l.getD (g + i) d := by simp [List.getD, List.getElem?_drop]
theorem OnD.clr (h : OnD S x A N) (hq : clrQ x f = true) (hN : N + 1 ≤ 1000000) (hl : S'.length = S.length) (hm : S'.getD ((x.cnt + 1) % 2) al = aN.pB ⟨x.cnt + 1, ⟨x.own, (x.size : Int), f, x.at_ f⟩⟩)
    (ho : S'.getD (x.cnt % 2) al = S.getD (x.cnt % 2) al) (hr : ∀ j, 2 ≤ j → S'.getD j al = S.getD j al) : OnD S' (x.cut f) A (N + 1) := by
  obtain ⟨f1, f2⟩ := of_clrQ hq
  have hnx : x.next = x.fst + x.nts.length := rfl
  obtain ⟨g, rfl⟩ : ∃ g, f = x.fst + g := ⟨f - x.fst, by omega⟩
  have hg : x.fst + g - x.fst = g := by omega
  have hc := h.cnt
  have hf := h.fst
  have hp := h.pos
  have heig := h.eig
  have hcl : (x.cut (x.fst + g)).nts = x.nts.drop g := by unfold LgS.cut; simp only [hg]
  have hat : x.at_ (x.fst + g) = x.pos + usd (x.nts.take g) := by unfold LgS.at_; rw [hg]
  have husd : ∀ i, usd (x.nts.take (g + i)) = usd (x.nts.take g) + usd ((x.nts.drop g).take i) := fun i => by rw [List.take_add, ft]
  refine ⟨hl.trans h.len, h.siz, h.own, h.dev, hN, ⟨by show 1 ≤ x.cnt + 1; omega, by show x.cnt + 1 ≤ _; omega⟩, ⟨by show 1 ≤ x.fst + g; omega, by rw [cut_next hq]; omega⟩, by rw [cut_head hq]; omega, hm, ?_, ?_, Nat.le_trans (cut_used hq) h.use, ?_, ?_, ?_⟩
  · show aN.gN (S'.getD ((x.cnt + 1 + 1) % 2) al) < x.cnt + 1
    rw [show (x.cnt + 1 + 1) % 2 = x.cnt % 2 from by omega, ho]
    unfold Cod.gN
    rw [h.mark_got.2]
    show x.cnt < _
    omega
  · rw [hcl, List.length_drop]; omega
  · rw [hcl]
    intro i hi
    rw [List.length_drop] at hi
    have hlt : g + i < x.nts.length := by omega
    obtain ⟨n1, n2, n3⟩ := h.nts (g + i) hlt
    rw [drop_getD]
    refine ⟨by show _ = x.fst + g + i; omega, ?_, ?_⟩
    · show _ = x.at_ (x.fst + g) + _
      rw [n2, hat, husd]; omega
    · show S'.getD (2 + (x.fst + g + i) % 8) al = _
      rw [hr _ (by omega), show x.fst + g + i = x.fst + (g + i) from by omega]
      exact n3
  · intro j hj
    rw [hr _ (by omega), cut_next hq]
    exact h.old j hj
  · rw [hcl]
    intro i hi
    rw [List.length_drop] at hi
    have hlt : g + i < x.nts.length := by omega
    obtain ⟨c1, c2, c3, c4⟩ := h.rcd (g + i) hlt
    rw [drop_getD]
    show recE (A (x.fst + g + i)) = 0 ∧ _ = ((A (x.fst + g + i)).length : Int) ∧ _ = sumB (bC (A (x.fst + g + i))) ∧ ∀ j, j < (bC (A (x.fst + g + i))).length → S'.getD (10 + (_ + j) % x.size) al = (bC (A (x.fst + g + i))).getD j al
    rw [show x.fst + g + i = x.fst + (g + i) from by omega]
    refine ⟨c1, c2, c3, fun j hj => ?_⟩
    rw [hr _ (by omega)]
    exact c4 j hj
theorem Twn.clr (h : OnD S x A N) (t : Twn S x) (hq : clrQ x f = true) (hr : ∀ j, 2 ≤ j → S'.getD j al = S.getD j al) (ho : S'.getD (x.cnt % 2) al = S.getD (x.cnt % 2) al) : Twn S' (x.cut f) := by
  refine ⟨?_, fun j hj => ?_⟩
  · show cx (S'.getD ((x.cnt + 1 + 1) % 2) al).toList = agO (S'.getD ((x.cnt + 1 + 1) % 2) al).toList ∧ cx (S'.getD ((x.cnt + 1 + 1) % 2) al).toList < x.cnt + 1
    rw [show (x.cnt + 1 + 1) % 2 = x.cnt % 2 from by omega, ho, h.mrk]
    have hl := h.lim
    have hc := h.cnt
    have hf := h.fst
    have hp := h.pos
    have hn : x.next = x.fst + x.nts.length := rfl
    have hh : x.head = x.pos + x.used := rfl
    obtain ⟨e1, e2⟩ := aN.pB_num (h.mark_fit (c := x.cnt) (f := x.fst) (a := x.pos) (by omega) (by omega) (by omega)).1
    refine ⟨e2, ?_⟩
    rw [e1]
    show x.cnt < _
    omega
  · rw [hr _ (by omega), cut_next hq]
    exact t.nt j hj
end
section
variable {S : List Blk} {x : LgS} {A : Nat → List Cl} {N left st : Nat} {cs : List Cl} {f : Nat}
def appF (x : LgS) (cs : List Cl) (i : Nat) : Int × Blk := (bR x.size (x.head + i), (bC cs).getD i al)
theorem recT_eq : recT x.size x.head (bC cs) = (List.range (bC cs).length).map fun i => Stp.wr (appF x cs i).1 (appF x cs i).2 := rfl
theorem appT_len : (appT x cs).length = (bC cs).length + 3 := by unfold appT; rw [recT_eq]; simp
theorem appT_ok (h : OnD S x A N) : ∀ s ∈ appT x cs, s.okn S.length := by
  have hlen := h.len
  have hsz := h.siz
  intro s hs
  unfold appT at hs
  rcases List.mem_append.1 hs with hs | hs
  · obtain ⟨i, hi, rfl⟩ := eC hs
    have := Nat.mod_lt (x.head + i) (show 0 < x.size by omega)
    exact ⟨by unfold bR; omega, by unfold bR; omega⟩
  · simp only [List.mem_cons, List.not_mem_nil, or_false] at hs
    rcases hs with rfl | rfl | rfl
    · trivial
    · have := Nat.mod_lt x.next (show 0 < 8 by omega)
      exact ⟨by unfold cJ; omega, by unfold cJ; omega⟩
    · trivial
theorem app_off (h : OnD S x A N) (hq : appQ x cs = 0) {V : List (Int × Blk)} (hV : ∀ q ∈ V, ∃ i, i < (bC cs).length ∧ q.1 = bR x.size (x.head + i)) :
    (∀ j, j < 10 → ∀ q ∈ V, q.1.toNat ≠ j) ∧ ∀ p, x.pos ≤ p → p < x.head → ∀ q ∈ V, q.1.toNat ≠ 10 + p % x.size := by
  obtain ⟨_, _, q3⟩ := of_appQ hq
  have huse := h.use
  have hfr : x.free = x.size - x.used := rfl
  have hhd : x.head = x.pos + x.used := rfl
  constructor
  · intro j hj q hm
    obtain ⟨i, _, e⟩ := hV q hm
    rw [e, dY]
    omega
  · intro p h1 h2 q hm
    obtain ⟨i, hi, e⟩ := hV q hm
    rw [e, dY]
    have := mod_ne (r := x.size) (p := p) (q := x.head + i) (by omega) (by omega)
    omega
theorem app_in {k : Nat} (hk : k ≤ (bC cs).length) : ∀ q ∈ (List.range k).map (appF x cs), ∃ i, i < (bC cs).length ∧ q.1 = bR x.size (x.head + i) := by
  intro q hm
  obtain ⟨i, hi, rfl⟩ := eC hm
  exact ⟨i, by omega, rfl⟩
def appR (S : List Blk) (x : LgS) (cs : List Cl) : List Blk := flS S ((List.range (bC cs).length).map (appF x cs))
theorem appR_is (h : OnD S x A N) (hq : appQ x cs = 0) : (appR S x cs).length = S.length ∧ (∀ j, j < 10 → (appR S x cs).getD j al = S.getD j al) ∧
    (∀ p, x.pos ≤ p → p < x.head → (appR S x cs).getD (10 + p % x.size) al = S.getD (10 + p % x.size) al) ∧ ∀ i, i < (bC cs).length → (appR S x cs).getD (10 + (x.head + i) % x.size) al = (bC cs).getD i al := by
  obtain ⟨o1, o2⟩ := app_off h hq (app_in (x := x) (cs := cs) (Nat.le_refl _))
  obtain ⟨_, _, q3⟩ := of_appQ hq
  have huse := h.use
  have hfr : x.free = x.size - x.used := rfl
  have hsz := h.siz
  have hlen := h.len
  refine ⟨eZ _ _, fun j hj => flS_off (o1 j hj) S, fun p h1 h2 => flS_off (o2 p h1 h2) S, fun i hi => ?_⟩
  have := flS_rng (appF x cs) S (bC cs).length (fun i hi => by
      show (bR x.size (x.head + i)).toNat < _
      rw [dY]
      have := Nat.mod_lt (x.head + i) (show 0 < x.size by omega)
      omega) (fun i j hi hj hne => by
      show (bR x.size (x.head + i)).toNat ≠ (bR x.size (x.head + j)).toNat
      rw [dY, dY]
      rcases Nat.lt_or_ge i j with hlt | hge
      · have := mod_ne (r := x.size) (p := x.head + i) (q := x.head + j) (by omega) (by omega)
        omega
      · have := mod_ne (r := x.size) (p := x.head + j) (q := x.head + i) (by omega) (by omega)
        omega) i hi
  rw [show (appF x cs i).1.toNat = 10 + (x.head + i) % x.size from dY _ _] at this
  exact this
theorem app_aft (h : OnD S x A N) : aft (appT x cs) (S, []) = ((appR S x cs).set (2 + x.next % 8) (aS.pB (cE x cs)), []) := by
  unfold appT
  rw [aft_app, recT_eq, aft_wr, List.nil_append]
  show (flS (appR S x cs) [(cJ x.next, aS.pB (cE x cs))], []) = _
  rfl
theorem app_done (h : OnD S x A N) (t : Twn S x) (hq : appQ x cs = 0) (hN : N + 1 ≤ 1000000) {S' : List Blk} (hl : S'.length = S.length) (hr : ∀ j, j ≠ 2 + x.next % 8 → S'.getD j al = (appR S x cs).getD j al) (hb : S'.getD (2 + x.next % 8) al = aS.pB (cE x cs)) :
    OnD S' (x.with_ (cE x cs)) (upA A x.next cs) (N + 1) ∧ Twn S' (x.with_ (cE x cs)) := by
  obtain ⟨_, r1, r2, r3⟩ := appR_is h hq
  have hm := Nat.mod_lt x.next (show 0 < 8 by omega)
  have a0 : ∀ j, j < 2 → S'.getD j al = S.getD j al := fun j hj => by rw [hr j (by omega), r1 j (by omega)]
  have a1 : ∀ j, j < 8 → j ≠ x.next % 8 → S'.getD (2 + j) al = S.getD (2 + j) al := fun j hj hne => by rw [hr _ (by omega), r1 _ (by omega)]
  exact ⟨h.app hq hN hl a0 a1 hb (fun p h1 h2 => by rw [hr _ (by omega), r2 p h1 h2]) (fun i hi => by rw [hr _ (by omega), r3 i hi]), Twn.app h t hq hN a0 a1 hb⟩
theorem app_same (h : OnD S x A N) (hq : appQ x cs = 0) {S' : List Blk} (hl : S'.length = S.length) (h0 : ∀ j, j < 10 → j ≠ 2 + x.next % 8 → S'.getD j al = S.getD j al) (hb : S'.getD (2 + x.next % 8) al = S.getD (2 + x.next % 8) al ∨ aS.gN (S'.getD (2 + x.next % 8) al) < x.next)
    (hr : ∀ p, x.pos ≤ p → p < x.head → S'.getD (10 + p % x.size) al = S.getD (10 + p % x.size) al) : OnD S' x A N := by
  obtain ⟨_, q2, _⟩ := of_appQ hq
  have hnx : x.next = x.fst + x.nts.length := rfl
  have h2 : ∀ a : Nat, a % 2 < 2 := fun a => Nat.mod_lt _ (by omega)
  refine h.keep hl (h0 _ (by have := h2 x.cnt; omega) (by have := h2 x.cnt; omega)) ?_ (fun j hj => ?_) hr
  · rw [h0 _ (by have := h2 (x.cnt + 1); omega) (by have := h2 (x.cnt + 1); omega)]
    exact h.oth
  · by_cases e : j = x.next % 8
    · subst e
      rcases hb with e | e
      · exact .inl e
      · exact .inr ⟨e, fun i hi => by omega⟩
    · exact .inl (h0 _ (by omega) (by omega))
theorem app_go (h : OnD S x A N) (t : Twn S x) (hq : appQ x cs = 0) (hN : N + 1 ≤ 1000000) :
    ((left = 0 ∨ (bC cs).length + 3 < left) ∧ appE (solo S [] left false st) x cs = 0 ∧ ∃ S', appB (solo S [] left false st) x cs = solo S' [] (left - ((bC cs).length + 3)) false (st + ((bC cs).length + 3)) ∧ OnD S' (x.with_ (cE x cs)) (upA A x.next cs) (N + 1) ∧ Twn S' (x.with_ (cE x cs))) ∨
    (1 ≤ left ∧ appE (solo S [] left false st) x cs = 8 ∧ ∃ S1 L1 st', appB (solo S [] left false st) x cs = solo S1 L1 1 true st' ∧ st' ≤ st + ((bC cs).length + 3) ∧ L1.length ≤ 40 ∧ ∀ P, OnD (crI S1 L1 P L1.length) x A N ∨ OnD (crI S1 L1 P L1.length) (x.with_ (cE x cs)) (upA A x.next cs) (N + 1)) := by
  obtain ⟨rl, r1, r2, r3⟩ := appR_is h hq
  obtain ⟨e0, _, _⟩ := of_appQ hq
  obtain ⟨c1, c2, _⟩ := of_recE e0
  have hrl := bO cs
  have hhd2 : hd cs.length ≤ 2 := by unfold hd; omega
  have hm := Nat.mod_lt x.next (show 0 < 8 by omega)
  have hlen := h.len
  have hsz := h.siz
  unfold appE appB
  rw [if_pos hq, if_pos hq, h.dev]
  rcases solo_go (appT x cs) S [] left st (appT_ok h) with ⟨g1, g2, g3⟩ | ⟨g1, g2, g3, g4⟩
  · left
    rw [appT_len] at g1 g3
    refine ⟨g1, g2, _, by rw [show ((0 : Nat) : Int) = 0 from rfl, g3, app_aft h], ?_⟩
    exact app_done h t hq hN (by rw [List.length_set, rl]) (fun j hj => bl hj) (cw (by rw [rl]; omega))
  · right
    rw [appT_len] at g2
    refine ⟨g1, g3, _, _, _, g4, by omega, ?_, ?_⟩
    · have hlw : ∀ (l : List Stp) (z : List Blk × List (Int × Blk)), (aft l z).2.length ≤ z.2.length + l.length := by
        intro l
        induction l with
        | nil => intro z; exact Nat.le_refl _
        | cons s l ih =>
          intro z
          cases s with
          | wr n b => have := ih (z.1, z.2 ++ [(n, b)]); rw [List.length_append] at this; rw [List.length_cons]; show (aft l _).2.length ≤ _; simp only [List.length_singleton] at this; omega
          | fl => have := ih (flS z.1 z.2, []); rw [List.length_cons]; show (aft l _).2.length ≤ _; simp only [List.length_nil] at this; omega
      have := hlw ((appT x cs).take (left - 1)) (S, [])
      rw [List.length_take] at this
      simp only [List.length_nil] at this
      have hal := appT_len (x := x) (cs := cs)
      omega
    · intro P
      have hn := bO cs
      by_cases k1 : left - 1 ≤ (bC cs).length
      ·
        have e : aft ((appT x cs).take (left - 1)) (S, []) = (S, (List.range (left - 1)).map (appF x cs)) := by
          unfold appT
          rw [List.take_append_of_le_length (by rw [recT_eq, List.length_map, List.length_range]; exact k1), recT_eq, ← List.map_take, List.take_range, Nat.min_eq_left k1, aft_wr, List.nil_append]
        rw [e]
        obtain ⟨o1, o2⟩ := app_off h hq (app_in (x := x) (cs := cs) k1)
        exact .inl (app_same h hq (crI_len _ _ _ _) (fun j hj _ => crI_keep (o1 j hj) _ (Nat.le_refl _)) (.inl (crI_keep (o1 _ (by omega)) _ (Nat.le_refl _))) (fun p h1 h2 => crI_keep (o2 p h1 h2) _ (Nat.le_refl _)))
      · by_cases k2 : left - 1 = (bC cs).length + 1
        · have e : aft ((appT x cs).take (left - 1)) (S, []) = (appR S x cs, []) := by
            unfold appT
            rw [List.take_append, k2, recT_eq, List.length_map, List.length_range, List.take_of_length_le (by rw [List.length_map, List.length_range]; omega), show (bC cs).length + 1 - (bC cs).length = 1 from by omega, aft_app, aft_wr, List.nil_append]
            rfl
          rw [e]
          exact .inl (app_same h hq rl (fun j hj _ => r1 j hj) (.inl (r1 _ (by omega))) r2)
        · have k3 : left - 1 = (bC cs).length + 2 := by omega
          have e : aft ((appT x cs).take (left - 1)) (S, []) = (appR S x cs, [(cJ x.next, aS.pB (cE x cs))]) := by
            unfold appT
            rw [List.take_append, k3, recT_eq, List.length_map, List.length_range, List.take_of_length_le (by rw [List.length_map, List.length_range]; omega), show (bC cs).length + 2 - (bC cs).length = 2 from by omega, aft_app, aft_wr, List.nil_append]
            rfl
          rw [e]
          show OnD (crI (appR S x cs) [(cJ x.next, aS.pB (cE x cs))] P 1) x A N ∨ OnD (crI (appR S x cs) [(cJ x.next, aS.pB (cE x cs))] P 1) _ _ _
          rw [crI_one, show (cJ x.next).toNat = 2 + x.next % 8 from by unfold cJ; omega]
          obtain ⟨d, hd⟩ : ∃ d, torn ((appR S x cs).getD (2 + x.next % 8) al) (aS.pB (cE x cs)) (P.getD 0 0) = d := ⟨_, rfl⟩
          rw [hd]
          have hlt : 2 + x.next % 8 < (appR S x cs).length := by rw [rl]; omega
          have hat : ((appR S x cs).set (2 + x.next % 8) d).getD (2 + x.next % 8) al = d := cw hlt
          have hoff : ∀ j, j ≠ 2 + x.next % 8 → ((appR S x cs).set (2 + x.next % 8) d).getD j al = (appR S x cs).getD j al := fun j hj => bl hj
          obtain ⟨u1, u2⟩ := t.nt _ hm
          rw [r1 _ (by omega)] at hd
          rcases aS.torn_two (lgNt_fit h hq hN).1 u1 (by show _ ≠ x.next; omega) hd with e | e | e
          · right
            exact (app_done h t hq hN (by rw [List.length_set, rl]) hoff (by rw [hat, e])).1
          · left
            exact app_same h hq (by rw [List.length_set, rl]) (fun j hj hne => by rw [hoff j hne, r1 j hj]) (.inl (by rw [hat, e])) (fun p h1 h2 => by rw [hoff _ (by omega), r2 p h1 h2])
          · left
            exact app_same h hq (by rw [List.length_set, rl]) (fun j hj hne => by rw [hoff j hne, r1 j hj]) (.inr (by rw [hat, aS.gN_no e]; have := h.fst; unfold LgS.next; omega)) (fun p h1 h2 => by rw [hoff _ (by omega), r2 p h1 h2])
end
section
variable {S : List Blk} {x : LgS} {A : Nat → List Cl} {N left st : Nat} {f : Nat}
theorem clr_go (h : OnD S x A N) (t : Twn S x) (hq : clrQ x f = true) (hN : N + 1 ≤ 1000000) :
    ((left = 0 ∨ 2 < left) ∧ clrE (solo S [] left false st) x f = 0 ∧ ∃ S', clrB (solo S [] left false st) x f = solo S' [] (left - 2) false (st + 2) ∧ OnD S' (x.cut f) A (N + 1) ∧ Twn S' (x.cut f)) ∨
    (1 ≤ left ∧ clrE (solo S [] left false st) x f = 8 ∧ ∃ S1 L1 st', clrB (solo S [] left false st) x f = solo S1 L1 1 true st' ∧ st' ≤ st + 2 ∧ L1.length ≤ 40 ∧ ∀ P, OnD (crI S1 L1 P L1.length) x A N ∨ OnD (crI S1 L1 P L1.length) (x.cut f) A (N + 1)) := by
  obtain ⟨f1, f2⟩ := of_clrQ hq
  have hlen := h.len
  have hsz := h.siz
  have hl := h.lim
  have hc := h.cnt
  have hf := h.fst
  have hp := h.pos
  have hat : x.at_ f ≤ x.head := by
    unfold LgS.at_ LgS.head LgS.used
    have := fe x.nts (f - x.fst)
    omega
  have h2 : (x.cnt + 1) % 2 < 2 := Nat.mod_lt _ (by omega)
  have hne : x.cnt % 2 ≠ (x.cnt + 1) % 2 := by omega
  obtain ⟨p1, p2⟩ := h.mark_fit (c := x.cnt + 1) (f := f) (a := x.at_ f) (by omega) (by omega) (by omega)
  obtain ⟨mb, hmb⟩ : ∃ mb, aN.pB ⟨x.cnt + 1, ⟨x.own, (x.size : Int), f, x.at_ f⟩⟩ = mb := ⟨_, rfl⟩
  have hok : ∀ s ∈ mkT x.own x.size (x.cnt + 1) f (x.at_ f), s.okn S.length := by
    intro s hs
    unfold mkT at hs
    simp only [List.mem_cons, List.not_mem_nil, or_false] at hs
    rcases hs with rfl | rfl
    · exact ⟨by unfold ec; omega, by unfold ec; omega⟩
    · trivial
  unfold clrE clrB
  rw [if_pos hq, if_pos hq, h.dev, show ((0 : Nat) : Int) = 0 from rfl]
  have hlt : (x.cnt + 1) % 2 < S.length := by omega
  have hto : (ec (x.cnt + 1)).toNat = (x.cnt + 1) % 2 := by unfold ec; omega
  have done : ∀ d, d = mb → OnD (S.set ((x.cnt + 1) % 2) d) (x.cut f) A (N + 1) ∧ Twn (S.set ((x.cnt + 1) % 2) d) (x.cut f) := fun d e => by
    subst e
    exact ⟨h.clr hq hN (List.length_set ..) (by rw [cw hlt, hmb]) (bl hne) (fun j hj => bl (by omega)), Twn.clr h t hq (fun j hj => bl (by omega)) (bl hne)⟩
  rcases solo_go (mkT x.own x.size (x.cnt + 1) f (x.at_ f)) S [] left st hok with ⟨g1, g2, g3⟩ | ⟨g1, g2, g3, g4⟩
  · left
    refine ⟨g1, g2, S.set ((x.cnt + 1) % 2) mb, ?_, done mb rfl⟩
    rw [g3]
    show solo (flS S [(ec (x.cnt + 1), aN.pB _)]) [] _ _ _ = _
    rw [hmb]
    show solo (S.set (ec (x.cnt + 1)).toNat mb) [] _ _ _ = _
    rw [hto]
    rfl
  · right
    have g2' : left ≤ 2 := g2
    refine ⟨g1, g3, _, _, _, g4, by omega, ?_, ?_⟩
    · have : left - 1 = 0 ∨ left - 1 = 1 := by omega
      rcases this with e | e
      · rw [e]; exact Nat.zero_le _
      · rw [e]; show 1 ≤ 40; omega
    · intro P
      have : left - 1 = 0 ∨ left - 1 = 1 := by omega
      rcases this with e | e
      · rw [e]; exact .inl h
      · rw [e]
        show OnD (crI S [(ec (x.cnt + 1), aN.pB ⟨x.cnt + 1, ⟨x.own, (x.size : Int), f, x.at_ f⟩⟩)] P 1) x A N ∨ OnD (crI S [(ec (x.cnt + 1), aN.pB ⟨x.cnt + 1, ⟨x.own, (x.size : Int), f, x.at_ f⟩⟩)] P 1) _ _ _
        rw [crI_one, hto]
        obtain ⟨d, hd⟩ : ∃ d, torn (S.getD ((x.cnt + 1) % 2) al) (aN.pB ⟨x.cnt + 1, ⟨x.own, (x.size : Int), f, x.at_ f⟩⟩) (P.getD 0 0) = d := ⟨_, rfl⟩
        rw [hd]
        obtain ⟨u1, u2⟩ := t.mkk
        have same : aN.gN d < x.cnt → OnD (S.set ((x.cnt + 1) % 2) d) x A N := fun hg =>
          h.keep (List.length_set ..) (bl hne) (by rw [cw hlt]; exact hg) (fun j hj => .inl (bl (by omega))) (fun p _ _ => bl (by omega))
        rcases aN.torn_two p1 u1 (by show _ ≠ x.cnt + 1; omega) hd with e | e | e
        · exact .inr (done d (e.trans hmb)).1
        · left; refine same ?_; rw [e]; exact h.oth
        · left; refine same ?_; rw [aN.gN_no e]; omega
end
theorem zeroB_num : cx al.toList = agO al.toList ∧ cx al.toList = 0 := by decide
theorem lay_go (id r : Nat) (st : Nat) (hid : id ≠ 0 ∧ id < 18446744073709551616) (hr : 40 ≤ r ∧ r ≤ 256) (A : Nat → List Cl) :
    layE (solo (List.replicate (10 + r) al) [] 0 false st) 0 id (r : Int) = 0 ∧ ∃ S, layB (solo (List.replicate (10 + r) al) [] 0 false st) 0 id (r : Int) = solo S [] 0 false (st + 13) ∧ OnD S (layX 0 id (r : Int)) A 1 ∧ Twn S (layX 0 id (r : Int)) := by
  have hQ : layQ (solo (List.replicate (10 + r) al) [] 0 false st) 0 id (r : Int) = true := decide_eq_true ⟨solo_has _, hid.1, by omega, by omega, by rw [solo_se, List.length_replicate]; omega⟩
  have hok : ∀ s ∈ layT id (r : Int), s.okn (List.replicate (10 + r) al).length := by
    rw [List.length_replicate]
    intro s hs
    unfold layT at hs
    rcases List.mem_append.1 hs with hs | hs
    · obtain ⟨i, hi, rfl⟩ := eC hs
      exact ⟨by omega, by omega⟩
    · unfold mkT at hs
      simp only [List.mem_cons, List.not_mem_nil, or_false] at hs
      rcases hs with rfl | rfl | rfl
      · trivial
      · exact ⟨by unfold ec; omega, by unfold ec; omega⟩
      · trivial
  unfold layE layB
  rw [if_pos hQ, if_pos hQ]
  rcases solo_go (layT id (r : Int)) _ [] 0 st hok with ⟨g1, g2, g3⟩ | ⟨g1, _⟩
  · refine ⟨g2, ?_⟩
    obtain ⟨Z, hZ⟩ : ∃ Z, flS (List.replicate (10 + r) al) ((List.range 10).map fun (i : Nat) => ((i : Int), al)) = Z := ⟨_, rfl⟩
    have hZl : Z.length = 10 + r := by rw [← hZ, eZ, List.length_replicate]
    have hZz : ∀ j, Z.getD j al = al := fun j => by
      rw [← hZ]
      refine flS_zero (fun q hq => ?_) _ (by simp [List.getD, List.getElem?_replicate]; split <;> rfl)
      obtain ⟨i, _, rfl⟩ := eC hq
      rfl
    obtain ⟨mb, hmb⟩ : ∃ mb, aN.pB ⟨1, ⟨id, (r : Int), 1, 0⟩⟩ = mb := ⟨_, rfl⟩
    have ha : aft (layT id (r : Int)) (List.replicate (10 + r) al, []) = (Z.set 1 mb, []) := by
      unfold layT
      rw [aft_app]
      have : aft zerT (List.replicate (10 + r) al, []) = (List.replicate (10 + r) al, (List.range 10).map fun (i : Nat) => ((i : Int), al)) := by
        have := aft_wr (fun (i : Nat) => ((i : Int), al)) 10 (List.replicate (10 + r) al, [])
        rw [List.nil_append] at this
        exact this
      rw [this]
      show (flS (flS _ _) [(ec 1, aN.pB ⟨1, ⟨id, (((r : Int).toNat : Nat) : Int), 1, 0⟩⟩)], []) = _
      rw [hZ, Int.toNat_natCast, hmb]
      rfl
    rw [ha] at g3
    have hat : (Z.set 1 mb).getD 1 al = mb := cw (by omega)
    have hoff : ∀ j, j ≠ 1 → (Z.set 1 mb).getD j al = al := fun j hj => (bl hj).trans (hZz j)
    have gz : aN.gN al = 0 := aN.gN_no (by rw [aN.g_zero]; omega)
    have gz2 : aS.gN al = 0 := aS.gN_no (by rw [aS.g_zero]; omega)
    refine ⟨Z.set 1 mb, g3, ?_, ?_⟩
    · refine ⟨by rw [List.length_set, hZl]; rfl, by show 40 ≤ (r : Int).toNat ∧ _; rw [Int.toNat_natCast]; exact hr, hid, rfl, by omega, ⟨Nat.le_refl _, Nat.le_refl _⟩, ⟨Nat.le_refl _, Nat.le_refl _⟩, ?_, ?_, ?_, by show 0 ≤ 8; omega, ?_, fun i hi => absurd hi (by show ¬ i < 0; omega), fun j hj => ?_, fun i hi => absurd hi (by show ¬ i < 0; omega)⟩
      · show 0 + 0 ≤ _; omega
      · show (Z.set 1 mb).getD 1 al = aN.pB ⟨1, ⟨id, (((r : Int).toNat : Nat) : Int), 1, 0⟩⟩
        rw [hat, Int.toNat_natCast, hmb]
      · rw [show ((layX 0 id (r : Int)).cnt + 1) % 2 = 0 from (by show (1 + 1) % 2 = 0; decide), hoff 0 (by omega), gz]
        exact Nat.zero_lt_one
      · show 0 ≤ _; omega
      · rw [hoff _ (by omega), gz2]; show 0 < 1; omega
    · obtain ⟨z1, z2⟩ := zeroB_num
      refine ⟨?_, fun j hj => ?_⟩
      · rw [show ((layX 0 id (r : Int)).cnt + 1) % 2 = 0 from (by show (1 + 1) % 2 = 0; decide), hoff 0 (by omega)]
        exact ⟨z1, by rw [z2]; exact Nat.zero_lt_one⟩
      · rw [hoff _ (by omega)]
        exact ⟨z1, by show _ < 1; omega⟩
  · omega
theorem room_stp {d : Int} {M : BenS} {k : Nat} (h : Room M (k + 1)) (s : Stp) : Room (stpS d M s) k := by
  cases s with
  | wr n b => exact room_wr h d n b
  | fl => exact room_fl h d
def bi (x : Mrk) : List Value := [.int .u64 x.id, .int .i64 x.ring, .int .u64 x.first, .int .u64 x.pos]
def mrk (x : Mrk) : Value := .agg (bi x).toArray
theorem celM_length (x : Mrk) : (bi x).length = 4 := rfl
theorem celM_one (x : Mrk) : ∀ v ∈ bi x, v.oneCell' = true := by
  intro v hv
  simp only [bi, List.mem_cons, List.not_mem_nil, or_false] at hv
  rcases hv with rfl | rfl | rfl | rfl <;> rfl
theorem sizeM : (Tryz.prog.info? 67).map (·.size) = some 4 := by kernel_rfl
theorem zeroM_info : (Tryz.prog.info? 67).map (fun i => i.zero) = some (some (mrk bE)) := by kernel_rfl
section
variable {ρ : Operand → Value} {o : Oper} {x y : Operand} {w : World} {b off : Nat}
theorem bu {c : Mrk} (ho : o.op = .load 67 x) (hx : ρ x = .pointer (some ⟨b, off, none⟩)) (hc : w.rangeAt b off (bi c)) : (execOp ρ o).run Tryz.prog w = .ok (.value (mrk c)) w :=
  dI Tryz.underlying67 rfl sizeM ho hx hc
theorem exec_boxM {c : Mrk} (ho : o.op = .box 67 x) (hx : ρ x = mrk c) : (execOp ρ o).run Tryz.prog w = .ok (.value (.pointer (some ⟨w.heap.size, 0, none⟩))) (w.alloc (.cells (bi c).toArray 67)) := er ho hx
theorem bI (ho : o.op = .alloc 67) : (execOp ρ o).run Tryz.prog w = .ok (.value (.pointer (some ⟨w.heap.size, 0, none⟩))) (w.alloc (.cells (bi bE).toArray 67)) := dl zeroM_info ho
theorem de {c d : Mrk} (ho : o.op = .store 67 x y) (hx : ρ x = .pointer (some ⟨w.heap.size, 0, none⟩)) (hy : ρ y = mrk c) : (execOp ρ o).run Tryz.prog (w.alloc (.cells (bi d).toArray 67)) = .ok .skip (w.alloc (.cells (bi c).toArray 67)) :=
  d5 sizeM rfl (celM_one c) ho hx hy
theorem cN {c : Mrk} (ho : o.op = .store 67 x y) (hx : ρ x = .pointer (some ⟨b, off, none⟩)) (hy : ρ y = mrk c) (ht : w.there b off 4) : (execOp ρ o).run Tryz.prog w = .ok .skip (w.setCells b off (bi c)) :=
  exec_putT sizeM (celM_one c) ho hx hy ht
theorem run_bldM (w : World) : (Instr.build 67 #[]).run Tryz.prog w = .ok (mrk bE) w := by kernel_rfl
theorem exec_bldM (ho : o.op = .build 67 #[]) : (execOp ρ o).run Tryz.prog w = .ok (.value (mrk bE)) w := exec_bld0 ho (run_bldM w)
end
def bF (w : World) (b : Nat) (x : Mrk) : Prop := w.heap[b]? = some (.cells (bi x).toArray 67 (0, 0))
section
variable {w w' : World} {b : Nat} {x : Mrk}
theorem bF.range (h : bF w b x) : w.rangeAt b 0 (bi x) := dC h
theorem bF.cells (h : bF w b x) : w.cell? ⟨b, 0, none⟩ = some (.int .u64 x.id) ∧ w.cell? ⟨b, 1, none⟩ = some (.int .i64 x.ring) ∧ w.cell? ⟨b, 2, none⟩ = some (.int .u64 x.first) ∧ w.cell? ⟨b, 3, none⟩ = some (.int .u64 x.pos) :=
  ⟨h.range 0 _ rfl, h.range 1 _ rfl, h.range 2 _ rfl, h.range 3 _ rfl⟩
theorem bF.below {B : Nat} (h : bF w b x) (hB : b < B) (hb : Below B w w') : bF w' b x := blk_keep2 h hB hb
theorem bF.new (w : World) (x : Mrk) : bF (w.alloc (.cells (bi x).toArray 67)) w.heap.size x := heap_alloc_new w _
theorem bF.past (h : bF w b x) (o : Obj) : bF (w.alloc o) b x := bJ h o
theorem bF.there (h : bF w b x) : w.there b 0 4 := dF (o := 0) (n := 4) h (Nat.le_refl _)
theorem boxM_new (w : World) (x : Mrk) : bF (w.alloc (.cells (bi x).toArray 67)) w.heap.size x ∧ Below w.heap.size w (w.alloc (.cells (bi x).toArray 67)) ∧ w.heap.size < (w.alloc (.cells (bi x).toArray 67)).heap.size :=
  ⟨bF.new w x, (Below.refl _ w).alloc (Nat.le_refl _) _, by rw [World.size_alloc]; omega⟩
end
end Go.Proofs.YtcafafdimcecpaaGreatDoor
