import Derived.Test.YtheponmdbmloaaaGreatDoorFnab
import Derived.Laws.CopyRow
import Derived.Laws.IdiomCopy
import Derived.RangeFuncNested
import Derived.RangeFuncBound
import Derived.RangeFuncCalls
import Derived.RangeFuncLeaves
import Derived.Shelf.Abstract
import Derived.Shelf.RegionOpen
import Derived.WalkKit
import Derived.OwnWalkIn
import Derived.TacticsInMore
import Derived.LoopNIn
import Derived.LoopIn
import Derived.Test.YtheponmdbmloaaaGreatDoorFnZ
namespace Go.Proofs.YtheponmdbmloaaaGreatDoor
open Go.RowKit
set_option maxRecDepth 100000
set_option linter.unusedVariables false
structure Dev where
  Dv : World → (Nat → Prop) → Nat → List Blk → List (Int × Blk) → Bool → Prop
  lt : ∀ {w F p S L g}, Dv w F p S L g → ∀ b, F b → b < w.heap.size
  only : ∀ {w w' F G p S L g}, Dv w F p S L g → Only G w w' → (∀ b, F b → ¬ G b) → Dv w' F p S L g
  fit : ∀ {w F p S L g}, Dv w F p S L g → Fit S L ∧ 1 ≤ S.length
  cap : ∀ {w F p S L g}, Dv w F p S L g → S.length ≤ 512
  new_ok : ∀ (k : Nat) (w : World), 1 ≤ k → k ≤ 512 → Calls Tryz.prog 30 #[.int .i64 k] w fun e w' => ∃ p F, e = .returned (.tuple #[.pointer (some ⟨p, 0, none⟩), .int .i64 0]) ∧ Dv w' F p (List.replicate k ao) [] false ∧ Below w.heap.size w w' ∧ ∀ b, F b → w.heap.size ≤ b
  new_no : ∀ (n : Int) (w : World), ¬(1 ≤ n ∧ n ≤ 512) → Calls Tryz.prog 30 #[.int .i64 n] w fun e w' => e = .returned (.tuple #[.pointer none, .int .i64 2]) ∧ Below w.heap.size w w'
  read : ∀ {w F p S L g} (n : Int), Dv w F p S L g → Calls Tryz.prog 71 #[.pointer (some ⟨p, 0, none⟩), .int .i64 n] w fun e w' => e = .returned (.tuple #[blk (readB S L g n), .int .i64 (cw S g n)]) ∧ Below w.heap.size w w'
  sure : ∀ {w F p S L g} (n : Int), Dv w F p S L g → Calls Tryz.prog 47 #[.pointer (some ⟨p, 0, none⟩), .int .i64 n] w fun e w' => e = .returned (.tuple #[blk (sureB S g n), .int .i64 (cw S g n)]) ∧ Below w.heap.size w w'
  write : ∀ {w F p S L g} (n : Int) (b : Blk), L.length < 1000000 → Dv w F p S L g → Calls Tryz.prog 50 #[.pointer (some ⟨p, 0, none⟩), .int .i64 n, blk b] w fun e w' => e = .returned (.int .i64 (cw S g n)) ∧ ∃ F', Dv w' F' p S (wrL S L g n b) g ∧ Only F w w' ∧ Grow w F F'
  flush : ∀ {w F p S L g}, Dv w F p S L g → Calls Tryz.prog 95 #[.pointer (some ⟨p, 0, none⟩)] w fun e w' => e = .returned (.int .i64 (if g = true then 9 else 0)) ∧ ∃ F', Dv w' F' p (if g = true then S else flS S L) (if g = true then L else []) g ∧ Only F w w' ∧ Grow w F F'
  fail : ∀ {w F p S L g}, Dv w F p S L g → Calls Tryz.prog 29 #[.pointer (some ⟨p, 0, none⟩)] w fun e w' => e = .returned (.int .i64 0) ∧ ∃ F', Dv w' F' p S [] true ∧ Only F w w' ∧ Grow w F F'
  dead : ∀ {w F p S L g}, Dv w F p S L g → Calls Tryz.prog 94 #[.pointer (some ⟨p, 0, none⟩)] w fun e w' => e = .returned (.bool g) ∧ Below w.heap.size w w'
  cR : ∀ {w F p S L g}, Dv w F p S L g → Calls Tryz.prog 73 #[.pointer (some ⟨p, 0, none⟩)] w fun e w' => e = .returned (.int .i64 (S.length : Int)) ∧ Below w.heap.size w w'
theorem Grow.above {w : World} {F F' : Nat → Prop} {B : Nat} (h : Grow w F F') (hF : ∀ b, F b → B ≤ b) (hB : B ≤ w.heap.size) : ∀ b, F' b → B ≤ b := fun b hb => by
  rcases h b hb with e | e
  · exact hF b e
  · omega
structure DevS where
  S : List Blk
  L : List (Int × Blk)
  g : Bool
structure BenS where
  ds : List DevS
  left : Nat
  bV : Bool
  steps : Nat
def bm : DevS := ⟨[], [], false⟩
def BenS.dev (M : BenS) (d : Int) : DevS := M.ds.getD d.toNat bm
theorem BenS.dev_nat (M : BenS) (k : Nat) : M.dev (k : Int) = M.ds.getD k bm := rfl
def hasE (M : BenS) (d : Int) : Int := if 0 ≤ d ∧ d < M.ds.length then 0 else 2
def litE (M : BenS) (d : Int) : Int := if M.bV = true then 8 else hasE M d
theorem hasE_is (M : BenS) (d : Int) : (hasE M d = 2 ∧ ¬(0 ≤ d ∧ d < M.ds.length)) ∨ (hasE M d = 0 ∧ ∃ k : Nat, d = k ∧ k < M.ds.length) := by
  unfold hasE
  by_cases h : 0 ≤ d ∧ d < M.ds.length
  · rw [if_pos h]; exact .inr ⟨rfl, d.toNat, by omega, by omega⟩
  · rw [if_neg h]; exact .inl ⟨rfl, h⟩
theorem hasE_ok {M : BenS} {k : Nat} (h : k < M.ds.length) : hasE M (k : Int) = 0 := by unfold hasE; rw [if_pos (by omega)]
theorem litE_dark {M : BenS} {d : Int} (h : M.bV = true) : litE M d = 8 := by unfold litE; rw [if_pos h]
theorem litE_light {M : BenS} {d : Int} (h : M.bV = false) : litE M d = hasE M d := by unfold litE; rw [if_neg (by rw [h]; decide)]
theorem dd (M : BenS) (d : Int) : (litE M d = 8 ∧ M.bV = true) ∨ (litE M d = 2 ∧ M.bV = false ∧ ¬(0 ≤ d ∧ d < M.ds.length)) ∨ (litE M d = 0 ∧ M.bV = false ∧ ∃ k : Nat, d = k ∧ k < M.ds.length) := by
  cases h : M.bV
  · rw [litE_light h]
    rcases hasE_is M d with ⟨e, h1⟩ | ⟨e, h1⟩
    · exact .inr (.inl ⟨e, rfl, h1⟩)
    · exact .inr (.inr ⟨e, rfl, h1⟩)
  · exact .inl ⟨litE_dark h, rfl⟩
theorem litE_ok {M : BenS} {k : Nat} (hd : M.bV = false) (h : k < M.ds.length) : litE M (k : Int) = 0 := by rw [litE_light hd, hasE_ok h]
def BenS.put (M : BenS) (k : Nat) (x : DevS) : BenS := { M with ds := M.ds.set k x }
def BenS.stepE (M : BenS) : Int := if M.left = 1 then 8 else 0
def BenS.done (M : BenS) : BenS := { M with left := M.left - 1, steps := M.steps + 1 }
def BenS.night (M : BenS) : BenS := { M with bV := true }
def bN (M : BenS) (d n : Int) : Int := if litE M d = 0 then cw (M.dev d).S (M.dev d).g n else litE M d
def rdB6 (M : BenS) (d n : Int) : Blk := if litE M d = 0 then readB (M.dev d).S (M.dev d).L (M.dev d).g n else ao
def wrE6 (M : BenS) (d n : Int) : Int := if bN M d n = 0 then M.stepE else bN M d n
def wrS6 (M : BenS) (d n : Int) (b : Blk) : BenS := if bN M d n = 0 then (if M.left = 1 then M.night else M.done.put d.toNat ⟨(M.dev d).S, wrL (M.dev d).S (M.dev d).L (M.dev d).g n b, (M.dev d).g⟩) else M
def flA6 (M : BenS) (d : Int) : Int := if litE M d = 0 then (if (M.dev d).g = true then 9 else 0) else litE M d
def flE6 (M : BenS) (d : Int) : Int := if flA6 M d = 0 then M.stepE else flA6 M d
def flS6 (M : BenS) (d : Int) : BenS := if flA6 M d = 0 then (if M.left = 1 then M.night else M.done.put d.toNat ⟨flS (M.dev d).S (M.dev d).L, [], (M.dev d).g⟩) else M
def faS6 (M : BenS) (d : Int) : BenS := if hasE M d = 0 then M.put d.toNat ⟨(M.dev d).S, [], true⟩ else M
def seN6 (M : BenS) (d : Int) : Int := if hasE M d = 0 then ((M.dev d).S.length : Int) else 0
def newS6 (ks : List Int) : BenS := ⟨ks.map fun k => ⟨List.replicate k.toNat ao, [], false⟩, 0, false, 0⟩
def newOk (ks : List Int) : Prop := 1 ≤ ks.length ∧ ks.length ≤ 17 ∧ ∀ k ∈ ks, 1 ≤ k ∧ k ≤ 512
def Room (M : BenS) (k : Nat) : Prop := M.steps + k ≤ 1000000 ∧ M.left < 9223372036854775808 ∧ ∀ d ∈ M.ds, d.L.length + k ≤ 1000000
theorem getD_mem {α : Type} {l : List α} {k : Nat} {x : α} (h : k < l.length) : l.getD k x ∈ l := by
  rw [List.getD_eq_getElem?_getD, List.getElem?_eq_getElem h]; exact List.getElem_mem h
theorem Room.less {M : BenS} {k : Nat} (h : Room M (k + 1)) : Room M k := ⟨by have := h.1; omega, h.2.1, fun d hd => by have := h.2.2 d hd; omega⟩
theorem Room.at_ {M : BenS} {k i : Nat} (h : Room M (k + 1)) (hi : i < M.ds.length) : (M.ds.getD i bm).L.length < 1000000 := by have := h.2.2 _ (getD_mem (x := bm) hi); omega
theorem mem_set_or {α : Type} {l : List α} {k : Nat} {x y : α} (h : y ∈ l.set k x) : y ∈ l ∨ y = x := by
  rcases List.mem_or_eq_of_mem_set h with h | h
  · exact .inl h
  · exact .inr h
theorem Room.put {M : BenS} {k i : Nat} {x : DevS} (h : Room M k) (hx : x.L.length + k ≤ 1000000) : Room (M.put i x) k :=
  ⟨h.1, h.2.1, fun d hd => by
    rcases mem_set_or hd with e | e
    · exact h.2.2 d e
    · subst e; exact hx⟩
theorem Room.done {M : BenS} {k : Nat} (h : Room M (k + 1)) : Room M.done k := ⟨by have := h.1; show M.steps + 1 + k ≤ _; omega, by have := h.2.1; show M.left - 1 < _; omega, fun d hd => by have := h.2.2 d hd; omega⟩
theorem wrL_le (S : List Blk) (L : List (Int × Blk)) (g : Bool) (n : Int) (b : Blk) : (wrL S L g n b).length ≤ L.length + 1 := by
  unfold wrL; split
  · simp
  · omega
theorem room_wr {M : BenS} {k : Nat} (h : Room M (k + 1)) (d n : Int) (b : Blk) : Room (wrS6 M d n b) k := by
  unfold wrS6
  split
  · rename_i he
    split
    · exact h.less
    · have hh : ∃ i : Nat, d = i ∧ i < M.ds.length := by
        rcases dd M d with ⟨e, _⟩ | ⟨e, _⟩ | ⟨e, _, h⟩
        · unfold bN at he; rw [if_neg (by omega)] at he; omega
        · unfold bN at he; rw [if_neg (by omega)] at he; omega
        · exact h
      obtain ⟨i, rfl, hi⟩ := hh
      refine (h.done).put ?_
      have h1 := wrL_le (M.dev (i : Int)).S (M.dev (i : Int)).L (M.dev (i : Int)).g n b
      have h2 := h.2.2 _ (getD_mem (x := bm) hi)
      have h3 : (M.dev (i : Int)).L.length + (k + 1) ≤ 1000000 := h2
      show (wrL _ _ _ _ _).length + k ≤ _
      omega
  · exact h.less
theorem room_fl {M : BenS} {k : Nat} (h : Room M (k + 1)) (d : Int) : Room (flS6 M d) k := by
  unfold flS6
  split
  · split
    · exact h.less
    · exact (h.done).put (by have := h.1; show 0 + k ≤ _; omega)
  · exact h.less
structure DvK where
  Dv : World → (Nat → Prop) → Nat → List Blk → List (Int × Blk) → Bool → Prop
  lt : ∀ {w F p S L g}, Dv w F p S L g → ∀ b, F b → b < w.heap.size
  only : ∀ {w w' F G p S L g}, Dv w F p S L g → Only G w w' → (∀ b, F b → ¬ G b) → Dv w' F p S L g
structure Devs (K : DvK) (w : World) (Fs : Nat → Nat → Prop) (ps : List Nat) (ds : List DevS) : Prop where
  len : ps.length = ds.length
  at_ : ∀ i, i < ds.length → K.Dv w (Fs i) (ps.getD i 0) (ds.getD i bm).S (ds.getD i bm).L (ds.getD i bm).g
  off : ∀ i j, i < ds.length → j < ds.length → i ≠ j → ∀ b, Fs i b → ¬ Fs j b
def upF (Fs : Nat → Nat → Prop) (k : Nat) (F' : Nat → Prop) : Nat → Nat → Prop := fun i b => (i = k ∧ F' b) ∨ (i ≠ k ∧ Fs i b)
theorem upF_at (Fs : Nat → Nat → Prop) (k : Nat) (F' : Nat → Prop) : upF Fs k F' k = F' := by
  funext b; simp [upF]
theorem upF_off (Fs : Nat → Nat → Prop) {k i : Nat} (F' : Nat → Prop) (h : i ≠ k) : upF Fs k F' i = Fs i := by
  funext b; simp [upF, h]
theorem getD_set_at {α : Type} {l : List α} {k : Nat} {x d : α} (h : k < l.length) : (l.set k x).getD k d = x := by simp [List.getD, h]
theorem getD_set_off {α : Type} {l : List α} {k i : Nat} {x d : α} (h : i ≠ k) : (l.set k x).getD i d = l.getD i d := by simp [List.getD, List.getElem?_set_ne (Ne.symm h)]
section
variable {K : DvK} {w w' : World} {Fs : Nat → Nat → Prop} {ps : List Nat} {ds : List DevS} {G F' : Nat → Prop} {k : Nat}
theorem Devs.lt (h : Devs K w Fs ps ds) : ∀ i, i < ds.length → ∀ b, Fs i b → b < w.heap.size := fun i hi b hb => K.lt (h.at_ i hi) b hb
theorem Devs.only (h : Devs K w Fs ps ds) (k : Only G w w') (hn : ∀ i, i < ds.length → ∀ b, Fs i b → ¬ G b) : Devs K w' Fs ps ds :=
  ⟨h.len, fun i hi => K.only (h.at_ i hi) k (hn i hi), h.off⟩
theorem Devs.set (h : Devs K w Fs ps ds) (hk : k < ds.length) (ho : Only G w w') (hG : ∀ i, i < ds.length → i ≠ k → ∀ b, Fs i b → ¬ G b) (hg : Grow w (Fs k) F') {p : Nat} {d : DevS} (hd : K.Dv w' F' p d.S d.L d.g) : Devs K w' (upF Fs k F') (ps.set k p) (ds.set k d) := by
  have hnew : ∀ i, i < ds.length → i ≠ k → ∀ b, F' b → ¬ Fs i b := fun i hi hik b hb hf => by
    rcases hg b hb with e | e
    · exact h.off k i hk hi (Ne.symm hik) b e hf
    · have := h.lt i hi b hf; omega
  refine ⟨by rw [List.length_set, List.length_set]; exact h.len, fun i hi => ?_, fun i j hi hj hij b hb => ?_⟩
  · rw [List.length_set] at hi
    by_cases e : i = k
    · subst e
      rw [upF_at, getD_set_at hk, getD_set_at (by rw [h.len]; exact hk)]
      exact hd
    · rw [upF_off _ _ e, getD_set_off e, getD_set_off e]
      exact K.only (h.at_ i hi) ho (hG i hi e)
  · rw [List.length_set] at hi hj
    by_cases e : i = k
    · subst e
      rw [upF_at] at hb
      rw [upF_off _ _ (Ne.symm hij)]
      exact hnew j hj (Ne.symm hij) b hb
    · rw [upF_off _ _ e] at hb
      by_cases e' : j = k
      · subst e'
        rw [upF_at]
        exact fun hf => hnew i hi e b hf hb
      · rw [upF_off _ _ e']
        exact h.off i j hi hj hij b hb
theorem set_self {α : Type} {l : List α} {k : Nat} {d : α} (h : k < l.length) : l.set k (l.getD k d) = l := by
  rw [List.getD_eq_getElem?_getD, List.getElem?_eq_getElem h]
  exact List.set_getElem_self h
theorem Devs.turn (h : Devs K w Fs ps ds) (hk : k < ds.length) (ho : Only (Fs k) w w') (hg : Grow w (Fs k) F') {d : DevS} (hd : K.Dv w' F' (ps.getD k 0) d.S d.L d.g) : Devs K w' (upF Fs k F') ps (ds.set k d) := by
  have := h.set hk ho (fun i hi hik b hb hf => h.off i k hi hk hik b hb hf) hg hd
  rwa [set_self (by rw [h.len]; exact hk)] at this
theorem Devs.push (h : Devs K w Fs ps ds) (hb : Below w.heap.size w w') {p : Nat} {d : DevS} (hF : ∀ b, F' b → w.heap.size ≤ b) (hd : K.Dv w' F' p d.S d.L d.g) : Devs K w' (upF Fs ds.length F') (ps ++ [p]) (ds ++ [d]) := by
  have hlen := h.len
  refine ⟨by simp [h.len], fun i hi => ?_, fun i j hi hj hij b hb' => ?_⟩
  · rw [List.length_append, List.length_singleton] at hi
    by_cases e : i = ds.length
    · subst e
      rw [upF_at]
      have e1 : (ps ++ [p]).getD ds.length 0 = p := by simp [List.getD, ← hlen]
      have e2 : (ds ++ [d]).getD ds.length bm = d := by simp [List.getD]
      rw [e1, e2]
      exact hd
    · have hi' : i < ds.length := by omega
      rw [upF_off _ _ e]
      have e1 : (ps ++ [p]).getD i 0 = ps.getD i 0 := by simp [List.getD, List.getElem?_append_left (show i < ps.length by omega)]
      have e2 : (ds ++ [d]).getD i bm = ds.getD i bm := by simp [List.getD, List.getElem?_append_left hi']
      rw [e1, e2]
      exact K.only (h.at_ i hi') (Only.of_below (fun _ => False) hb) fun _ _ e => e
  · rw [List.length_append, List.length_singleton] at hi hj
    by_cases e : i = ds.length
    · subst e
      rw [upF_at] at hb'
      rw [upF_off _ _ (Ne.symm hij)]
      intro hf
      have := h.lt j (by omega) b hf
      have := hF b hb'
      omega
    · rw [upF_off _ _ e] at hb'
      have := h.lt i (by omega) b hb'
      by_cases e' : j = ds.length
      · subst e'
        rw [upF_at]
        intro hf
        have := hF b hf
        omega
      · rw [upF_off _ _ e']
        exact h.off i j (by omega) (by omega) hij b hb'
end
section
variable {α : Type} {E : Elt α} {ρ : Operand → Value} {o : Oper} {x y : Operand} {w : World} {b off : Nat} {a : α} {d : TypeDesc}
theorem size_infoE (E : Elt α) : (Tryz.prog.info? E.t).map (·.size) = some E.n := by
  obtain ⟨i0, hi, hz0, hz1, hz2⟩ := info_parts E.info
  rw [hi]; simp [hz1]
theorem exec_loadE (hu : Tryz.prog.underlying E.t = some d) (hd : d.isRow = true) (ho : o.op = .load E.t x) (hx : ρ x = .pointer (some ⟨b, off, none⟩)) (hc : w.rangeAt b off (E.cel a)) : (execOp ρ o).run Tryz.prog w = .ok (.value (.agg (E.cel a).toArray)) w :=
  au ho hx (run_loadAt_mid w b off E.t (E.cel a) d hc hu hd (by rw [E.len]; exact size_infoE E))
theorem exec_allocE (ho : o.op = .alloc E.t) : (execOp ρ o).run Tryz.prog w = .ok (.value (.pointer (some ⟨w.heap.size, 0, none⟩))) (w.alloc (.cells E.z.cells E.t)) := by
  have hz := run_zeroE E w
  unfold execOp
  simp [ho, Instr.alloc, hz, newVar, newRow]
theorem exec_fillE (ho : o.op = .store E.t x y) (hx : ρ x = .pointer (some ⟨w.heap.size, 0, none⟩)) (hy : ρ y = .agg (E.cel a).toArray) : (execOp ρ o).run Tryz.prog (w.alloc (.cells E.z.cells E.t)) = .ok .skip (w.alloc (.cells (E.cel a).toArray E.t)) :=
  exec_st ho hx hy (run_storeAt_new (P := Tryz.prog) w E.t E.z.cells (E.cel a).toArray (by simpa [E.len] using size_infoE E) (by simpa [E.len] using E.zc) (all_oneCell_toArray (E.one a)))
end
section
variable {w : World} {q : Int × Blk} {t : TypeId}
theorem pair_new (w : World) (q : Int × Blk) (t : TypeId) : (w.alloc (.cells (cT q).toArray t)).cell? ⟨w.heap.size, 0, none⟩ = some (.int .i64 q.1) ∧ (w.alloc (.cells (cT q).toArray t)).rangeAt w.heap.size 1 (cel q.2) := by
  have h := bW w (cT q) t
  refine ⟨h 0 _ rfl, fun j v hj => ?_⟩
  have := h (j + 1) v hj
  rwa [show 0 + (j + 1) = 1 + j from by omega] at this
theorem RdE.pairs {s t : TypeId} {und : Tryz.prog.underlying s = some (.slice t)} {info : (Tryz.prog.info? t).map (fun i => (i.zero, i.size, i.bytes)) = some (some (pairV 0 ao), 65, 72)} {B n k : Nat} {A : Option Addr} {l : List (Int × Blk)}
    (h : RdE (pairE s t und info) w B A n l) (hk : k < n) : ∃ b off, A = some ⟨b, off, none⟩ ∧ b < B ∧ w.rangeAt b (off + k * 65) (cT (l.getD k (0, ao))) := h.2 k hk
end
def ptr (x : Nat) : Value := .pointer (some ⟨x, 0, none⟩)
def ptrE (s t : TypeId) (und : Tryz.prog.underlying s = some (.slice t)) (info : (Tryz.prog.info? t).map (fun i => (i.zero, i.size, i.bytes)) = some (some (.pointer none), 1, 8)) : Elt Nat where
  s := s
  t := t
  n := 1
  by_ := 8
  cel := fun x => [ptr x]
  d := 0
  z := .pointer none
  pos := by omega
  small := by omega
  len := fun _ => rfl
  one := fun a v hv => by simp only [List.mem_singleton] at hv; subst hv; rfl
  und := und
  info := info
  zc := rfl
section
variable {s t : TypeId} {und : Tryz.prog.underlying s = some (.slice t)} {info : (Tryz.prog.info? t).map (fun i => (i.zero, i.size, i.bytes)) = some (some (.pointer none), 1, 8)} {w : World} {B n k : Nat} {A : Option Addr} {l : List Nat}
theorem RdE.ptr (h : RdE (ptrE s t und info) w B A n l) (hk : k < n) : ∃ b off, A = some ⟨b, off, none⟩ ∧ b < B ∧ w.cell? ⟨b, off + k, none⟩ = some (.pointer (some ⟨l.getD k 0, 0, none⟩)) := by
  obtain ⟨b, off, e, hb, hc⟩ := h.2 k hk
  have := hc 0 (Go.Proofs.YtheponmdbmloaaaGreatDoor.ptr (l.getD k 0)) rfl
  exact ⟨b, off, e, hb, by simpa [ptrE, Go.Proofs.YtheponmdbmloaaaGreatDoor.ptr] using this⟩
end
structure BKind where
  K : DvK
  s : TypeId
  t : TypeId
  und : Tryz.prog.underlying s = some (.slice t)
  info : (Tryz.prog.info? t).map (fun i => (i.zero, i.size, i.bytes)) = some (some (.pointer none), 1, 8)
  o : TypeId
  cs : Value → Nat → Bool → Nat → Array Value
  ne : t ≠ o
def BKind.E (k : BKind) : Elt Nat := ptrE k.s k.t k.und k.info
structure BenAt (k : BKind) (w : World) (p : Nat) (v : Value) (Fs : Nat → Nat → Prop) (ps : List Nat) (M : BenS) : Prop where
  at_ : w.heap[p]? = some (.cells (k.cs v M.left M.bV M.steps) k.o)
  row : aJ k.E w 0 v ps
  devs : Devs k.K w Fs ps M.ds
  apart : ∀ i, i < M.ds.length → ∀ b, Fs i b → b ≠ p ∧ v.ownBlock ≠ some b
  one : 1 ≤ M.ds.length
  cap : M.ds.length ≤ 17
def footB (p : Nat) (v : Value) (Fs : Nat → Nat → Prop) (n : Nat) (b : Nat) : Prop := b = p ∨ v.ownBlock = some b ∨ ∃ i, i < n ∧ Fs i b
section
variable {k : BKind} {w w' : World} {p : Nat} {v : Value} {Fs : Nat → Nat → Prop} {ps : List Nat} {M : BenS} {G F' : Nat → Prop} {i : Nat}
theorem BenAt.rowp (h : BenAt k w p v Fs ps M) : v.ownBlock ≠ some p := h.row.not_at h.at_ k.ne
theorem BenAt.lt (h : BenAt k w p v Fs ps M) : ∀ b, footB p v Fs M.ds.length b → b < w.heap.size := by
  intro b hb
  rcases hb with rfl | hb | ⟨i, hi, hb⟩
  · exact aF h.at_
  · exact h.row.own_lt b hb
  · exact h.devs.lt i hi b hb
theorem BenAt.only (h : BenAt k w p v Fs ps M) (ho : Only G w w') (hn : ∀ b, footB p v Fs M.ds.length b → ¬ G b) : BenAt k w' p v Fs ps M :=
  ⟨ho.keep h.at_ (hn p (.inl rfl)), h.row.only ho fun b hb => hn b (.inr (.inl hb)), h.devs.only ho fun i hi b hb => hn b (.inr (.inr ⟨i, hi, hb⟩)), h.apart, h.one, h.cap⟩
theorem BenAt.below (h : BenAt k w p v Fs ps M) (hb : Below w.heap.size w w') : BenAt k w' p v Fs ps M := h.only (Only.of_below (fun _ => False) hb) fun _ _ e => e
theorem BenAt.len (h : BenAt k w p v Fs ps M) : ps.length = M.ds.length := h.devs.len
theorem BenAt.obj (h : BenAt k w p v Fs ps M) (left : Nat) (bV : Bool) (steps : Nat) (ho : Only (fun b => b = p) w w') (hc : w'.heap[p]? = some (.cells (k.cs v left bV steps) k.o)) : BenAt k w' p v Fs ps ⟨M.ds, left, bV, steps⟩ :=
  ⟨hc, h.row.only ho fun b hb e => h.rowp (by rw [hb, e]), h.devs.only ho fun i hi b hb e => (h.apart i hi b hb).1 e, h.apart, h.one, h.cap⟩
theorem BenAt.turn (h : BenAt k w p v Fs ps M) (hi : i < M.ds.length) (ho : Only (Fs i) w w') (hg : Grow w (Fs i) F') {d : DevS} (hd : k.K.Dv w' F' (ps.getD i 0) d.S d.L d.g) :
    BenAt k w' p v (upF Fs i F') ps (M.put i d) := by
  refine ⟨ho.keep h.at_ (fun e => (h.apart i hi p e).1 rfl), h.row.only ho fun b hb e => (h.apart i hi b e).2 hb, h.devs.turn hi ho hg hd, fun j hj b hb => ?_, by show 1 ≤ (M.ds.set i d).length; rw [List.length_set]; exact h.one, by show (M.ds.set i d).length ≤ 17; rw [List.length_set]; exact h.cap⟩
  have hj' : j < M.ds.length := by have : j < (M.ds.set i d).length := hj; rwa [List.length_set] at this
  rcases hb with ⟨e, hb⟩ | ⟨e, hb⟩
  · rcases hg b hb with hb | hb
    · exact h.apart i hi b hb
    · have h1 := aF h.at_
      exact ⟨fun e => by omega, fun e => by have := h.row.own_lt b e; omega⟩
  · exact h.apart j hj' b hb
theorem footB_turn (hi : i < M.ds.length) (ho : Only (Fs i) w w') : Only (footB p v Fs M.ds.length) w w' := ho.widen fun b hb => .inr (.inr ⟨i, hi, hb⟩)
theorem footB_obj (n : Nat) (ho : Only (fun b => b = p) w w') : Only (footB p v Fs n) w w' := ho.widen fun b hb => .inl hb
theorem footB_grow {n : Nat} (hi : i < n) (hg : Grow w (Fs i) F') {n' : Nat} (hn : n' = n) : Grow w (footB p v Fs n) (footB p v (upF Fs i F') n') := by
  subst hn
  intro b hb
  rcases hb with e | e | ⟨j, hj, hb⟩
  · exact .inl (.inl e)
  · exact .inl (.inr (.inl e))
  · rcases hb with ⟨e, hb⟩ | ⟨e, hb⟩
    · rcases hg b hb with hb | hb
      · exact .inl (.inr (.inr ⟨i, hi, hb⟩))
      · exact .inr hb
    · exact .inl (.inr (.inr ⟨j, hj, hb⟩))
theorem BenAt.slice (h : BenAt k w p v Fs ps M) : ∃ g c, v = .slice (some ⟨g, 0, none⟩) M.ds.length c ∧ M.ds.length ≤ c ∧ c ≤ maxLen := by
  have hl := h.len
  have h1 := h.one
  rcases h.row.2 with ⟨rfl, h0⟩ | ⟨g, cap, cur, rfl, _, _, hc1, hc2, _⟩
  · omega
  · exact ⟨g, cap, by rw [hl], by omega, hc2⟩
theorem BenAt.cell {g c : Nat} (h : BenAt k w p (.slice (some ⟨g, 0, none⟩) M.ds.length c) Fs ps M) (hi : i < M.ds.length) : w.cell? ⟨g, i, none⟩ = some (.pointer (some ⟨ps.getD i 0, 0, none⟩)) := by
  have hr : RdE k.E w w.heap.size (some ⟨g, 0, none⟩) M.ds.length ps := h.row.rd
  obtain ⟨b, off, e, _, hc⟩ := RdE.ptr (und := k.und) (info := k.info) hr hi
  injection e with e
  injection e with e1 e2
  subst e1 e2
  rw [Nat.zero_add] at hc
  exact hc
end
theorem BenS.put_len (M : BenS) (k : Nat) (d : DevS) : (M.put k d).ds.length = M.ds.length := by show (M.ds.set k d).length = _; rw [List.length_set]
section
variable {k : BKind} {w w' : World} {p : Nat} {v : Value} {Fs : Nat → Nat → Prop} {ps : List Nat} {M : BenS}
def Left (k : BKind) (w : World) (p : Nat) (v : Value) (Fs : Nat → Nat → Prop) (ps : List Nat) (n : Nat) (M' : BenS) (w' : World) : Prop :=
  ∃ Fs' ps', BenAt k w' p v Fs' ps' M' ∧ Only (footB p v Fs n) w w' ∧ Grow w (footB p v Fs n) (footB p v Fs' M'.ds.length)
theorem Left.same (h : BenAt k w p v Fs ps M) {M' : BenS} (e : M' = M) : Left k w p v Fs ps M.ds.length M' w := by
  subst e; exact ⟨Fs, ps, h, Only.refl _ _, Grow.same _ _⟩
theorem Left.turn (h : BenAt k w p v Fs ps M) {i : Nat} {F' : Nat → Prop} {d : DevS} (hi : i < M.ds.length) (ho : Only (Fs i) w w') (hg : Grow w (Fs i) F') (hd : k.K.Dv w' F' (ps.getD i 0) d.S d.L d.g) {M' : BenS} (e : M' = M.put i d) : Left k w p v Fs ps M.ds.length M' w' := by
  subst e
  exact ⟨_, _, h.turn hi ho hg hd, footB_turn hi ho, footB_grow hi hg (M.put_len i d)⟩
theorem Left.behind {w1 : World} {n : Nat} {M' : BenS} (ho : Only (fun b => b = p) w w1) (h : Left k w1 p v Fs ps n M' w') : Left k w p v Fs ps n M' w' := by
  obtain ⟨Fs', ps', h1, h2, h3⟩ := h
  refine ⟨Fs', ps', h1, (footB_obj n ho).trans h2 fun b hb => .inl hb, fun b hb => ?_⟩
  rcases h3 b hb with e | e
  · exact .inl e
  · exact .inr (Nat.le_trans ho.size e)
theorem Left.obj {M' : BenS} (h : BenAt k w' p v Fs ps M') (ho : Only (fun b => b = p) w w') {n : Nat} (hn : M'.ds.length = n) : Left k w p v Fs ps n M' w' := by
  subst hn
  exact ⟨Fs, ps, h, footB_obj _ ho, Grow.same _ _⟩
theorem Left.below_ (h : BenAt k w p v Fs ps M) (hb : Below w.heap.size w w') {M' : BenS} (e : M' = M) : Left k w p v Fs ps M.ds.length M' w' := by
  subst e
  exact ⟨Fs, ps, h.below hb, Only.of_below _ hb, Grow.same _ _⟩
theorem Left.above {w1 : World} {n : Nat} {M' : BenS} (hb : Below w.heap.size w w1) (h : Left k w1 p v Fs ps n M' w') : Left k w p v Fs ps n M' w' := by
  obtain ⟨Fs', ps', h1, h2, h3⟩ := h
  refine ⟨Fs', ps', h1, (Only.of_below _ hb).trans h2 fun b hb => .inl hb, fun b hb' => ?_⟩
  rcases h3 b hb' with e | e
  · exact .inl e
  · exact .inr (Nat.le_trans hb.size e)
end
def LwE : Elt (Int × Blk) := pairE 103 114 Tryz.underlying103 (by kernel_rfl)
theorem cC {w : World} {b : Nat} {t : TypeId} {x y z u : Value} (h : w.heap[b]? = some (.cells #[x, y, z, u] t (0, 0))) : w.cell? ⟨b, 0, none⟩ = some x ∧ w.cell? ⟨b, 1, none⟩ = some y ∧ w.cell? ⟨b, 2, none⟩ = some z ∧ w.cell? ⟨b, 3, none⟩ = some u := by
  refine ⟨?_, ?_, ?_, ?_⟩
  · rw [cell_of_row w b 0 _ t (0, 0) h]; rfl
  · rw [cell_of_row w b 1 _ t (0, 0) h]; rfl
  · rw [cell_of_row w b 2 _ t (0, 0) h]; rfl
  · rw [cell_of_row w b 3 _ t (0, 0) h]; rfl
structure PD (w : World) (p : Nat) (vS vL : Value) (S : List Blk) (L : List (Int × Blk)) (g : Bool) : Prop where
  at_ : w.heap[p]? = some (.cells #[.int .i64 (S.length : Int), vS, vL, .bool g] 105)
  one : 1 ≤ S.length
  S_ : aJ BlkE w 0 vS (if g = true then [] else S)
  L_ : aJ LwE w 0 vL L
  dead : g = true → L = []
section
variable {w w' : World} {p : Nat} {vS vL : Value} {S : List Blk} {L : List (Int × Blk)} {g : Bool} {F : Nat → Prop}
theorem PD.lt (h : PD w p vS vL S L g) : ∀ k, foot p vS vL k → k < w.heap.size := by
  intro k hk
  rcases hk with rfl | hk | hk
  · exact (Array.getElem?_eq_some_iff.1 h.at_).1
  · exact h.S_.own_lt k hk
  · exact h.L_.own_lt k hk
theorem PD.only (h : PD w p vS vL S L g) (k : Only F w w') (hn : ∀ b, foot p vS vL b → ¬ F b) : PD w' p vS vL S L g :=
  ⟨k.keep h.at_ (hn p (.inl rfl)), h.one, h.S_.only k fun b hb => hn b (.inr (.inl hb)), h.L_.only k fun b hb => hn b (.inr (.inr hb)), h.dead⟩
theorem PD.below (h : PD w p vS vL S L g) (k : Below w.heap.size w w') : PD w' p vS vL S L g := h.only (Only.of_below (fun _ => False) k) fun _ _ e => e
theorem PD.alive (h : PD w p vS vL S L false) : aJ BlkE w 0 vS S := h.S_
end
theorem p_made (p : Nat) (vS vL : Value) (S : List Blk) (L : List (Int × Blk)) (g : Bool) (w : World) (h : PD w p vS vL S L g) :
    Calls Tryz.prog 57 #[.pointer (some ⟨p, 0, none⟩)] w fun e w' => e = .returned (.bool true) ∧ w = w' := by
  obtain ⟨c0, c1, c2, c3⟩ := cC h.at_
  have h1 : 0 < S.length := h.one
  go_enter Tryz.func57, Tryz.ntmps57
  go_wp2
  go_ret
  exact ⟨rfl, rfl⟩
theorem p_has (p : Nat) (vS vL : Value) (S : List Blk) (L : List (Int × Blk)) (g : Bool) (n : Int) (w : World) (h : PD w p vS vL S L g) :
    Calls Tryz.prog 80 #[.pointer (some ⟨p, 0, none⟩), .int .i64 n] w fun e w' => e = .returned (.bool (decide (0 ≤ n ∧ n < S.length))) ∧ w = w' := by
  obtain ⟨c0, c1, c2, c3⟩ := cC h.at_
  by_cases h0 : 0 ≤ n
  · by_cases h1 : n < S.length
    · have HD := Lib.hid (decide_eq_true (p := 0 ≤ n ∧ n < S.length) ⟨h0, h1⟩)
      go_enter Tryz.func80, Tryz.ntmps80
      go_wp2
      go_ret
      exact ⟨aO HD.out.symm, rfl⟩
    · have HD := Lib.hid (decide_eq_false (p := 0 ≤ n ∧ n < S.length) (fun e => h1 e.2))
      go_enter Tryz.func80, Tryz.ntmps80
      go_wp2
      go_ret
      exact ⟨aO (decide_eq_false (by omega)).symm, rfl⟩
  · have HD := Lib.hid (decide_eq_false (p := 0 ≤ n ∧ n < S.length) (fun e => h0 e.1))
    go_enter Tryz.func80, Tryz.ntmps80
    go_wp2
    go_ret
    exact ⟨aO (by have e : decide (0 ≤ n) = false := decide_eq_false (by omega); rw [e]; rfl), rfl⟩
theorem dj (p : Nat) (vS vL : Value) (S : List Blk) (L : List (Int × Blk)) (g : Bool) (n : Int) (w : World) (h : PD w p vS vL S L g) :
    Calls Tryz.prog 70 #[.pointer (some ⟨p, 0, none⟩), .int .i64 n] w fun e w' => e = .returned (.int .i64 (cw S g n)) ∧ w = w' := by
  obtain ⟨c0, c1, c2, c3⟩ := cC h.at_
  by_cases h1 : 0 ≤ n ∧ n < S.length
  · have HD := Lib.hid (decide_eq_true h1)
    cases g
    · have HE := Lib.hid (askE_ok h1)
      clear h1
      go_enter Tryz.func70, Tryz.ntmps70
      go_wp2_with fail
      refine (p_made p vS vL S L false w h).mono ?_
      rintro e w1 ⟨rfl, rfl⟩
      go_wp2_with fail
      refine (p_has p vS vL S L false n w h).mono ?_
      rintro e w1 ⟨rfl, rfl⟩
      rw [HD.out]
      go_wp2_with fail
      go_ret
      exact ⟨cf HE.out.symm, rfl⟩
    · have HE := Lib.hid (askE_dead h1)
      clear h1
      go_enter Tryz.func70, Tryz.ntmps70
      go_wp2_with fail
      refine (p_made p vS vL S L true w h).mono ?_
      rintro e w1 ⟨rfl, rfl⟩
      go_wp2_with fail
      refine (p_has p vS vL S L true n w h).mono ?_
      rintro e w1 ⟨rfl, rfl⟩
      rw [HD.out]
      go_wp2_with fail
      go_ret
      exact ⟨cf HE.out.symm, rfl⟩
  · have HD := Lib.hid (decide_eq_false h1)
    have HE := Lib.hid (askE_out g h1)
    clear h1
    go_enter Tryz.func70, Tryz.ntmps70
    go_wp2_with fail
    refine (p_made p vS vL S L g w h).mono ?_
    rintro e w1 ⟨rfl, rfl⟩
    go_wp2_with fail
    refine (p_has p vS vL S L g n w h).mono ?_
    rintro e w1 ⟨rfl, rfl⟩
    rw [HD.out]
    go_wp2_with fail
    go_ret
    exact ⟨cf HE.out.symm, rfl⟩
theorem p_sectors (p : Nat) (vS vL : Value) (S : List Blk) (L : List (Int × Blk)) (g : Bool) (w : World) (h : PD w p vS vL S L g) :
    Calls Tryz.prog 73 #[.pointer (some ⟨p, 0, none⟩)] w fun e w' => e = .returned (.int .i64 (S.length : Int)) ∧ w = w' := by
  obtain ⟨c0, c1, c2, c3⟩ := cC h.at_
  go_enter Tryz.func73, Tryz.ntmps73
  go_wp2_with fail
  refine (p_made p vS vL S L g w h).mono ?_
  rintro e w1 ⟨rfl, rfl⟩
  go_wp2_with fail
  go_ret
  exact ⟨rfl, rfl⟩
theorem p_dead (p : Nat) (vS vL : Value) (S : List Blk) (L : List (Int × Blk)) (g : Bool) (w : World) (h : PD w p vS vL S L g) :
    Calls Tryz.prog 94 #[.pointer (some ⟨p, 0, none⟩)] w fun e w' => e = .returned (.bool g) ∧ w = w' := by
  obtain ⟨c0, c1, c2, c3⟩ := cC h.at_
  go_enter Tryz.func94, Tryz.ntmps94
  go_wp2_with fail
  refine (p_made p vS vL S L g w h).mono ?_
  rintro e w1 ⟨rfl, rfl⟩
  go_wp2_with fail
  go_ret
  exact ⟨rfl, rfl⟩
set_option maxHeartbeats 1000000 in
theorem p_sure (p : Nat) (vS vL : Value) (S : List Blk) (L : List (Int × Blk)) (g : Bool) (n : Int) (w : World) (h : PD w p vS vL S L g) :
    Calls Tryz.prog 47 #[.pointer (some ⟨p, 0, none⟩), .int .i64 n] w fun e w' => e = .returned (.tuple #[blk (sureB S g n), .int .i64 (cw S g n)]) ∧ Below w.heap.size w w' := by
  have hA := (Below.refl w.heap.size w).alloc (Nat.le_refl _) (.cells (cel ao).toArray 38)
  have h1 := h.below hA
  have HT := Lib.hid (c9 w ao 38)
  have HA := Lib.hid hA
  clear hA
  rcases askE_is (S := S) (g := g) (n := n) with he | he | ⟨he, rfl, k, rfl, hk⟩
  · have HS := Lib.hid (sureB_no (S := S) (g := g) (n := n) (by omega))
    have HE := Lib.hid he
    clear he
    go_enter Tryz.func47, Tryz.ntmps47
    go_wp2_with (first | (refine ah rfl (aR rfl) ?_) | fail)
    refine (dj p vS vL S L g n _ h1).mono ?_
    rintro e w1 ⟨rfl, rfl⟩
    rw [HE.out]
    go_wp2_with (first | (refine ah rfl (cK (c := ao) (parts := []) rfl rfl) ?_) | (refine aZ rfl (bc rfl rfl rfl HT.out) ?_))
    refine bodyPost_ret (cd rfl _ _ _ rfl (World.rangeAt_setCells_same _ _ _ _ (by rw [aw]; exact HT.out))) rfl ⟨by rw [HS.out, HE.out]; rfl, below_setCells HA.out (Nat.le_refl _) _⟩
  · have HS := Lib.hid (sureB_no (S := S) (g := g) (n := n) (by omega))
    have HE := Lib.hid he
    clear he
    go_enter Tryz.func47, Tryz.ntmps47
    go_wp2_with (first | (refine ah rfl (aR rfl) ?_) | fail)
    refine (dj p vS vL S L g n _ h1).mono ?_
    rintro e w1 ⟨rfl, rfl⟩
    rw [HE.out]
    go_wp2_with (first | (refine ah rfl (cK (c := ao) (parts := []) rfl rfl) ?_) | (refine aZ rfl (bc rfl rfl rfl HT.out) ?_))
    refine bodyPost_ret (cd rfl _ _ _ rfl (World.rangeAt_setCells_same _ _ _ _ (by rw [aw]; exact HT.out))) rfl ⟨by rw [HS.out, HE.out]; rfl, below_setCells HA.out (Nat.le_refl _) _⟩
  · have HS := Lib.hid (sureB_ok he)
    have HE := Lib.hid he
    clear he
    obtain ⟨A, c, rfl, hrd, hc1, hc2⟩ := h1.alive.open_ rfl
    obtain ⟨b, off, rfl, hb, hr⟩ := hrd.blk hk
    obtain ⟨c0, c1, c2, c3⟩ := cC h1.at_
    generalize S.getD k ao = x at *
    have HR := Lib.hid hr
    clear hr hrd
    go_enter Tryz.func47, Tryz.ntmps47
    go_wp2_with (first | (refine ah rfl (aR rfl) ?_) | fail)
    refine (dj p _ vL S L false k _ h1).mono ?_
    rintro e w1 ⟨rfl, rfl⟩
    rw [HE.out]
    go_wp2_with (first | (refine ah rfl (aV rfl rfl HR.out) ?_) | (refine aZ rfl (bc rfl rfl rfl HT.out) ?_))
    refine bodyPost_ret (cd rfl _ _ _ rfl (World.rangeAt_setCells_same _ _ _ _ (by rw [aw]; exact HT.out))) rfl ⟨by rw [HS.out, HE.out]; rfl, below_setCells HA.out (Nat.le_refl _) _⟩
section
variable {w w' : World} {p : Nat} {vS vL : Value} {S : List Blk} {L : List (Int × Blk)} {g : Bool}
theorem p_lay_L (hp : w.heap[p]? = some (.cells #[.int .i64 (S.length : Int), vS, vL, .bool g] 105)) (h1 : 1 ≤ S.length) (hS : aJ BlkE w 0 vS (if g = true then [] else S)) {vL' : Value} {L' : List (Int × Blk)} (h' : aJ LwE w 0 vL' L') (hd : g = true → L' = []) : PD (w.setCell ⟨p, 2, none⟩ vL') p vS vL' S L' g := by
  have hO := only_set w p 2 vL'
  refine ⟨?_, h1, hS.only hO fun b hb e => hS.not_at hp (by decide) (by rw [hb, e]), h'.only hO fun b hb e => h'.not_at hp (by decide) (by rw [hb, e]), hd⟩
  have := heap_setCell_same w p 2 _ _ vL' hp
  simpa using this
theorem PD.setL (h : PD w p vS vL S L g) {vL' : Value} {L' : List (Int × Blk)} (h' : aJ LwE w 0 vL' L') (hd : g = true → L' = []) : PD (w.setCell ⟨p, 2, none⟩ vL') p vS vL' S L' g := p_lay_L h.at_ h.one h.S_ h' hd
theorem faP1 {b : Nat} : (Instr.fieldAt 105 (.pointer (some ⟨b, 0, none⟩)) 1).run Tryz.prog w = .ok (.pointer (some ⟨b, 1, none⟩)) w := by kernel_rfl
theorem faPw2 {b : Nat} : (Instr.fieldAt 105 (.pointer (some ⟨b, 0, none⟩)) 2).run Tryz.prog w = .ok (.pointer (some ⟨b, 2, none⟩)) w := by kernel_rfl
theorem faV0 {b off : Nat} : (Instr.fieldAt 114 (.pointer (some ⟨b, off, none⟩)) 0).run Tryz.prog w = .ok (.pointer (some ⟨b, off, none⟩)) w := by kernel_rfl
theorem faV1 {b off : Nat} : (Instr.fieldAt 114 (.pointer (some ⟨b, off, none⟩)) 1).run Tryz.prog w = .ok (.pointer (some ⟨b, off + 1, none⟩)) w := by kernel_rfl
theorem ldP {a : Addr} {A : Option Addr} {n c : Nat} (h : w.cell? a = some (.slice A n c)) : (Instr.loadAt 103 (.pointer (some a))).run Tryz.prog w = .ok (.slice A n c) w := by simp [go_sem, h]
theorem stP {a : Addr} {v : Value} {A : Option Addr} {n c : Nat} (h : w.cell? a = some v) (hf : w.frozen? a = false) : (Instr.storeAt 103 (.pointer (some a)) (.slice A n c)).run Tryz.prog w = .ok () (w.setCell a (.slice A n c)) := by simp [go_sem, h, hf]
theorem run_buildW (k : Int) (b : Blk) : (Instr.build 114 #[(0, .int .i64 k), (1, blk b)]).run Tryz.prog w = .ok (pairV k b) w := by
  have hz := run_zeroE LwE w
  have h1 := cn (place := fun i => (#[(0, 1), (1, 64)] : Array (Nat × Nat))[i]?) (i := 0) (off := 0) (size := 1) (v := .int .i64 k) (pre := []) (mid := [.int .i64 0]) (post := cel ao) (vs := [.int .i64 k]) (rest := [(1, blk b)]) rfl rfl rfl rfl rfl
  have h2 := cn (place := fun i => (#[(0, 1), (1, 64)] : Array (Nat × Nat))[i]?) (i := 1) (off := 1) (size := 64) (v := blk b) (pre := [.int .i64 k]) (mid := cel ao) (post := []) (vs := cel b) (rest := []) rfl rfl (aw b) rfl (aw ao)
  simp only [List.nil_append, List.append_nil, List.singleton_append] at h1 h2
  have h3 := h1.trans h2
  have hz' : (zeroValue 114).run Tryz.prog w = .ok (pairV 0 ao) w := hz
  have hc : (pairV 0 ao).cells = (.int .i64 0 :: cel ao).toArray := rfl
  simp only [Instr.build, Sem.run_bind, hz', run_underlying Tryz.underlying114, Result.andThen_ok, hc]
  refine Eq.trans (congrArg (fun r => Result.andThen r _) (?h : _ = Result.ok #[(0, 1), (1, 64)] w)) ?_
  case h => kernel_rfl
  simp only [Result.andThen_ok]
  have h4 : Instr.fill (fun i => (#[(0, 1), (1, 64)] : Array (Nat × Nat))[i]?) (.int .i64 k :: cel b).toArray [] = some (.int .i64 k :: cel b).toArray := by rw [Instr.fill]
  rw [h3.trans h4]
  rfl
theorem exec_buildW {ρ : Operand → Value} {o : Oper} {x y : Operand} {k : Int} {b : Blk} (ho : o.op = .build 114 #[(0, x), (1, y)]) (hx : ρ x = .int .i64 k) (hy : ρ y = blk b) : (execOp ρ o).run Tryz.prog w = .ok (.value (pairV k b)) w := by
  have h := run_buildW (w := w) k b
  unfold execOp
  simp only [ho, List.map_toArray, List.map_cons, List.map_nil, hx, hy, Sem.run_bind, h, Result.andThen_ok, Sem.run_pure]
theorem pairW_cells (k : Int) (b : Blk) : (pairV k b).cells = (LwE.cel (k, b)).toArray := rfl
end
set_option maxHeartbeats 1000000 in
theorem p_fail (p : Nat) (vS vL : Value) (S : List Blk) (L : List (Int × Blk)) (g : Bool) (w : World) (h : PD w p vS vL S L g) :
    Calls Tryz.prog 29 #[.pointer (some ⟨p, 0, none⟩)] w fun e w' => e = .returned (.int .i64 0) ∧ PD w' p (.slice none 0 0) (.slice none 0 0) S [] true ∧ Only (foot p vS vL) w w' := by
  obtain ⟨c0, c1, c2, c3⟩ := cC h.at_
  have f0 := frozen_of_row w p 0 _ _ h.at_
  have f1 := frozen_of_row w p 1 _ _ h.at_
  have f2 := frozen_of_row w p 2 _ _ h.at_
  have f3 := frozen_of_row w p 3 _ _ h.at_
  have H := Lib.hid h
  clear h
  go_enter Tryz.func29, Tryz.ntmps29
  go_wp2_with fail
  refine (p_made p vS vL S L g w H.out).mono ?_
  rintro e w1 ⟨rfl, rfl⟩
  go_wp2_with fail
  go_ret
  refine ⟨rfl, ⟨?_, H.out.one, aJ.nil _ _, aJ.nil _ _, fun _ => rfl⟩, ?_⟩
  · have h0 := H.out.at_
    have h1 := heap_setCell_same w p 0 _ _ (.int .i64 (S.length : Int)) h0
    have h2 := heap_setCell_same _ p 1 _ _ (.slice none 0 0) h1
    have h3 := heap_setCell_same _ p 2 _ _ (.slice none 0 0) h2
    have h4 := heap_setCell_same _ p 3 _ _ (.bool true) h3
    simpa using h4
  · have hO : Only (fun b => b = p) w w := Only.refl _ _
    exact ((((hO.setCell (p := ⟨p, 0, none⟩) (.inl rfl) _).setCell (p := ⟨p, 1, none⟩) (.inl rfl) _).setCell (p := ⟨p, 2, none⟩) (.inl rfl) _).setCell (p := ⟨p, 3, none⟩) (.inl rfl) _).widen fun b hb => .inl hb
set_option maxHeartbeats 1000000 in
theorem p_write_no (p : Nat) (vS vL : Value) (S : List Blk) (L : List (Int × Blk)) (g : Bool) (n : Int) (b : Blk) (w : World) (h : PD w p vS vL S L g) (he0 : cw S g n ≠ 0) :
    Calls Tryz.prog 50 #[.pointer (some ⟨p, 0, none⟩), .int .i64 n, blk b] w fun e w' => e = .returned (.int .i64 (cw S g n)) ∧ Below w.heap.size w w' := by
  have hA := (Below.refl w.heap.size w).alloc (Nat.le_refl _) (.cells (cel b).toArray 38)
  have h1 := h.below hA
  have HA := Lib.hid hA
  clear hA
  have H0 := Lib.hid he0
  rcases askE_is (S := S) (g := g) (n := n) with he | he | ⟨he, _⟩
  rotate_right 1
  · exact absurd he he0
  all_goals
    have HE := Lib.hid he
    clear he he0
    go_enter Tryz.func50, Tryz.ntmps50
    go_wp2_with (first | (refine ah rfl (bJ rfl rfl) ?_) | fail)
    refine (dj p vS vL S L g n _ h1).mono ?_
    rintro e w1 ⟨rfl, rfl⟩
    rw [HE.out]
    go_wp2_with fail
    go_ret
    exact ⟨cf HE.out.symm, HA.out⟩
set_option maxHeartbeats 1000000 in
theorem p_write_ok (p k : Nat) (vS vL : Value) (S : List Blk) (L : List (Int × Blk)) (b : Blk) (w : World) (h : PD w p vS vL S L false) (hk : k < S.length) (hL : L.length < 1000000) :
    Calls Tryz.prog 50 #[.pointer (some ⟨p, 0, none⟩), .int .i64 k, blk b] w fun e w' => e = .returned (.int .i64 0) ∧ ∃ vL', PD w' p vS vL' S (L ++ [((k : Int), b)]) false ∧ Only (foot p vS vL) w w' ∧ (∀ x, vL'.ownBlock = some x → vL.ownBlock = some x ∨ w.heap.size ≤ x) := by
  have hA := (Below.refl w.heap.size w).alloc (Nat.le_refl _) (.cells (cel b).toArray 38)
  have h1 := h.below hA
  have HA := Lib.hid hA
  have HE := Lib.hid (askE_ok (S := S) (n := (k : Int)) (by omega))
  have HB := Lib.hid (new1 w (cel b).toArray 38)
  clear hA
  obtain ⟨AL, cL, rfl, hl1, hl2⟩ := h1.L_.form
  go_enter Tryz.func50, Tryz.ntmps50
  go_wp2_with (first | (refine ah rfl (bJ rfl rfl) ?_) | fail)
  refine (dj p vS _ S L false k _ h1).mono ?_
  rintro e w1 ⟨rfl, rfl⟩
  rw [HE.out]
  go_wp2_with fail
  generalize hy : w.heap.size = y at *
  generalize w.alloc (.cells (cel b).toArray 38) = w1 at *
  refine wp_region_last (fun w' => w'.heap[p]? = some (.cells #[.int .i64 (S.length : Int), vS, .slice AL L.length cL, .bool false] 105) ∧ w'.heap[y]? = some (.cells (cel b).toArray 38)) 12 (by kernel_rfl) ?_
  change c7 _ _ _ _ _ _ 13 _ _ w1.drew
  have hS : w1.drew.heap[p]? = some (.cells #[.int .i64 (S.length : Int), vS, .slice AL L.length cL, .bool false] 105) ∧ w1.drew.heap[y]? = some (.cells (cel b).toArray 38) := ⟨h1.at_, HB.out⟩
  refine dm 0 rfl (by kernel_rfl) (by kernel_rfl) (by kernel_rfl) (by decide) (by kernel_rfl) rfl (fun w' hw => ag rfl (ev rfl)) (fun _ _ _ h => h) hS ?_
  simp only [Act.put, aa, ac, ae]
  refine dm 1 rfl (by kernel_rfl) (by kernel_rfl) (by kernel_rfl) (by decide) (by kernel_rfl) rfl (fun w' hw => ag rfl (ev rfl)) (fun _ _ _ h => h) hS ?_
  simp only [Act.put, aa, ac, ae]
  refine dm 2 rfl (by kernel_rfl) (by kernel_rfl) (by kernel_rfl) (by decide) (by kernel_rfl) rfl (fun w' hw => bj rfl (ev rfl)) (fun _ _ _ h => h) hS ?_
  simp only [Act.put, aa, ac, ae]
  refine dm 3 rfl (by kernel_rfl) (by kernel_rfl) (by kernel_rfl) (by decide) (by kernel_rfl) rfl (fun w' hw => al rfl (ev rfl) faPw2) (fun _ _ _ h => h) hS ?_
  simp only [Act.put, aa, ac, ae]
  refine dm 4 rfl (by kernel_rfl) (by kernel_rfl) (by kernel_rfl) (by decide) (by kernel_rfl) rfl (fun w' hw => au rfl (ev rfl) (ldP (cC hw.1).2.2.1)) (fun _ _ _ h => h) hS ?_
  simp only [Act.put, aa, ac, ae]
  refine dm 5 rfl (by kernel_rfl) (by kernel_rfl) (by kernel_rfl) (by decide) (by kernel_rfl) rfl (fun w' hw => ag rfl (ev rfl)) (fun _ _ _ h => h) hS ?_
  simp only [Act.put, aa, ac, ae]
  refine dm 6 rfl (by kernel_rfl) (by kernel_rfl) (by kernel_rfl) (by decide) (by kernel_rfl) rfl (fun w' hw => aV rfl (ev rfl) (blk_range hw.2)) (fun _ _ _ h => h) hS ?_
  simp only [Act.put, aa, ac, ae]
  refine dm 7 rfl (by kernel_rfl) (by kernel_rfl) (by kernel_rfl) (by decide) (by kernel_rfl) rfl (fun w' hw => exec_buildW rfl (ev rfl) (ev rfl)) (fun _ _ _ h => h) hS ?_
  simp only [Act.put, aa, ac, ae]
  have hr : PD w1.drew p vS (.slice AL L.length cL) S L false := ⟨h1.at_, h1.one, h1.S_, h1.L_, h1.dead⟩
  have hS2 : PD (w1.drew.alloc (.cells (LwE.cel ((k : Int), b)).toArray LwE.t)) p vS (.slice AL L.length cL) S L false := hr.below ((Below.refl _ _).alloc (Nat.le_refl _) _)
  have hb2 := aW hS.2 (.cells (LwE.cel ((k : Int), b)).toArray LwE.t)
  have hnew : RdE LwE _ _ _ 1 _ := rdE_new (E := LwE) (l := [((k : Int), b)]) w1.drew (LwE.cel ((k : Int), b)).toArray LwE.t (by rw [cZ]; simp [bI])
  obtain ⟨v3, w3, hrun, hm3, hg3, ho3⟩ := run_appE_own LwE _ 103 0 _ 1 1 _ _ _ _ hS2.L_ hnew (Nat.zero_le _) (by omega)
  have hO2 : Only (foot p vS (.slice AL L.length cL)) w (w1.drew.alloc (.cells (LwE.cel ((k : Int), b)).toArray LwE.t)) := (Only.of_below _ (hy ▸ HA.out)).drew.alloc _
  have hO3 := hO2.grown hg3 (fun x hx => .inl (.inr (.inr hx)))
  have hp3 : w3.heap[p]? = some (.cells #[.int .i64 (S.length : Int), vS, .slice AL L.length cL, .bool false] 105) := (hg3.block p (aF hS2.at_) (fun e => hS2.L_.not_at hS2.at_ (by decide) e.symm)).trans hS2.at_
  have hy3 : w3.heap[y]? = some (.cells (cel b).toArray 38) := (hg3.block y (aF hb2) (fun e => hS2.L_.not_at hb2 (by decide) e.symm)).trans hb2
  have hSS3 := hS2.S_.kept hg3 (hS2.S_.other hS2.L_ (by decide))
  refine last_turn 8 rfl (by kernel_rfl) rfl (dx (E := LwE) (a := ((k : Int), b)) rfl (ev rfl) (pairW_cells _ _) (by decide)) (fun _ => ⟨hS2.at_, hb2⟩) ?_
  simp only [Act.put, aa, ac, ae]
  refine last_turn 9 rfl (by kernel_rfl) rfl (exec_appE (E := LwE) rfl (ev rfl) (ev rfl) hrun) (fun _ => ⟨hp3, hy3⟩) ?_
  simp only [Act.put, aa, ac, ae]
  refine last_turn 10 rfl (by kernel_rfl) rfl (bj rfl (ev rfl)) (fun _ => ⟨hp3, hy3⟩) ?_
  simp only [Act.put, aa, ac, ae]
  refine last_turn 11 rfl (by kernel_rfl) rfl (al rfl (ev rfl) faPw2) (fun _ => ⟨hp3, hy3⟩) ?_
  simp only [Act.put, aa, ac, ae]
  obtain ⟨A3, c3, rfl, _, _⟩ := hm3.form
  refine last_nul 12 rfl (by kernel_rfl) rfl (exec_st rfl (ev rfl) (ev rfl) (stP (cC hp3).2.2.1 (frozen_of_row _ _ _ _ _ hp3))) (fun e => absurd rfl e) ?_
  simp only [Act.put]
  refine wpAnyZ_done (by kernel_rfl) ?_ _
  go_wp2_with fail
  go_ret
  refine ⟨rfl, _, p_lay_L hp3 h1.one hSS3 hm3 (fun e => absurd e (by decide)), hO3.setCell (.inl (.inl rfl)) _, fun x hx => ?_⟩
  rcases ho3 x hx with e | e
  · exact .inl e
  · refine .inr (Nat.le_trans ?_ e)
    have := hO2.size
    omega
theorem p_write (p : Nat) (vS vL : Value) (S : List Blk) (L : List (Int × Blk)) (g : Bool) (n : Int) (b : Blk) (w : World) (h : PD w p vS vL S L g) (hL : L.length < 1000000) :
    Calls Tryz.prog 50 #[.pointer (some ⟨p, 0, none⟩), .int .i64 n, blk b] w fun e w' => e = .returned (.int .i64 (cw S g n)) ∧ ∃ vL', PD w' p vS vL' S (wrL S L g n b) g ∧ Only (foot p vS vL) w w' ∧ (∀ x, vL'.ownBlock = some x → vL.ownBlock = some x ∨ w.heap.size ≤ x) := by
  by_cases he : cw S g n = 0
  · rcases askE_is (S := S) (g := g) (n := n) with h1 | h1 | ⟨_, rfl, k, rfl, hk⟩
    · omega
    · omega
    · have e : wrL S L false k b = L ++ [((k : Int), b)] := by unfold wrL; rw [if_pos he]
      rw [e, he]
      exact p_write_ok p k vS vL S L b w h hk hL
  · have e : wrL S L g n b = L := by unfold wrL; rw [if_neg he]
    rw [e]
    exact (p_write_no p vS vL S L g n b w h he).mono fun e w' ⟨h1, h2⟩ => ⟨h1, vL, h.below h2, Only.of_below _ h2, fun x hx => .inl hx⟩
theorem undW : ∃ d, Tryz.prog.underlying LwE.t = some d ∧ d.isRow = true := ⟨_, Tryz.underlying114, rfl⟩
section
variable {ρ : Operand → Value} {o : Oper} {x y : Operand} {w : World} {b off : Nat} {a : Int × Blk}
theorem exec_loadW (ho : o.op = .load LwE.t x) (hx : ρ x = .pointer (some ⟨b, off, none⟩)) (hc : w.rangeAt b off (cT a)) : (execOp ρ o).run Tryz.prog w = .ok (.value (.agg (cT a).toArray)) w := by
  obtain ⟨d, h1, h2⟩ := undW
  exact exec_loadE (E := LwE) h1 h2 ho hx hc
theorem exec_allocW (ho : o.op = .alloc LwE.t) : (execOp ρ o).run Tryz.prog w = .ok (.value (.pointer (some ⟨w.heap.size, 0, none⟩))) (w.alloc (.cells LwE.z.cells LwE.t)) := exec_allocE (E := LwE) ho
theorem exec_fillW (ho : o.op = .store LwE.t x y) (hx : ρ x = .pointer (some ⟨w.heap.size, 0, none⟩)) (hy : ρ y = .agg (cT a).toArray) : (execOp ρ o).run Tryz.prog (w.alloc (.cells LwE.z.cells LwE.t)) = .ok .skip (w.alloc (.cells (cT a).toArray LwE.t)) := exec_fillE (E := LwE) ho hx hy
end
section
variable {w w' : World} {p gg n c k : Nat} {vL : Value} {S : List Blk} {L : List (Int × Blk)}
theorem PD.setS (h : PD w p (.slice (some ⟨gg, 0, none⟩) n c) vL S L false) (hk : k < n) (x : Blk) : PD (w.setCells gg (k * 64) (cel x)) p (.slice (some ⟨gg, 0, none⟩) n c) vL (S.set k x) L false := by
  have hO : Only (fun b => b = gg) w (w.setCells gg (k * 64) (cel x)) := (Only.refl (fun b => b = gg) w).setCells (.inl rfl) _ _
  refine ⟨?_, by rw [List.length_set]; exact h.one, h.alive.store hk x, h.L_.only hO fun b hb e => ?_, fun e => absurd e (by decide)⟩
  · rw [List.length_set]
    exact hO.keep h.at_ (fun e => h.S_.not_at h.at_ (by decide) (by rw [e]; rfl))
  · rcases h.L_.other h.S_ (by decide) with e' | e'
    · rw [e'] at hb; cases hb
    · exact e' (by rw [hb, e]; rfl)
end
theorem p_flush_dead (p : Nat) (vS vL : Value) (S : List Blk) (L : List (Int × Blk)) (w : World) (h : PD w p vS vL S L true) :
    Calls Tryz.prog 95 #[.pointer (some ⟨p, 0, none⟩)] w fun e w' => e = .returned (.int .i64 9) ∧ w = w' := by
  obtain ⟨c0, c1, c2, c3⟩ := cC h.at_
  go_enter Tryz.func95, Tryz.ntmps95
  go_wp2_with fail
  refine (p_made p vS vL S L true w h).mono ?_
  rintro e w1 ⟨rfl, rfl⟩
  go_wp2_with fail
  go_ret
  exact ⟨rfl, rfl⟩
set_option maxHeartbeats 2000000 in
theorem p_flush_ok (p : Nat) (vS vL : Value) (S : List Blk) (L : List (Int × Blk)) (w : World) (h : PD w p vS vL S L false) (hF : Fit S L) :
    Calls Tryz.prog 95 #[.pointer (some ⟨p, 0, none⟩)] w fun e w' => e = .returned (.int .i64 0) ∧ PD w' p vS (.slice none 0 0) (flS S L) [] false ∧ Only (foot p vS vL) w w' := by
  obtain ⟨c0, c1, c2, c3⟩ := cC h.at_
  obtain ⟨AL, cL, rfl, hl1, hl2⟩ := h.L_.form
  unfold maxLen at hl2
  have HH := Lib.hid h
  have HF := Lib.hid hF
  clear h hF
  go_enter Tryz.func95, Tryz.ntmps95
  go_wp2_with fail
  refine (p_made p vS _ S L false w HH.out).mono ?_
  rintro e w1 ⟨rfl, rfl⟩
  go_wp2_with fail
  clear c0 c1 c2 c3
  go_loopw [4, 17] (fun v4 i wr => ∃ j : Nat, j ≤ L.length ∧ i = .int .i64 j ∧ PD wr p vS (.slice AL L.length cL) (flS S (L.take j)) L false ∧ Only (foot p vS (.slice AL L.length cL)) w wr) (fun _ i _ => L.length - (intOf i).toNat)
  case atStart => exact ⟨0, Nat.zero_le _, rfl, HH.out, Only.refl _ _⟩
  case round =>
    obtain ⟨j, hj, rfl, hr, hon⟩ := hrel
    by_cases hlt : j < L.length
    · obtain ⟨k, hqk, hk⟩ := HF.out.at_ hlt
      have hlenS := flS_len S (L.take j)
      obtain ⟨gS, cS, rfl⟩ := hr.alive.slice hlenS (by omega)
      obtain ⟨bA, oA, hAe, hAl, rA⟩ := hr.L_.rd.pairs hlt
      have HS := Lib.hid (flS_succ (S := S) hlt)
      rw [hqk] at HS
      generalize hq : L.getD j (0, ao) = q at *
      obtain ⟨q1, x⟩ := q
      obtain rfl : q1 = (k : Int) := hqk
      clear hq
      have h1 := hr.below ((Below.refl _ _).alloc (Nat.le_refl _) (.cells (cT ((k : Int), x)).toArray LwE.t))
      have HON := Lib.hid (hon.alloc (.cells (cT ((k : Int), x)).toArray LwE.t))
      have hnw := pair_new wr ((k : Int), x) LwE.t
      have HRA := Lib.hid rA
      subst hAe
      clear rA hr hon
      have hLL : (j : Int) < (L.length : Int) := by omega
      go_wp2_with (first | (refine ah rfl (exec_indexE (E := LwE) rfl rfl rfl hlt) ?_) | (refine ah rfl (exec_loadW rfl rfl HRA.out) ?_) | (refine ah rfl (exec_allocW rfl) ?_) | (refine aZ rfl (exec_fillW rfl rfl rfl) ?_) | fail)
      generalize hy : wr.heap.size = y at *
      generalize wr.alloc (.cells (cT ((k : Int), x)).toArray LwE.t) = w1 at *
      obtain ⟨c0, c1, c2, c3⟩ := cC h1.at_
      have HA := Lib.hid c1
      have HN := Lib.hid hnw
      have H1 := Lib.hid h1
      have HKT := Lib.hid (show w1.there gS (k * 64) 64 from by
        have := H1.out.alive.there hk (j := 0) (m := 64) (Nat.le_refl _)
        rw [Nat.add_zero] at this
        exact this)
      clear c0 c1 c2 c3 hnw h1 hlenS
      refine wp_region_still_tail 9 (by kernel_rfl) (by kernel_rfl) ?_
      simp only [List.take_succ_cons, List.take_zero, List.drop_succ_cons, List.drop_zero]
      refine aL rfl (ag rfl (ev rfl)) ?_
      simp only [Act.put, aa, ac, ae]
      refine aL rfl (bj rfl (ev rfl)) ?_
      simp only [Act.put, aa, ac, ae]
      refine aL rfl (al rfl (ev rfl) faP1) ?_
      simp only [Act.put, aa, ac, ae]
      refine aL rfl (au rfl (ev rfl) (ldB HA.out)) ?_
      simp only [Act.put, aa, ac, ae]
      refine aL rfl (al rfl (ev rfl) faV0) ?_
      simp only [Act.put, aa, ac, ae]
      refine aL rfl (au rfl (ev rfl) (ldI HN.out.1)) ?_
      simp only [Act.put, aa, ac, ae]
      refine aL rfl (al rfl (ev rfl) faV1) ?_
      simp only [Act.put, aa, ac, ae]
      refine aL rfl (aV rfl (ev rfl) HN.out.2) ?_
      simp only [Act.put, aa, ac, ae]
      refine aL rfl (exec_index0 (E := BlkE) rfl (ev rfl) (ev rfl) hk) ?_
      simp only [Act.put, aa, ac, ae]
      refine wpStill_nil ?_
      change wpList _ _ _ _ _ w1.drew
      go_wp2_with (first | (refine aZ rfl (bc rfl rfl rfl HKT.out) ?_) | fail)
      go_roundw
      case rel =>
        have hd : PD w1.drew p (.slice (some ⟨gS, 0, none⟩) S.length cS) (.slice (some ⟨bA, oA, none⟩) L.length cL) (flS S (L.take j)) L false := ⟨H1.out.at_, H1.out.one, H1.out.S_, H1.out.L_, H1.out.dead⟩
        exact ⟨j + 1, by omega, by go_num, by rw [HS.out]; exact hd.setS hk x, HON.out.drew.setCells (.inl (.inr (.inl rfl))) _ _⟩
      case measure => simp [intOf]; omega
    · have hjn : j = L.length := by omega
      subst hjn
      obtain ⟨c0, c1, c2, c3⟩ := cC hr.at_
      have f2 := frozen_of_row wr p 2 _ _ hr.at_
      have HRr := Lib.hid hr
      have HON := Lib.hid hon
      clear hr hon
      have hLL : ¬((L.length : Int) < (L.length : Int)) := by omega
      go_wp2_with fail
      go_ret
      have hd := HRr.out.setL (aJ.nil _ _) (fun _ => rfl)
      rw [List.take_length] at hd
      exact ⟨rfl, hd, HON.out.setCell (.inl (.inl rfl)) _⟩
set_option maxHeartbeats 1000000 in
theorem p_new_ok (k : Nat) (w : World) (h1 : 1 ≤ k) (h2 : k ≤ 512) :
    Calls Tryz.prog 30 #[.int .i64 k] w fun e w' => ∃ p vS, e = .returned (.tuple #[.pointer (some ⟨p, 0, none⟩), .int .i64 0]) ∧ PD w' p vS (.slice none 0 0) (List.replicate k ao) [] false ∧ Below w.heap.size w w' ∧ ∀ b, foot p vS (.slice none 0 0) b → w.heap.size ≤ b := by
  go_enter Tryz.func30, Tryz.ntmps30
  have HM := Lib.hid (heap_alloc_new w (.cells (madeCells (cel ao).toArray (k * 64)) 38))
  have HB := Lib.hid ((Below.refl w.heap.size w).alloc (Nat.le_refl _) (.cells (madeCells (cel ao).toArray (k * 64)) 38))
  have HSZ := Lib.hid (World.size_alloc w (.cells (madeCells (cel ao).toArray (k * 64)) 38))
  go_wp2_with (first | (refine ah rfl (exec_make (n := k) rfl rfl rfl (by omega)) ?_) | fail)
  generalize w.alloc (.cells (madeCells (cel ao).toArray (k * 64)) 38) = w1 at *
  go_ret2
  have hS : aJ BlkE w1 0 (.slice (some ⟨w.heap.size, 0, none⟩) k k) (List.replicate k ao) := aJ.of_block (E := BlkE) HM.out (by rw [← flat_zeros]; rfl) (Nat.zero_le _) (by simp) (by unfold maxLen; omega)
  have hnw := heap_alloc_new w1 (.cells #[.int .i64 (k : Int), .slice (some ⟨w.heap.size, 0, none⟩) k k, .slice none 0 0, .bool false] 105)
  rw [HSZ.out] at hnw
  refine ⟨w.heap.size + 1, _, rfl, ⟨by rw [List.length_replicate]; exact hnw, by simpa using h1, hS.below ((Below.refl _ _).alloc (Nat.le_refl _) _), aJ.nil _ _, fun e => absurd e (by decide)⟩, HB.out.alloc HB.out.size _, fun b hb => ?_⟩
  rcases hb with rfl | hb | hb
  · omega
  · simp [Value.ownBlock] at hb; omega
  · simp [Value.ownBlock] at hb
theorem p_new_no (n : Int) (w : World) (h : ¬(1 ≤ n ∧ n ≤ 512)) :
    Calls Tryz.prog 30 #[.int .i64 n] w fun e w' => e = .returned (.tuple #[.pointer none, .int .i64 2]) ∧ w = w' := by
  have hor : n < 1 ∨ (1 ≤ n ∧ 512 < n) := by omega
  clear h
  rcases hor with h | ⟨h, h'⟩
  all_goals
    go_enter Tryz.func30, Tryz.ntmps30
    go_wp2
    go_ret2
    exact ⟨rfl, rfl⟩
def noDefer (o : Oper) : Bool := match o.op with
  | .defer _ => false
  | _ => true
theorem noDefer_spec {o : Oper} (h : noDefer o = true) : ∀ c, o.op ≠ .defer c := by
  intro c e
  unfold noDefer at h
  rw [e] at h
  cases h
section
variable {F : Fence} {n : Nat} {P : Program} {ops : Array Oper} {rest : List Oper} {o : Oper} {a : Act} {w w' : World} {Q : Exit → Act → World → Prop} {v : Value}
theorem ct (hg : o.guard = none) (hd : noDefer o = true) (ha : o.about P w a.eval = none) (h : (execOp a.eval o).run P w = .ok (.value v) w') (hr : wpListIn F n P ops Q rest (a.put o.dst v) w') : wpListIn F n P ops Q (o :: rest) a w := by
  refine wpListIn_plain hg fun K hK => ?_
  unfold Oper.wpIn
  refine ⟨fun f hf => (by rw [ha] at hf; cases hf), ?_⟩
  rw [Oper.semAt_plain F _ _ (noDefer_spec hd), h]
  exact hK _ _ hr
theorem wpListIn_nul (hg : o.guard = none) (hd : noDefer o = true) (ha : o.about P w a.eval = none) (h : (execOp a.eval o).run P w = .ok .skip w') (hr : wpListIn F n P ops Q rest (a.put o.dst undef) w') : wpListIn F n P ops Q (o :: rest) a w := by
  refine wpListIn_plain hg fun K hK => ?_
  unfold Oper.wpIn
  refine ⟨fun f hf => (by rw [ha] at hf; cases hf), ?_⟩
  rw [Oper.semAt_plain F _ _ (noDefer_spec hd), h]
  exact hK _ _ hr
end
end Go.Proofs.YtheponmdbmloaaaGreatDoor
