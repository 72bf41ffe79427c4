import Derived.Test.YtbbcdhkinbmdnaaGreatDoorLoai
import Derived.Test.YtbbcdhkinbmdnaaGreatDoorLoah
import Derived.Test.YtbbcdhkinbmdnaaGreatDoorLoae
import Derived.Test.YtbbcdhkinbmdnaaGreatDoorLoac
import Derived.Test.YtbbcdhkinbmdnaaGreatDoorLoaa
import Derived.Test.YtbbcdhkinbmdnaaGreatDoorLoaf
import Derived.Test.YtbbcdhkinbmdnaaGreatDoorLoad
import Derived.Test.YtbbcdhkinbmdnaaGreatDoorLoZ
namespace Go.Proofs.YtbbcdhkinbmdnaaGreatDoor
open Go.RowKit
set_option linter.unusedVariables false
set_option maxRecDepth 100000
section
variable {α : Type} {E : Elt α} {w w' : World} {B p : Nat} {v : Value} {l : List α} {F : Nat → Prop}
theorem aH.only (h : aH E w B v l) (k : Only F w w') (hn : ∀ b, v.ownBlock = some b → ¬ F b) : aH E w' B v l := by
 refine ⟨h.1, ?_⟩
 rcases h.2 with hn' | ⟨g, cap, cur, rfl, hbg, hg, rest⟩
 ·exact .inl hn'
 ·exact .inr ⟨g, cap, cur, rfl, hbg, (k.block g (Array.getElem?_eq_some_iff.1 hg).1 (hn g rfl)).trans hg, rest⟩
theorem aH.own_lt (h : aH E w B v l) : ∀ b, v.ownBlock = some b → b < w.heap.size := by
 intro b hb
 rcases h.2 with ⟨rfl, _⟩ | ⟨g, cap, cur, rfl, _, hg, _⟩
 ·simp [Value.ownBlock] at hb
 ·simp [Value.ownBlock] at hb; subst hb; exact (Array.getElem?_eq_some_iff.1 hg).1
theorem aH.dc (h : aH E w B v l) {cs : Array Value} {t : TypeId} {fr : Nat × Nat} (hp : w.heap[p]? = some (.cells cs t fr)) (ht : E.t ≠ t) : v.ownBlock ≠ some p := by
 intro e
 rcases h.2 with ⟨rfl, _⟩ | ⟨g, cap, cur, rfl, _, hg, _⟩
 ·simp [Value.ownBlock] at e
 ·simp [Value.ownBlock] at e
  subst e
  rw [hp] at hg
  simp at hg
  exact ht hg.2.1.symm
end
def foot (p : Nat) (vS vL : Value) (k : Nat) : Prop := k = p ∨ vS.ownBlock = some k ∨ vL.ownBlock = some k
def cR (S : List Blk) (g : Bool) (n : Int) : Int := if 0 ≤ n ∧ n < S.length then (if g = true then 9 else 0) else 2
theorem askE_out {S : List Blk} {n : Int} (g : Bool) (h : ¬(0 ≤ n ∧ n < S.length)) : cR S g n = 2 := by unfold cR; rw [if_neg h]
theorem askE_dead {S : List Blk} {n : Int} (h : 0 ≤ n ∧ n < S.length) : cR S true n = 9 := by unfold cR; rw [if_pos h]; rfl
theorem fH {S : List Blk} {n : Int} (h : 0 ≤ n ∧ n < S.length) : cR S false n = 0 := by unfold cR; rw [if_pos h]; rfl
def sureB (S : List Blk) (g : Bool) (n : Int) : Blk := if cR S g n = 0 then S.getD n.toNat ap else ap
theorem sureB_no {S : List Blk} {g : Bool} {n : Int} (h : cR S g n ≠ 0) : sureB S g n = ap := by unfold sureB; rw [if_neg h]
theorem sureB_ok {S : List Blk} {g : Bool} {k : Nat} (h : cR S g (k : Int) = 0) : sureB S g (k : Int) = S.getD k ap := by unfold sureB; rw [if_pos h]; rfl
theorem eD {S : List Blk} {g : Bool} {n : Int} : cR S g n = 2 ∨ cR S g n = 9 ∨ (cR S g n = 0 ∧ g = false ∧ ∃ k : Nat, n = k ∧ k < S.length) := by
 unfold cR
 split
 ·rename_i h
  cases g
  ·exact .inr (.inr ⟨rfl, rfl, n.toNat, by omega, by omega⟩)
  ·exact .inr (.inl rfl)
 ·exact .inl rfl
def lastW (L : List (Int × Blk)) (n : Int) (b : Blk) : Blk := L.foldl (fun b q => if q.1 = n then q.2 else b) b
theorem lastW_succ {L : List (Int × Blk)} {i : Nat} (n : Int) (b : Blk) (hi : i < L.length) : lastW (L.take (i + 1)) n b = if (L.getD i (0, ap)).1 = n then (L.getD i (0, ap)).2 else lastW (L.take i) n b := by
 rw [List.take_add_one, List.getD, List.getElem?_eq_getElem hi]
 simp only [lastW, Option.toList_some, List.foldl_append, List.foldl_cons, List.foldl_nil, Option.getD_some]
def eR (S : List Blk) (L : List (Int × Blk)) (g : Bool) (n : Int) : Blk := if cR S g n = 0 then lastW L n (S.getD n.toNat ap) else ap
theorem readB_no {S : List Blk} {L : List (Int × Blk)} {g : Bool} {n : Int} (h : cR S g n ≠ 0) : eR S L g n = ap := by unfold eR; rw [if_neg h]
theorem readB_ok {S : List Blk} {L : List (Int × Blk)} {g : Bool} {k : Nat} (h : cR S g (k : Int) = 0) : eR S L g (k : Int) = lastW L k (S.getD k ap) := by unfold eR; rw [if_pos h]; rfl
section
variable {w w' : World} {p : Nat} {vS vL : Value} {S : List Blk} {L : List (Int × Blk)} {g : Bool}
theorem ez (w : World) (p i : Nat) (v : Value) : Only (fun b => b = p) w (w.setCell ⟨p, i, none⟩ v) := (Only.refl (fun b => b = p) w).setCell (p := ⟨p, i, none⟩) (.inl rfl) v
theorem ldB {a : Addr} {A : Option Addr} {n c : Nat} (h : w.cell? a = some (.slice A n c)) : (Instr.loadAt 123 (.pointer (some a))).run Tryz.prog w = .ok (.slice A n c) w := by simp [go_sem, h]
end
def wrL (S : List Blk) (L : List (Int × Blk)) (g : Bool) (n : Int) (b : Blk) : List (Int × Blk) := if cR S g n = 0 then L ++ [(n, b)] else L
theorem exec_index0 {α : Type} {E : Elt α} {ρ : Operand → Value} {o : Oper} {x y : Operand} {w : World} {b n c j : Nat} (ho : o.op = .indexAddr E.s x y) (hx : ρ x = .slice (some ⟨b, 0, none⟩) n c) (hy : ρ y = .int .i64 (j : Int)) (hj : j < n) : (execOp ρ o).run Tryz.prog w = .ok (.value (.pointer (some ⟨b, j * E.n, none⟩))) w := by
 have := bQ (E := E) (ρ := ρ) (w := w) ho hx hy hj
 rwa [Nat.zero_add] at this
theorem aH.slice {α : Type} {E : Elt α} {w : World} {B n : Nat} {v : Value} {l : List α} (h : aH E w B v l) (hn : l.length = n) (hl : 0 < n) : ∃ g c, v = .slice (some ⟨g, 0, none⟩) n c := by
 subst hn
 rcases h.2 with ⟨_, h0⟩ | ⟨g, cap, cur, rfl, _⟩
 ·omega
 ·exact ⟨g, cap, rfl⟩
section
variable {w : World} {p b off gg n c k : Nat} {vL : Value} {S : List Blk} {L : List (Int × Blk)} {g : Bool}
theorem ldI {a : Addr} {x : Int} (h : w.cell? a = some (.int .i64 x)) : (Instr.loadAt 3 (.pointer (some a))).run Tryz.prog w = .ok (.int .i64 x) w := by simp [go_sem, h]
end
def flS (S : List Blk) (L : List (Int × Blk)) : List Blk := L.foldl (fun S q => S.set q.1.toNat q.2) S
theorem fC (S : List Blk) (L : List (Int × Blk)) : (flS S L).length = S.length := by
 unfold flS
 induction L generalizing S with
 | nil => rfl
 | cons q L ih => rw [List.foldl_cons, ih, List.length_set]
theorem flS_succ {S : List Blk} {L : List (Int × Blk)} {i : Nat} (hi : i < L.length) : flS S (L.take (i + 1)) = (flS S (L.take i)).set (L.getD i (0, ap)).1.toNat (L.getD i (0, ap)).2 := by
 rw [List.take_add_one, List.getD, List.getElem?_eq_getElem hi]
 simp only [flS, Option.toList_some, List.foldl_append, List.foldl_cons, List.foldl_nil, Option.getD_some]
def Fit (S : List Blk) (L : List (Int × Blk)) : Prop := ∀ q ∈ L, 0 ≤ q.1 ∧ q.1 < S.length
theorem Fit.at_ {S : List Blk} {L : List (Int × Blk)} (h : Fit S L) {i : Nat} (hi : i < L.length) : ∃ k : Nat, (L.getD i (0, ap)).1 = k ∧ k < S.length := by
 have := h _ (List.getElem_mem hi)
 refine ⟨(L.getD i (0, ap)).1.toNat, ?_, ?_⟩
 ·simp only [List.getD, List.getElem?_eq_getElem hi, Option.getD_some]; omega
 ·simp only [List.getD, List.getElem?_eq_getElem hi, Option.getD_some]; omega
def crI (S : List Blk) (L : List (Int × Blk)) (P : List Int) : Nat → List Blk
 | 0 => S
 | i + 1 => (crI S L P i).set (L.getD i (0, ap)).1.toNat (torn ((crI S L P i).getD (L.getD i (0, ap)).1.toNat ap) (L.getD i (0, ap)).2 (P.getD i 0))
theorem crI_len (S : List Blk) (L : List (Int × Blk)) (P : List Int) (i : Nat) : (crI S L P i).length = S.length := by
 induction i with
 | zero => rfl
 | succ i ih => rw [crI, List.length_set, ih]
theorem exec_ix0B {ρ : Operand → Value} {o : Oper} {x y : Operand} {w : World} {b n c j : Nat} (ho : o.op = .indexAddr 123 x y) (hx : ρ x = .slice (some ⟨b, 0, none⟩) n c) (hy : ρ y = .int .i64 (j : Int)) (hj : j < n) : (execOp ρ o).run Tryz.prog w = .ok (.value (.pointer (some ⟨b, j * 64, none⟩))) w := exec_index0 (E := BlkE) ho hx hy hj
def Grow (w : World) (F F' : Nat → Prop) : Prop := ∀ b, F' b → F b ∨ w.heap.size ≤ b
section
variable {w w' : World} {F G : Nat → Prop} {p : Nat} {S : List Blk} {L : List (Int × Blk)} {g : Bool}
theorem Grow.same (w : World) (F : Nat → Prop) : Grow w F F := fun _ h => .inl h
end
theorem Fit.nil (S : List Blk) : Fit S [] := fun q h => by cases h
theorem Fit.wr {S : List Blk} {L : List (Int × Blk)} (g : Bool) (n : Int) (b : Blk) (h : Fit S L) : Fit S (wrL S L g n b) := by
 unfold wrL
 split
 ·rename_i he
  rcases eD (S := S) (g := g) (n := n) with h1 | h1 | ⟨_, rfl, k, rfl, hk⟩
  ·omega
  ·omega
  ·intro q hq
   rcases List.mem_append.1 hq with hq | hq
   ·exact h q hq
   ·simp at hq; subst hq; exact ⟨by simp, by simpa using hk⟩
 ·exact h
structure Dev where
 Dv : World → (Nat → Prop) → Nat → List Blk → List (Int × Blk) → Bool → Prop
 lt : ∀ {w F p S L g}, Dv w F p S L g → ∀ b, F b → b < w.heap.size
 only : ∀ {w w' F G p S L g}, Dv w F p S L g → Only G w w' → (∀ b, F b → ¬ G b) → Dv w' F p S L g
 fit : ∀ {w F p S L g}, Dv w F p S L g → Fit S L ∧ 1 ≤ S.length
 cap : ∀ {w F p S L g}, Dv w F p S L g → S.length ≤ 512
 new_ok : ∀ (k : Nat) (w : World), 1 ≤ k → k ≤ 512 → Calls Tryz.prog 56 #[.int .i64 k] w fun e w' => ∃ p F, e = .returned (.tuple #[.pointer (some ⟨p, 0, none⟩), .int .i64 0]) ∧ Dv w' F p (List.replicate k ap) [] false ∧ Below w.heap.size w w' ∧ ∀ b, F b → w.heap.size ≤ b
 new_no : ∀ (n : Int) (w : World), ¬(1 ≤ n ∧ n ≤ 512) → Calls Tryz.prog 56 #[.int .i64 n] w fun e w' => e = .returned (.tuple #[.pointer none, .int .i64 2]) ∧ Below w.heap.size w w'
 read : ∀ {w F p S L g} (n : Int), Dv w F p S L g → Calls Tryz.prog 107 #[.pointer (some ⟨p, 0, none⟩), .int .i64 n] w fun e w' => e = .returned (.tuple #[blk (eR S L g n), .int .i64 (cR S g n)]) ∧ Below w.heap.size w w'
 sure : ∀ {w F p S L g} (n : Int), Dv w F p S L g → Calls Tryz.prog 18 #[.pointer (some ⟨p, 0, none⟩), .int .i64 n] w fun e w' => e = .returned (.tuple #[blk (sureB S g n), .int .i64 (cR S g n)]) ∧ Below w.heap.size w w'
 write : ∀ {w F p S L g} (n : Int) (b : Blk), L.length < 1000000 → Dv w F p S L g → Calls Tryz.prog 21 #[.pointer (some ⟨p, 0, none⟩), .int .i64 n, blk b] w fun e w' => e = .returned (.int .i64 (cR S g n)) ∧ ∃ F', Dv w' F' p S (wrL S L g n b) g ∧ Only F w w' ∧ Grow w F F'
 flush : ∀ {w F p S L g}, Dv w F p S L g → Calls Tryz.prog 161 #[.pointer (some ⟨p, 0, none⟩)] w fun e w' => e = .returned (.int .i64 (if g = true then 9 else 0)) ∧ ∃ F', Dv w' F' p (if g = true then S else flS S L) (if g = true then L else []) g ∧ Only F w w' ∧ Grow w F F'
 dead : ∀ {w F p S L g}, Dv w F p S L g → Calls Tryz.prog 160 #[.pointer (some ⟨p, 0, none⟩)] w fun e w' => e = .returned (.bool g) ∧ Below w.heap.size w w'
 fp : ∀ {w F p S L g}, Dv w F p S L g → Calls Tryz.prog 106 #[.pointer (some ⟨p, 0, none⟩)] w fun e w' => e = .returned (.int .i64 (S.length : Int)) ∧ Below w.heap.size w w'
theorem Grow.above {w : World} {F F' : Nat → Prop} {B : Nat} (h : Grow w F F') (hF : ∀ b, F b → B ≤ b) (hB : B ≤ w.heap.size) : ∀ b, F' b → B ≤ b := fun b hb => by
 rcases h b hb with e | e
 ·exact hF b e
 ·omega
structure DevS where
 S : List Blk
 L : List (Int × Blk)
 g : Bool
structure BenS where
 ds : List DevS
 left : Nat
 dark : Bool
 steps : Nat
def cJ : DevS := ⟨[], [], false⟩
def BenS.dev (M : BenS) (d : Int) : DevS := M.ds.getD d.toNat cJ
theorem BenS.dev_nat (M : BenS) (k : Nat) : M.dev (k : Int) = M.ds.getD k cJ := rfl
def dV (M : BenS) (d : Int) : Int := if 0 ≤ d ∧ d < M.ds.length then 0 else 2
def dF (M : BenS) (d : Int) : Int := if M.dark = true then 8 else dV M d
theorem e9 (M : BenS) (d : Int) : (dV M d = 2 ∧ ¬(0 ≤ d ∧ d < M.ds.length)) ∨ (dV M d = 0 ∧ ∃ k : Nat, d = k ∧ k < M.ds.length) := by
 unfold dV
 by_cases h : 0 ≤ d ∧ d < M.ds.length
 ·rw [if_pos h]; exact .inr ⟨rfl, d.toNat, by omega, by omega⟩
 ·rw [if_neg h]; exact .inl ⟨rfl, h⟩
theorem hasE_ok {M : BenS} {k : Nat} (h : k < M.ds.length) : dV M (k : Int) = 0 := by unfold dV; rw [if_pos (by omega)]
theorem litE_dark {M : BenS} {d : Int} (h : M.dark = true) : dF M d = 8 := by unfold dF; rw [if_pos h]
theorem litE_light {M : BenS} {d : Int} (h : M.dark = false) : dF M d = dV M d := by unfold dF; rw [if_neg (by rw [h]; decide)]
theorem dB (M : BenS) (d : Int) : (dF M d = 8 ∧ M.dark = true) ∨ (dF M d = 2 ∧ M.dark = false ∧ ¬(0 ≤ d ∧ d < M.ds.length)) ∨ (dF M d = 0 ∧ M.dark = false ∧ ∃ k : Nat, d = k ∧ k < M.ds.length) := by
 cases h : M.dark
 ·rw [litE_light h]
  rcases e9 M d with ⟨e, h1⟩ | ⟨e, h1⟩
  ·exact .inr (.inl ⟨e, rfl, h1⟩)
  ·exact .inr (.inr ⟨e, rfl, h1⟩)
 ·exact .inl ⟨litE_dark h, rfl⟩
theorem litE_ok {M : BenS} {k : Nat} (hd : M.dark = false) (h : k < M.ds.length) : dF M (k : Int) = 0 := by rw [litE_light hd, hasE_ok h]
def BenS.put (M : BenS) (k : Nat) (x : DevS) : BenS := { M with ds := M.ds.set k x }
def BenS.d6 (M : BenS) : Int := if M.left = 1 then 8 else 0
def BenS.done (M : BenS) : BenS := { M with left := M.left - 1, steps := M.steps + 1 }
def BenS.night (M : BenS) : BenS := { M with dark := true }
def bT (M : BenS) (d n : Int) : Int := if dF M d = 0 then cR (M.dev d).S (M.dev d).g n else dF M d
def cq (M : BenS) (d n : Int) : Blk := if dF M d = 0 then eR (M.dev d).S (M.dev d).L (M.dev d).g n else ap
def wrE6 (M : BenS) (d n : Int) : Int := if bT M d n = 0 then M.d6 else bT M d n
def dK (M : BenS) (d n : Int) (b : Blk) : BenS := if bT M d n = 0 then (if M.left = 1 then M.night else M.done.put d.toNat ⟨(M.dev d).S, wrL (M.dev d).S (M.dev d).L (M.dev d).g n b, (M.dev d).g⟩) else M
def flA6 (M : BenS) (d : Int) : Int := if dF M d = 0 then (if (M.dev d).g = true then 9 else 0) else dF M d
def flE6 (M : BenS) (d : Int) : Int := if flA6 M d = 0 then M.d6 else flA6 M d
def flS6 (M : BenS) (d : Int) : BenS := if flA6 M d = 0 then (if M.left = 1 then M.night else M.done.put d.toNat ⟨flS (M.dev d).S (M.dev d).L, [], (M.dev d).g⟩) else M
def bO (M : BenS) (d : Int) : Int := if dV M d = 0 then ((M.dev d).S.length : Int) else 0
def newS6 (ks : List Int) : BenS := ⟨ks.map fun k => ⟨List.replicate k.toNat ap, [], false⟩, 0, false, 0⟩
def newOk (ks : List Int) : Prop := 1 ≤ ks.length ∧ ks.length ≤ 17 ∧ ∀ k ∈ ks, 1 ≤ k ∧ k ≤ 512
def Room (M : BenS) (k : Nat) : Prop := M.steps + k ≤ 1000000 ∧ M.left < 9223372036854775808 ∧ ∀ d ∈ M.ds, d.L.length + k ≤ 1000000
theorem getD_mem {α : Type} {l : List α} {k : Nat} {x : α} (h : k < l.length) : l.getD k x ∈ l := by
 rw [List.getD_eq_getElem?_getD, List.getElem?_eq_getElem h]; exact List.getElem_mem h
theorem Room.less {M : BenS} {k : Nat} (h : Room M (k + 1)) : Room M k := ⟨by have := h.1; omega, h.2.1, fun d hd => by have := h.2.2 d hd; omega⟩
theorem Room.at_ {M : BenS} {k i : Nat} (h : Room M (k + 1)) (hi : i < M.ds.length) : (M.ds.getD i cJ).L.length < 1000000 := by have := h.2.2 _ (getD_mem (x := cJ) hi); omega
theorem mem_set_or {α : Type} {l : List α} {k : Nat} {x y : α} (h : y ∈ l.set k x) : y ∈ l ∨ y = x := by
 rcases List.mem_or_eq_of_mem_set h with h | h
 ·exact .inl h
 ·exact .inr h
theorem Room.put {M : BenS} {k i : Nat} {x : DevS} (h : Room M k) (hx : x.L.length + k ≤ 1000000) : Room (M.put i x) k :=
 ⟨h.1, h.2.1, fun d hd => by
  rcases mem_set_or hd with e | e
  ·exact h.2.2 d e
  ·subst e; exact hx⟩
theorem Room.done {M : BenS} {k : Nat} (h : Room M (k + 1)) : Room M.done k := ⟨by have := h.1; show M.steps + 1 + k ≤ _; omega, by have := h.2.1; show M.left - 1 < _; omega, fun d hd => by have := h.2.2 d hd; omega⟩
theorem room_new {ks : List Int} {k : Nat} (hk : k ≤ 1000000) : Room (newS6 ks) k :=
 ⟨by show 0 + k ≤ _; omega, by show 0 < _; omega, fun d hd => by
  obtain ⟨x, _, rfl⟩ := List.mem_map.1 hd
  show 0 + k ≤ _
  omega⟩
theorem wrL_le (S : List Blk) (L : List (Int × Blk)) (g : Bool) (n : Int) (b : Blk) : (wrL S L g n b).length ≤ L.length + 1 := by
 unfold wrL; split
 ·simp
 ·omega
theorem room_wr {M : BenS} {k : Nat} (h : Room M (k + 1)) (d n : Int) (b : Blk) : Room (dK M d n b) k := by
 unfold dK
 split
 ·rename_i he
  split
  ·exact h.less
  ·have hh : ∃ i : Nat, d = i ∧ i < M.ds.length := by
    rcases dB M d with ⟨e, _⟩ | ⟨e, _⟩ | ⟨e, _, h⟩
    ·unfold bT at he; rw [if_neg (by omega)] at he; omega
    ·unfold bT at he; rw [if_neg (by omega)] at he; omega
    ·exact h
   obtain ⟨i, rfl, hi⟩ := hh
   refine (h.done).put ?_
   have h1 := wrL_le (M.dev (i : Int)).S (M.dev (i : Int)).L (M.dev (i : Int)).g n b
   have h2 := h.2.2 _ (getD_mem (x := cJ) hi)
   have h3 : (M.dev (i : Int)).L.length + (k + 1) ≤ 1000000 := h2
   show (wrL _ _ _ _ _).length + k ≤ _
   omega
 ·exact h.less
theorem room_fl {M : BenS} {k : Nat} (h : Room M (k + 1)) (d : Int) : Room (flS6 M d) k := by
 unfold flS6
 split
 ·split
  ·exact h.less
  ·exact (h.done).put (by have := h.1; show 0 + k ≤ _; omega)
 ·exact h.less
structure DvK where
 Dv : World → (Nat → Prop) → Nat → List Blk → List (Int × Blk) → Bool → Prop
 lt : ∀ {w F p S L g}, Dv w F p S L g → ∀ b, F b → b < w.heap.size
 only : ∀ {w w' F G p S L g}, Dv w F p S L g → Only G w w' → (∀ b, F b → ¬ G b) → Dv w' F p S L g
structure Devs (K : DvK) (w : World) (Fs : Nat → Nat → Prop) (ps : List Nat) (ds : List DevS) : Prop where
 len : ps.length = ds.length
 at_ : ∀ i, i < ds.length → K.Dv w (Fs i) (ps.getD i 0) (ds.getD i cJ).S (ds.getD i cJ).L (ds.getD i cJ).g
 off : ∀ i j, i < ds.length → j < ds.length → i ≠ j → ∀ b, Fs i b → ¬ Fs j b
def upF (Fs : Nat → Nat → Prop) (k : Nat) (F' : Nat → Prop) : Nat → Nat → Prop := fun i b => (i = k ∧ F' b) ∨ (i ≠ k ∧ Fs i b)
theorem upF_at (Fs : Nat → Nat → Prop) (k : Nat) (F' : Nat → Prop) : upF Fs k F' k = F' := by
 funext b; simp [upF]
theorem upF_off (Fs : Nat → Nat → Prop) {k i : Nat} (F' : Nat → Prop) (h : i ≠ k) : upF Fs k F' i = Fs i := by
 funext b; simp [upF, h]
theorem dd {α : Type} {l : List α} {k : Nat} {x d : α} (h : k < l.length) : (l.set k x).getD k d = x := by simp [List.getD, h]
theorem bN {α : Type} {l : List α} {k i : Nat} {x d : α} (h : i ≠ k) : (l.set k x).getD i d = l.getD i d := by simp [List.getD, List.getElem?_set_ne (Ne.symm h)]
section
variable {K : DvK} {w w' : World} {Fs : Nat → Nat → Prop} {ps : List Nat} {ds : List DevS} {G F' : Nat → Prop} {k : Nat}
theorem Devs.lt (h : Devs K w Fs ps ds) : ∀ i, i < ds.length → ∀ b, Fs i b → b < w.heap.size := fun i hi b hb => K.lt (h.at_ i hi) b hb
theorem Devs.only (h : Devs K w Fs ps ds) (k : Only G w w') (hn : ∀ i, i < ds.length → ∀ b, Fs i b → ¬ G b) : Devs K w' Fs ps ds :=
 ⟨h.len, fun i hi => K.only (h.at_ i hi) k (hn i hi), h.off⟩
theorem Devs.set (h : Devs K w Fs ps ds) (hk : k < ds.length) (ho : Only G w w') (hG : ∀ i, i < ds.length → i ≠ k → ∀ b, Fs i b → ¬ G b) (hg : Grow w (Fs k) F') {p : Nat} {d : DevS} (hd : K.Dv w' F' p d.S d.L d.g) : Devs K w' (upF Fs k F') (ps.set k p) (ds.set k d) := by
 have hnew : ∀ i, i < ds.length → i ≠ k → ∀ b, F' b → ¬ Fs i b := fun i hi hik b hb hf => by
  rcases hg b hb with e | e
  ·exact h.off k i hk hi (Ne.symm hik) b e hf
  ·have := h.lt i hi b hf; omega
 refine ⟨by rw [List.length_set, List.length_set]; exact h.len, fun i hi => ?_, fun i j hi hj hij b hb => ?_⟩
 ·rw [List.length_set] at hi
  by_cases e : i = k
  ·subst e
   rw [upF_at, dd hk, dd (by rw [h.len]; exact hk)]
   exact hd
  ·rw [upF_off _ _ e, bN e, bN e]
   exact K.only (h.at_ i hi) ho (hG i hi e)
 ·rw [List.length_set] at hi hj
  by_cases e : i = k
  ·subst e
   rw [upF_at] at hb
   rw [upF_off _ _ (Ne.symm hij)]
   exact hnew j hj (Ne.symm hij) b hb
  ·rw [upF_off _ _ e] at hb
   by_cases e' : j = k
   ·subst e'
    rw [upF_at]
    exact fun hf => hnew i hi e b hf hb
   ·rw [upF_off _ _ e']
    exact h.off i j hi hj hij b hb
theorem set_self {α : Type} {l : List α} {k : Nat} {d : α} (h : k < l.length) : l.set k (l.getD k d) = l := by
 rw [List.getD_eq_getElem?_getD, List.getElem?_eq_getElem h]
 exact List.set_getElem_self h
theorem Devs.turn (h : Devs K w Fs ps ds) (hk : k < ds.length) (ho : Only (Fs k) w w') (hg : Grow w (Fs k) F') {d : DevS} (hd : K.Dv w' F' (ps.getD k 0) d.S d.L d.g) : Devs K w' (upF Fs k F') ps (ds.set k d) := by
 have := h.set hk ho (fun i hi hik b hb hf => h.off i k hi hk hik b hb hf) hg hd
 rwa [set_self (by rw [h.len]; exact hk)] at this
theorem Devs.push (h : Devs K w Fs ps ds) (hb : Below w.heap.size w w') {p : Nat} {d : DevS} (hF : ∀ b, F' b → w.heap.size ≤ b) (hd : K.Dv w' F' p d.S d.L d.g) : Devs K w' (upF Fs ds.length F') (ps ++ [p]) (ds ++ [d]) := by
 have hlen := h.len
 refine ⟨by simp [h.len], fun i hi => ?_, fun i j hi hj hij b hb' => ?_⟩
 ·rw [List.length_append, List.length_singleton] at hi
  by_cases e : i = ds.length
  ·subst e
   rw [upF_at]
   have e1 : (ps ++ [p]).getD ds.length 0 = p := by simp [List.getD, ← hlen]
   have e2 : (ds ++ [d]).getD ds.length cJ = d := by simp [List.getD]
   rw [e1, e2]
   exact hd
  ·have hi' : i < ds.length := by omega
   rw [upF_off _ _ e]
   have e1 : (ps ++ [p]).getD i 0 = ps.getD i 0 := by simp [List.getD, List.getElem?_append_left (show i < ps.length by omega)]
   have e2 : (ds ++ [d]).getD i cJ = ds.getD i cJ := by simp [List.getD, List.getElem?_append_left hi']
   rw [e1, e2]
   exact K.only (h.at_ i hi') (Only.of_below (fun _ => False) hb) fun _ _ e => e
 ·rw [List.length_append, List.length_singleton] at hi hj
  by_cases e : i = ds.length
  ·subst e
   rw [upF_at] at hb'
   rw [upF_off _ _ (Ne.symm hij)]
   intro hf
   have := h.lt j (by omega) b hf
   have := hF b hb'
   omega
  ·rw [upF_off _ _ e] at hb'
   have := h.lt i (by omega) b hb'
   by_cases e' : j = ds.length
   ·subst e'
    rw [upF_at]
    intro hf
    have := hF b hf
    omega
   ·rw [upF_off _ _ e']
    exact h.off i j (by omega) (by omega) hij b hb'
end
theorem byts_succ {l : List Blk} {k : Nat} (h : k < l.length) : bJ (l.take (k + 1)) = bJ (l.take k) ++ (l.getD k ap).toList := by
 rw [List.take_succ_eq_append_getElem h, eU, List.getD, List.getElem?_eq_getElem h]
 simp [bJ]
def sumB (l : List Blk) : Nat := more 0 (bJ l)
theorem sumB_lt (l : List Blk) : sumB l < 4294967296 := more_lt (by omega) _
theorem sumB_succ {l : List Blk} {k : Nat} (h : k < l.length) : sumB (l.take (k + 1)) = more (sumB (l.take k)) (l.getD k ap).toList := by
 unfold sumB
 rw [byts_succ h, more_append]
inductive Stp where
 | wr (n : Int) (b : Blk)
 | fl
def stpE (d : Int) (M : BenS) : Stp → Int
 | .wr n _ => wrE6 M d n
 | .fl => flE6 M d
def stpS (d : Int) (M : BenS) : Stp → BenS
 | .wr n b => dK M d n b
 | .fl => flS6 M d
def goE (d : Int) : BenS → List Stp → Int
 | _, [] => 0
 | M, s :: l => if stpE d M s = 0 then goE d (stpS d M s) l else stpE d M s
def goB (d : Int) : BenS → List Stp → BenS
 | M, [] => M
 | M, s :: l => if stpE d M s = 0 then goB d (stpS d M s) l else stpS d M s
theorem go_ok {d : Int} {M : BenS} {s : Stp} {l : List Stp} (h : stpE d M s = 0) : goE d M (s :: l) = goE d (stpS d M s) l ∧ goB d M (s :: l) = goB d (stpS d M s) l := ⟨if_pos h, if_pos h⟩
theorem go_no {d : Int} {M : BenS} {s : Stp} {l : List Stp} (h : stpE d M s ≠ 0) : goE d M (s :: l) = stpE d M s ∧ goB d M (s :: l) = stpS d M s := ⟨if_neg h, if_neg h⟩
structure LgS where
 d : Nat
 own : Nat
 size : Nat
 cnt : Nat
 fst : Nat
 pos : Nat
 nts : List Nte
def usd (l : List Nte) : Nat := (l.map bc).sum
theorem usd_nil : usd [] = 0 := rfl
theorem usd_cons (n : Nte) (l : List Nte) : usd (n :: l) = bc n + usd l := by simp [usd]
theorem fW (a b : List Nte) : usd (a ++ b) = usd a + usd b := by simp [usd]
theorem fL (l : List Nte) (k : Nat) : usd l = usd (l.take k) + usd (l.drop k) := by rw [← fW, List.take_append_drop]
theorem fu {l : List Nte} {i : Nat} (h : i < l.length) : usd (l.take (i + 1)) = usd (l.take i) + bc (l.getD i aM) := by
 rw [List.take_add_one, List.getElem?_eq_getElem h, List.getD, List.getElem?_eq_getElem h, fW]
 simp [usd]
def LgS.used (x : LgS) : Nat := usd x.nts
def LgS.next (x : LgS) : Nat := x.fst + x.nts.length
def LgS.head (x : LgS) : Nat := x.pos + x.used
def LgS.free (x : LgS) : Nat := x.size - x.used
def bK (r p : Nat) : Int := ((10 + p % r : Nat) : Int)
def cp (q : Nat) : Int := ((2 + q % 8 : Nat) : Int)
def eJ (c : Nat) : Int := ((c % 2 : Nat) : Int)
def mkT (own size c f a : Nat) : List Stp := [.wr (eJ c) (aN.pB ⟨c, ⟨own, (size : Int), f, a⟩⟩), .fl]
def layQ (M : BenS) (d : Int) (id : Nat) (r : Int) : Bool := decide (dV M d = 0 ∧ id ≠ 0 ∧ 40 ≤ r ∧ r ≤ 256 ∧ 10 + r ≤ bO M d)
def zerT : List Stp := (List.range 10).map fun i => .wr (i : Nat) ap
def layT (id : Nat) (r : Int) : List Stp := zerT ++ (.fl :: mkT id r.toNat 1 1 0)
def layE (M : BenS) (d : Int) (id : Nat) (r : Int) : Int := if layQ M d id r = true then goE d M (layT id r) else 2
def layB (M : BenS) (d : Int) (id : Nat) (r : Int) : BenS := if layQ M d id r = true then goB d M (layT id r) else M
def layX (d : Int) (id : Nat) (r : Int) : LgS := ⟨d.toNat, id, r.toNat, 1, 1, 0, []⟩
def opnQ (M : BenS) (d : Int) : Bool := decide (dV M d = 0 ∧ 50 ≤ bO M d)
def cZ (M : BenS) (d : Int) : Mk := aN.nX (cq M d 0) (cq M d 1)
def opnX (M : BenS) (d : Int) : LgS := ⟨d.toNat, (cZ M d).m.id, (cZ M d).m.ring.toNat, (cZ M d).n, (cZ M d).m.first, (cZ M d).m.pos, []⟩
def opnF (M : BenS) (d : Int) : Bool := decide (aN.nE (cq M d 0) (cq M d 1) = 0 ∧ (cZ M d).m.ring ≤ bO M d - 10 ∧ (cZ M d).n ≤ 2305843009213693952 ∧ (cZ M d).m.first ≤ 2305843009213693952 ∧ (cZ M d).m.pos ≤ 2305843009213693952)
def nxtQ (x : LgS) (z : Blk) : Bool := decide (aL.gE z = 0 ∧ (aL.gX z).seq = x.next ∧ (aL.gX z).pos = x.head ∧ bc (aL.gX z) ≤ x.free)
def LgS.with_ (x : LgS) (n : Nte) : LgS := { x with nts := x.nts ++ [n] }
def opnN (M : BenS) : Nat → LgS → LgS
 | 0, x => x
 | k + 1, x => if nxtQ x (cq M x.d (cp x.next)) = true then opnN M k (x.with_ (aL.gX (cq M x.d (cp x.next)))) else x
def dI (M : BenS) (d : Int) : Int := if opnQ M d = true then (if bT M d 0 = 0 then (if opnF M d = true then 0 else 5) else bT M d 0) else 2
def opnL (M : BenS) (d : Int) : LgS := opnN M 8 (opnX M d)
def dh (x : LgS) (cs : List Cl) : Nte := ⟨x.next, x.head, (cs.length : Int), sumB (bS cs)⟩
def appQ (x : LgS) (cs : List Cl) : Int := if recE cs ≠ 0 then recE cs else if 8 ≤ x.nts.length ∨ x.free < (bS cs).length then 10 else 0
def recT (r p : Nat) (l : List Blk) : List Stp := (List.range l.length).map fun i => .wr (bK r (p + i)) (l.getD i ap)
def appT (x : LgS) (cs : List Cl) : List Stp := recT x.size x.head (bS cs) ++ [.fl, .wr (cp x.next) (aL.pB (dh x cs)), .fl]
def appE (M : BenS) (x : LgS) (cs : List Cl) : Int := if appQ x cs = 0 then goE x.d M (appT x cs) else appQ x cs
def appB (M : BenS) (x : LgS) (cs : List Cl) : BenS := if appQ x cs = 0 then goB x.d M (appT x cs) else M
def appN (M : BenS) (x : LgS) (cs : List Cl) : Nat := if appE M x cs = 0 then x.next else 0
def appX (M : BenS) (x : LgS) (cs : List Cl) : LgS := if appE M x cs = 0 then x.with_ (dh x cs) else x
def livQ (x : LgS) (q : Nat) : Bool := decide (x.fst ≤ q ∧ q < x.next)
def LgS.note (x : LgS) (q : Nat) : Nte := x.nts.getD (q - x.fst) aM
def rcdL (M : BenS) (x : LgS) (n : Nte) : List Blk := (List.range (bc n)).map fun i => cq M x.d (bK x.size (n.pos + i))
def rcdF (l : List Blk) (n : Nte) : Int := if sumB l = n.sum then rgE l n.cells else 6
def rcdE (M : BenS) (x : LgS) (q : Nat) : Int := if livQ x q = true then (if bT M x.d (bK x.size (x.note q).pos) = 0 then rcdF (rcdL M x (x.note q)) (x.note q) else bT M x.d (bK x.size (x.note q).pos)) else 7
def rcdC (M : BenS) (x : LgS) (q : Nat) : List Cl := if rcdE M x q = 0 then rgC (rcdL M x (x.note q)) (x.note q).cells else []
def clrQ (x : LgS) (f : Nat) : Bool := decide (x.fst ≤ f ∧ f ≤ x.next)
def LgS.at_ (x : LgS) (f : Nat) : Nat := x.pos + usd (x.nts.take (f - x.fst))
def clrE (M : BenS) (x : LgS) (f : Nat) : Int := if clrQ x f = true then goE x.d M (mkT x.own x.size (x.cnt + 1) f (x.at_ f)) else 2
def clrB (M : BenS) (x : LgS) (f : Nat) : BenS := if clrQ x f = true then goB x.d M (mkT x.own x.size (x.cnt + 1) f (x.at_ f)) else M
def LgS.cut (x : LgS) (f : Nat) : LgS := ⟨x.d, x.own, x.size, x.cnt + 1, f, x.at_ f, x.nts.drop (f - x.fst)⟩
def clrX (M : BenS) (x : LgS) (f : Nat) : LgS := if clrE M x f = 0 then x.cut f else x
section
variable {x : LgS} {f : Nat} {n : Nte}
theorem with_next : (x.with_ n).next = x.next + 1 := by unfold LgS.with_ LgS.next; simp; omega
theorem with_used : (x.with_ n).used = x.used + bc n := by unfold LgS.with_ LgS.used; simp [fW, usd_cons, usd_nil]
theorem with_head : (x.with_ n).head = x.head + bc n := by unfold LgS.head; rw [with_used]; show x.pos + _ = _; omega
theorem of_clrQ (h : clrQ x f = true) : x.fst ≤ f ∧ f ≤ x.next := of_decide_eq_true h
theorem cut_next (h : clrQ x f = true) : (x.cut f).next = x.next := by
 have := of_clrQ h
 unfold LgS.next at *
 unfold LgS.cut
 simp only [List.length_drop]
 omega
theorem cut_head (h : clrQ x f = true) : (x.cut f).head = x.head := by
 unfold LgS.head LgS.used LgS.cut LgS.at_
 simp only
 have := fL x.nts (f - x.fst)
 omega
theorem cut_used (h : clrQ x f = true) : (x.cut f).used ≤ x.used := by
 unfold LgS.used LgS.cut
 simp only
 have := fL x.nts (f - x.fst)
 omega
end
def aY : Elt Nte where
 s := 78
 t := 35
 n := 4
 by_ := 32
 cel := aQ
 d := aM
 z := nte aM
 pos := by omega
 small := by omega
 len := celNt_length
 one := celNt_one
 und := Tryz.underlying78
 info := by kernel_rfl
 zc := by show (Value.cells (.agg _)).size = 4; simp [Value.cells, aQ]
def Shp (M M' : BenS) : Prop := M'.ds.length = M.ds.length ∧ ∀ i, (M'.ds.getD i cJ).S.length = (M.ds.getD i cJ).S.length
theorem Shp.refl (M : BenS) : Shp M M := ⟨rfl, fun _ => rfl⟩
theorem Shp.trans {M M' M'' : BenS} (h : Shp M M') (k : Shp M' M'') : Shp M M'' := ⟨k.1.trans h.1, fun i => (k.2 i).trans (h.2 i)⟩
theorem Shp.put {M M' : BenS} {k : Nat} {d : DevS} (h : Shp M M') (hd : d.S.length = (M'.ds.getD k cJ).S.length) : Shp M (M'.put k d) := by
 refine ⟨by show (M'.ds.set k d).length = _; rw [List.length_set]; exact h.1, fun i => ?_⟩
 show ((M'.ds.set k d).getD i cJ).S.length = _
 by_cases e : i = k
 ·subst e
  by_cases hl : i < M'.ds.length
  ·rw [dd hl, hd]; exact h.2 i
  ·rw [show M'.ds.set i d = M'.ds from List.set_eq_of_length_le (by omega)]; exact h.2 i
 ·rw [bN e]; exact h.2 i
theorem dev_getD (M : BenS) (d : Int) : (M.dev d) = M.ds.getD d.toNat cJ := rfl
theorem shp_wr (M : BenS) (d n : Int) (b : Blk) : Shp M (dK M d n b) := by
 unfold dK
 split
 ·split
  ·exact Shp.refl M
  ·exact Shp.put (M' := M.done) (Shp.refl M) rfl
 ·exact Shp.refl M
theorem shp_fl (M : BenS) (d : Int) : Shp M (flS6 M d) := by
 unfold flS6
 split
 ·split
  ·exact Shp.refl M
  ·exact Shp.put (M' := M.done) (Shp.refl M) (fC _ _)
 ·exact Shp.refl M
theorem shp_stp (d : Int) (M : BenS) (s : Stp) : Shp M (stpS d M s) := by
 cases s with
 | wr n b => exact shp_wr M d n b
 | fl => exact shp_fl M d
theorem shp_go (d : Int) (l : List Stp) : ∀ M, Shp M (goB d M l) := by
 induction l with
 | nil => intro M; exact Shp.refl M
 | cons s l ih =>
  intro M
  by_cases h : stpE d M s = 0
  ·rw [(go_ok h).2]; exact (shp_stp d M s).trans (ih _)
  ·rw [(go_no h).2]; exact shp_stp d M s
theorem rd_same {M : BenS} {k : Nat} {m n : Int} (hm : 0 ≤ m ∧ m < (M.ds.getD k cJ).S.length) (hn : 0 ≤ n ∧ n < (M.ds.getD k cJ).S.length) : bT M (k : Int) m = bT M (k : Int) n := by
 unfold bT
 rw [BenS.dev_nat]
 unfold cR
 rw [if_pos hm, if_pos hn]
structure LgOk (M : BenS) (x : LgS) (N : Nat) : Prop where
 dev : x.d < M.ds.length
 len : 10 + x.size ≤ (M.ds.getD x.d cJ).S.length
 siz : 40 ≤ x.size ∧ x.size ≤ 256
 own : x.own < 18446744073709551616
 use : x.used ≤ x.size
 eig : x.nts.length ≤ 8
 lim : N ≤ 1000000
 cnt : x.cnt ≤ 2305843009213693952 + N
 nxt : x.next ≤ 2305843009213693960 + N
 hed : x.head ≤ 2305843009213694208 + 40 * N
 nts : ∀ i, i < x.nts.length → 1 ≤ (x.nts.getD i aM).cells ∧ (x.nts.getD i aM).cells ≤ 32 ∧ (x.nts.getD i aM).pos = x.pos + usd (x.nts.take i) ∧ (x.nts.getD i aM).fit
section
variable {M M' : BenS} {x : LgS} {N N' : Nat} {cs : List Cl} {f : Nat} {n : Nte}
theorem LgOk.shp (h : LgOk M x N) (k : Shp M M') : LgOk M' x N := ⟨by rw [k.1]; exact h.dev, by rw [k.2]; exact h.len, h.siz, h.own, h.use, h.eig, h.lim, h.cnt, h.nxt, h.hed, h.nts⟩
theorem LgOk.with_ (h : LgOk M x N) (h8 : x.nts.length < 8) (hc : 1 ≤ n.cells ∧ n.cells ≤ 32) (hp : n.pos = x.head) (hf : n.fit) (ht : bc n ≤ x.free) (hN : N' ≤ 1000000) (h1 : x.next + 1 ≤ 2305843009213693960 + N') (h2 : x.head + bc n ≤ 2305843009213694208 + 40 * N') (h3 : x.cnt ≤ 2305843009213693952 + N') : LgOk M (x.with_ n) N' := by
 have hu := h.use
 have hfr : x.free = x.size - x.used := rfl
 refine ⟨h.dev, h.len, h.siz, h.own, by rw [with_used]; show _ ≤ x.size; omega, by show (x.nts ++ [n]).length ≤ 8; rw [List.length_append, List.length_singleton]; omega, hN, h3, by rw [with_next]; exact h1, by rw [with_head]; exact h2, fun i hi => ?_⟩
 have hi' : i < x.nts.length + 1 := by have : i < (x.nts ++ [n]).length := hi; rwa [List.length_append, List.length_singleton] at this
 show 1 ≤ ((x.nts ++ [n]).getD i aM).cells ∧ ((x.nts ++ [n]).getD i aM).cells ≤ 32 ∧ ((x.nts ++ [n]).getD i aM).pos = x.pos + usd ((x.nts ++ [n]).take i) ∧ ((x.nts ++ [n]).getD i aM).fit
 by_cases e : i = x.nts.length
 ·subst e
  have e1 : (x.nts ++ [n]).getD x.nts.length aM = n := by simp [List.getD]
  rw [e1, List.take_append_of_le_length (Nat.le_refl _), List.take_length]
  exact ⟨hc.1, hc.2, hp, hf⟩
 ·have hlt : i < x.nts.length := by omega
  have e1 : (x.nts ++ [n]).getD i aM = x.nts.getD i aM := by simp [List.getD, List.getElem?_append_left hlt]
  rw [e1, List.take_append_of_le_length (by omega)]
  exact h.nts i hlt
theorem LgOk.app (h : LgOk M x N) (hq : appQ x cs = 0) (hN : N + 1 ≤ 1000000) : LgOk M (x.with_ (dh x cs)) (N + 1) := by
 have hq' : recE cs = 0 ∧ x.nts.length < 8 ∧ (bS cs).length ≤ x.free := by
  unfold appQ at hq
  by_cases h1 : recE cs = 0
  ·rw [if_neg (by omega)] at hq
   by_cases h2 : 8 ≤ x.nts.length ∨ x.free < (bS cs).length
   ·rw [if_pos h2] at hq; cases hq
   ·exact ⟨h1, by omega, by omega⟩
  ·rw [if_pos h1] at hq; omega
 obtain ⟨q1, q2, q3⟩ := hq'
 obtain ⟨r1, r2, _⟩ := of_recE q1
 have ht : bc (dh x cs) = (bS cs).length := by unfold bc dh; rw [ca]; simp
 have hl := ca cs
 have hh : hd cs.length ≤ 2 := by unfold hd; omega
 have hx := h.nxt
 have hd := h.hed
 have hc := h.cnt
 have hs := sumB_lt (bS cs)
 exact h.with_ q2 ⟨by show (1 : Int) ≤ (cs.length : Int); omega, by show (cs.length : Int) ≤ 32; omega⟩ rfl ⟨by show x.next < _; omega, by show x.head < _; omega, hs⟩ (by rw [ht]; exact q3) hN (by omega) (by rw [ht]; omega) (by omega)
theorem LgOk.cut (h : LgOk M x N) (hq : clrQ x f = true) (hN : N + 1 ≤ 1000000) : LgOk M (x.cut f) (N + 1) := by
 obtain ⟨f1, f2⟩ := of_clrQ hq
 have hx := h.nxt
 have hd := h.hed
 have hc := h.cnt
 have he := h.eig
 have husd : ∀ g i, usd (x.nts.take (g + i)) = usd (x.nts.take g) + usd ((x.nts.drop g).take i) := fun g i => by rw [List.take_add, fW]
 refine ⟨h.dev, h.len, h.siz, h.own, Nat.le_trans (cut_used hq) h.use, by show (x.nts.drop _).length ≤ 8; rw [List.length_drop]; omega, hN, by show x.cnt + 1 ≤ _; omega, by rw [cut_next hq]; omega, by rw [cut_head hq]; omega, fun i hi => ?_⟩
 have hi' : i < (x.nts.drop (f - x.fst)).length := hi
 rw [List.length_drop] at hi'
 obtain ⟨n1, n2, n3, n4⟩ := h.nts (f - x.fst + i) (by omega)
 have e1 : (x.nts.drop (f - x.fst)).getD i aM = x.nts.getD (f - x.fst + i) aM := by simp [List.getD, List.getElem?_drop]
 show 1 ≤ ((x.nts.drop (f - x.fst)).getD i aM).cells ∧ ((x.nts.drop (f - x.fst)).getD i aM).cells ≤ 32 ∧ ((x.nts.drop (f - x.fst)).getD i aM).pos = x.at_ f + usd ((x.nts.drop (f - x.fst)).take i) ∧ ((x.nts.drop (f - x.fst)).getD i aM).fit
 rw [e1]
 refine ⟨n1, n2, ?_, n4⟩
 rw [n3, husd]
 unfold LgS.at_
 omega
theorem LgOk.tak (h : LgOk M x N) {i : Nat} (hi : i < x.nts.length) : 2 ≤ bc (x.nts.getD i aM) ∧ bc (x.nts.getD i aM) ≤ 34 := by
 obtain ⟨n1, n2, _⟩ := h.nts i hi
 unfold bc hd
 omega
theorem LgOk.end_ (h : LgOk M x N) {i : Nat} (hi : i < x.nts.length) : usd (x.nts.take i) + bc (x.nts.getD i aM) ≤ x.used := by
 have h1 := fu hi
 have h2 := fL x.nts (i + 1)
 unfold LgS.used
 omega
end
theorem lay_ok {M : BenS} {d : Int} {id : Nat} {r : Int} (hid : id < 18446744073709551616) (h : layQ M d id r = true) : LgOk M (layX d id r) 0 := by
 obtain ⟨h1, h2, h3, h4, h5⟩ : dV M d = 0 ∧ id ≠ 0 ∧ 40 ≤ r ∧ r ≤ 256 ∧ 10 + r ≤ bO M d := of_decide_eq_true h
 unfold bO at h5
 rw [if_pos h1, dev_getD] at h5
 rcases e9 M d with ⟨e, _⟩ | ⟨_, k, rfl, hk⟩
 ·omega
 ·rw [Int.toNat_natCast] at h5
  refine ⟨by show (k : Int).toNat < _; rw [Int.toNat_natCast]; exact hk, by show 10 + r.toNat ≤ (M.ds.getD (k : Int).toNat cJ).S.length; rw [Int.toNat_natCast]; omega, by show 40 ≤ r.toNat ∧ r.toNat ≤ 256; omega, hid, Nat.zero_le _, Nat.zero_le _, by omega, by show 1 ≤ _; omega, by show 1 + 0 ≤ _; omega, by show 0 + 0 ≤ _; omega, fun i hi => absurd hi (by show ¬ i < 0; omega)⟩
theorem opn_base {M : BenS} {d : Int} (h : dI M d = 0) : opnQ M d = true ∧ bT M d 0 = 0 ∧ opnF M d = true := by
 unfold dI at h
 by_cases h1 : opnQ M d = true
 ·rw [if_pos h1] at h
  by_cases h2 : bT M d 0 = 0
  ·rw [if_pos h2] at h
   by_cases h3 : opnF M d = true
   ·exact ⟨h1, h2, h3⟩
   ·rw [if_neg h3] at h; cases h
  ·rw [if_neg h2] at h; exact absurd h h2
 ·rw [if_neg h1] at h; cases h
theorem opn_ok0 {M : BenS} {d : Int} (h : dI M d = 0) : LgOk M (opnX M d) 0 := by
 obtain ⟨h1, h2, h3⟩ := opn_base h
 obtain ⟨a1, a2⟩ : dV M d = 0 ∧ 50 ≤ bO M d := of_decide_eq_true h1
 obtain ⟨b1, b2, b3, b4, b5⟩ : aN.nE (cq M d 0) (cq M d 1) = 0 ∧ (cZ M d).m.ring ≤ bO M d - 10 ∧ (cZ M d).n ≤ 2305843009213693952 ∧ (cZ M d).m.first ≤ 2305843009213693952 ∧ (cZ M d).m.pos ≤ 2305843009213693952 := of_decide_eq_true h3
 have hm : aN.may (cZ M d) = true ∧ aN.fits (cZ M d) := by
  unfold cZ Cod.nX
  unfold Cod.nE at b1
  split
  ·rename_i hlt
   have : aN.gE (cq M d 1) = 0 := by
    by_cases e : aN.gE (cq M d 1) = 0
    ·exact e
    ·have := aN.gN_no e; omega
   exact ⟨aN.gX_may this, aN.gX_fits _⟩
  ·rename_i hlt
   have : aN.gE (cq M d 0) = 0 := by
    by_cases e : aN.gE (cq M d 0) = 0
    ·exact e
    ·have h0 := aN.gN_no e
     rw [if_pos ⟨h0, by omega⟩] at b1
     omega
   exact ⟨aN.gX_may this, aN.gX_fits _⟩
 obtain ⟨m1, m2⟩ := hm
 obtain ⟨⟨n, m⟩, hy⟩ : ∃ y, cZ M d = y := ⟨_, rfl⟩
 rw [hy] at m1 m2 b2 b3 b4 b5
 rw [dM, Bool.and_eq_true] at m1
 obtain ⟨_, r1, r2, _, _, _⟩ := of_mrkB m1.2
 simp only at b2 b3 b4 b5 r1 r2
 unfold bO at a2 b2
 rw [if_pos a1, dev_getD] at a2 b2
 have hX : opnX M d = ⟨d.toNat, m.id, m.ring.toNat, n, m.first, m.pos, []⟩ := by unfold opnX; rw [hy]
 rw [hX]
 rcases e9 M d with ⟨e, _⟩ | ⟨_, k, rfl, hk⟩
 ·omega
 ·rw [Int.toNat_natCast] at *
  exact ⟨hk, by show 10 + m.ring.toNat ≤ (M.ds.getD k cJ).S.length; omega, by show 40 ≤ m.ring.toNat ∧ m.ring.toNat ≤ 256; omega, m2.2.1, Nat.zero_le _, Nat.zero_le _, by omega, by show n ≤ _; omega, by show m.first + 0 ≤ _; omega, by show m.pos + 0 ≤ _; omega, fun i hi => absurd hi (by show ¬ i < 0; omega)⟩
theorem opn_okN {M : BenS} : ∀ (k : Nat) (x : LgS), LgOk M x 0 → x.nts.length + k ≤ 8 → x.fst ≤ 2305843009213693952 → x.pos ≤ 2305843009213693952 → LgOk M (opnN M k x) 0
 | 0, x, h, _, _, _ => h
 | k + 1, x, h, hl, hf, hp => by
  unfold opnN
  split
  ·rename_i hq
   obtain ⟨q1, q2, q3, q4⟩ : aL.gE (cq M x.d (cp x.next)) = 0 ∧ (aL.gX (cq M x.d (cp x.next))).seq = x.next ∧ (aL.gX (cq M x.d (cp x.next))).pos = x.head ∧ bc (aL.gX (cq M x.d (cp x.next))) ≤ x.free := of_decide_eq_true hq
   have m1 := eX (aL.gX_may q1)
   have m2 : (aL.gX (cq M x.d (cp x.next))).fit := aL.gX_fits _
   have hu := h.use
   have hs := h.siz
   have hfr : x.free = x.size - x.used := rfl
   have hhd : x.head = x.pos + x.used := rfl
   have hnx : x.next = x.fst + x.nts.length := rfl
   have hc := h.cnt
   refine opn_okN k _ (h.with_ (by omega) ⟨m1.2.2.2.1, m1.2.2.2.2⟩ q3 m2 q4 (by omega) (by omega) (by omega) hc) ?_ hf hp
   show (x.nts ++ [_]).length + k ≤ 8
   rw [List.length_append, List.length_singleton]
   omega
  ·exact h
theorem opn_ok {M : BenS} {d : Int} (h : dI M d = 0) : LgOk M (opnL M d) 0 := by
 have h0 := opn_ok0 h
 obtain ⟨_, _, h3⟩ := opn_base h
 obtain ⟨_, _, _, b4, b5⟩ : aN.nE (cq M d 0) (cq M d 1) = 0 ∧ (cZ M d).m.ring ≤ bO M d - 10 ∧ (cZ M d).n ≤ 2305843009213693952 ∧ (cZ M d).m.first ≤ 2305843009213693952 ∧ (cZ M d).m.pos ≤ 2305843009213693952 := of_decide_eq_true h3
 exact opn_okN 8 _ h0 (by show 0 + 8 ≤ 8; omega) b4 b5
section
variable {α : Type} {E : Elt α} {ρ : Operand → Value} {o : Oper} {x y : Operand} {w : World} {b off : Nat} {a : α} {d : TypeDesc}
theorem size_infoE (E : Elt α) : (Tryz.prog.info? E.t).map (·.size) = some E.n := by
 obtain ⟨i0, hi, hz0, hz1, hz2⟩ := info_parts E.info
 rw [hi]; simp [hz1]
theorem exec_loadE (hu : Tryz.prog.underlying E.t = some d) (hd : d.isRow = true) (ho : o.op = .load E.t x) (hx : ρ x = .pointer (some ⟨b, off, none⟩)) (hc : w.rangeAt b off (E.cel a)) : (execOp ρ o).run Tryz.prog w = .ok (.value (.agg (E.cel a).toArray)) w :=
 au ho hx (run_loadAt_mid w b off E.t (E.cel a) d hc hu hd (by rw [E.len]; exact size_infoE E))
theorem exec_allocE (ho : o.op = .alloc E.t) : (execOp ρ o).run Tryz.prog w = .ok (.value (.pointer (some ⟨w.heap.size, 0, none⟩))) (w.alloc (.cells E.z.cells E.t)) := by
 have hz := run_zeroE E w
 unfold execOp
 simp [ho, Instr.alloc, hz, newVar, newRow]
theorem exec_fillE (ho : o.op = .store E.t x y) (hx : ρ x = .pointer (some ⟨w.heap.size, 0, none⟩)) (hy : ρ y = .agg (E.cel a).toArray) : (execOp ρ o).run Tryz.prog (w.alloc (.cells E.z.cells E.t)) = .ok .skip (w.alloc (.cells (E.cel a).toArray E.t)) :=
 fD ho hx hy (run_storeAt_new (P := Tryz.prog) w E.t E.z.cells (E.cel a).toArray (by simpa [E.len] using size_infoE E) (by simpa [E.len] using E.zc) (all_oneCell_toArray (E.one a)))
end
section
variable {w : World} {q : Int × Blk} {t : TypeId}
theorem pair_new (w : World) (q : Int × Blk) (t : TypeId) : (w.alloc (.cells (ex q).toArray t)).cell? ⟨w.heap.size, 0, none⟩ = some (.int .i64 q.1) ∧ (w.alloc (.cells (ex q).toArray t)).rangeAt w.heap.size 1 (cel q.2) := by
 have h := cf w (ex q) t
 refine ⟨h 0 _ rfl, fun j v hj => ?_⟩
 have := h (j + 1) v hj
 rwa [show 0 + (j + 1) = 1 + j from by omega] at this
theorem RdE.pairs {s t : TypeId} {und : Tryz.prog.underlying s = some (.slice t)} {info : (Tryz.prog.info? t).map (fun i => (i.zero, i.size, i.bytes)) = some (some (pairV 0 ap), 65, 72)} {B n k : Nat} {A : Option Addr} {l : List (Int × Blk)}
  (h : RdE (pairE s t und info) w B A n l) (hk : k < n) : ∃ b off, A = some ⟨b, off, none⟩ ∧ b < B ∧ w.rangeAt b (off + k * 65) (ex (l.getD k (0, ap))) := h.2 k hk
end
end Go.Proofs.YtbbcdhkinbmdnaaGreatDoor
