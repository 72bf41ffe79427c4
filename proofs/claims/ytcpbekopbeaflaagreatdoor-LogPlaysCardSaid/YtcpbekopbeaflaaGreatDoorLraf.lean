import Derived.Test.YtcpbekopbeaflaaGreatDoorLrae
namespace Go.Proofs.YtcpbekopbeaflaaGreatDoor
set_option maxHeartbeats 8000000
open Go.Proofs.Tryz
open Go.RowKit
set_option linter.unusedVariables false
set_option maxRecDepth 100000
section
variable {α : Type} {E : Elt α} {w w' : World} {B p : Nat} {v : Value} {l : List α} {F : Nat -> Prop}
theorem aO.only (h : aO E w B v l) (k : Only F w w') (hn : ∀ b, v.ownBlock = some b -> ¬ F b) : aO E w' B v l := by
 refine ⟨h.1, ?_⟩;rcases h.2 with hn' | ⟨g, cap, cur, rfl, hbg, hg, rest⟩
 ·exact .inl hn'
 ·exact .inr ⟨g, cap, cur, rfl, hbg, (k.block g (Array.getElem?_eq_some_iff.1 hg).1 (hn g rfl)).trans hg, rest⟩
theorem aO.ie (h : aO E w B v l) : ∀ b, v.ownBlock = some b -> b < w.heap.size := by
 intro b hb;rcases h.2 with ⟨rfl, _⟩ | ⟨g, cap, cur, rfl, _, hg, _⟩
 ·simp [Value.ownBlock] at hb
 ·simp [Value.ownBlock] at hb; subst hb; exact (Array.getElem?_eq_some_iff.1 hg).1
theorem aO.dl (h : aO E w B v l) {cs : Array Value} {t : TypeId} {fr : Nat × Nat} (hp : w.heap[p]? = some (.cells cs t fr)) (ht : E.t ≠ t) : v.ownBlock ≠ some p := by
 intro e;rcases h.2 with ⟨rfl, _⟩ | ⟨g, cap, cur, rfl, _, hg, _⟩
 ·simp [Value.ownBlock] at e
 ·simp [Value.ownBlock] at e;subst e;rw [hp] at hg;simp at hg;exact ht hg.2.1.symm
end
def foot (p : Nat) (vS vL : Value) (k : Nat) : Prop := k = p \/ vS.ownBlock = some k \/ vL.ownBlock = some k
def dm (S : List Blk) (g : Bool) (n : Int) : Int := if 0 <= n /\ n < S.length then (if g = true then 9 else 0) else 2
theorem qF {S : List Blk} {n : Int} (g : Bool) (h : ¬(0 <= n /\ n < S.length)) : dm S g n = 2 := by unfold dm; rw [if_neg h]
theorem rU {S : List Blk} {n : Int} (h : 0 <= n /\ n < S.length) : dm S true n = 9 := by unfold dm; rw [if_pos h]; rfl
theorem lz {S : List Blk} {n : Int} (h : 0 <= n /\ n < S.length) : dm S false n = 0 := by unfold dm; rw [if_pos h]; rfl
def gp (S : List Blk) (g : Bool) (n : Int) : Blk := if dm S g n = 0 then S.getD n.toNat aE else aE
theorem mA {S : List Blk} {g : Bool} {n : Int} (h : dm S g n ≠ 0) : gp S g n = aE := by unfold gp; rw [if_neg h]
theorem vi {S : List Blk} {g : Bool} {k : Nat} (h : dm S g (k : Int) = 0) : gp S g (k : Int) = S.getD k aE := by unfold gp; rw [if_pos h]; rfl
theorem ft {S : List Blk} {g : Bool} {n : Int} : dm S g n = 2 \/ dm S g n = 9 \/ (dm S g n = 0 /\ g = false /\ ∃ k : Nat, n = k /\ k < S.length) := by
 unfold dm
 split
 ·rename_i h
  cases g
  ·exact .inr (.inr ⟨rfl, rfl, n.toNat, by omega, by omega⟩)
  ·exact .inr (.inl rfl)
 ·exact .inl rfl
def kP (L : List (Int × Blk)) (n : Int) (b : Blk) : Blk := L.foldl (fun b q => if q.1 = n then q.2 else b) b
theorem lO {L : List (Int × Blk)} {i : Nat} (n : Int) (b : Blk) (hi : i < L.length) : kP (L.take (i + 1)) n b = if (L.getD i (0, aE)).1 = n then (L.getD i (0, aE)).2 else kP (L.take i) n b := by
 rw [List.take_add_one, List.getD, List.getElem?_eq_getElem hi];simp only [kP, Option.toList_some, List.foldl_append, List.foldl_cons, List.foldl_nil, Option.getD_some]
def gl (S : List Blk) (L : List (Int × Blk)) (g : Bool) (n : Int) : Blk := if dm S g n = 0 then kP L n (S.getD n.toNat aE) else aE
theorem uU {S : List Blk} {L : List (Int × Blk)} {g : Bool} {n : Int} (h : dm S g n ≠ 0) : gl S L g n = aE := by unfold gl; rw [if_neg h]
theorem p8 {S : List Blk} {L : List (Int × Blk)} {g : Bool} {k : Nat} (h : dm S g (k : Int) = 0) : gl S L g (k : Int) = kP L k (S.getD k aE) := by unfold gl; rw [if_pos h]; rfl
section
variable {w w' : World} {p : Nat} {vS vL : Value} {S : List Blk} {L : List (Int × Blk)} {g : Bool}
theorem dt (w : World) (p i : Nat) (v : Value) : Only (fun b => b = p) w (w.setCell ⟨p, i, none⟩ v) := (Only.refl (fun b => b = p) w).setCell (p := ⟨p, i, none⟩) (.inl rfl) v
theorem ldB {a : Addr} {A : Option Addr} {n c : Nat} (h : w.cell? a = some (.slice A n c)) : (Instr.loadAt 120 (.pointer (some a))).run prog w = .ok (.slice A n c) w := by simp [go_sem, h]
end
def wrL (S : List Blk) (L : List (Int × Blk)) (g : Bool) (n : Int) (b : Blk) : List (Int × Blk) := if dm S g n = 0 then L ++ [(n, b)] else L
theorem eY {α : Type} {E : Elt α} {ρ : Operand -> Value} {o : Oper} {x y : Operand} {w : World} {b n c j : Nat} (ho : o.op = .indexAddr E.s x y) (hx : ρ x = .slice (some ⟨b, 0, none⟩) n c) (hy : ρ y = .int .i64 (j : Int)) (hj : j < n) : (execOp ρ o).run prog w = .ok (.value (.pointer (some ⟨b, j * E.n, none⟩))) w := by
 have := bH (E := E) (ρ := ρ) (w := w) ho hx hy hj;rwa [Nat.zero_add] at this
theorem aO.slice {α : Type} {E : Elt α} {w : World} {B n : Nat} {v : Value} {l : List α} (h : aO E w B v l) (hn : l.length = n) (hl : 0 < n) : ∃ g c, v = .slice (some ⟨g, 0, none⟩) n c := by
 subst hn;rcases h.2 with ⟨_, h0⟩ | ⟨g, cap, cur, rfl, _⟩
 ·omega
 ·exact ⟨g, cap, rfl⟩
section
variable {w : World} {p b off gg n c k : Nat} {vL : Value} {S : List Blk} {L : List (Int × Blk)} {g : Bool}
theorem ldI {a : Addr} {x : Int} (h : w.cell? a = some (.int .i64 x)) : (Instr.loadAt 3 (.pointer (some a))).run prog w = .ok (.int .i64 x) w := by simp [go_sem, h]
end
def flS (S : List Blk) (L : List (Int × Blk)) : List Blk := L.foldl (fun S q => S.set q.1.toNat q.2) S
theorem mJ (S : List Blk) (L : List (Int × Blk)) : (flS S L).length = S.length := by
 unfold flS
 induction L generalizing S with
 |nil => rfl
 |cons q L ih => rw [List.foldl_cons, ih, List.length_set]
theorem tv {S : List Blk} {L : List (Int × Blk)} {i : Nat} (hi : i < L.length) : flS S (L.take (i + 1)) = (flS S (L.take i)).set (L.getD i (0, aE)).1.toNat (L.getD i (0, aE)).2 := by
 rw [List.take_add_one, List.getD, List.getElem?_eq_getElem hi];simp only [flS, Option.toList_some, List.foldl_append, List.foldl_cons, List.foldl_nil, Option.getD_some]
def Fit (S : List Blk) (L : List (Int × Blk)) : Prop := ∀ q ∈ L, 0 <= q.1 /\ q.1 < S.length
theorem Fit.at_ {S : List Blk} {L : List (Int × Blk)} (h : Fit S L) {i : Nat} (hi : i < L.length) : ∃ k : Nat, (L.getD i (0, aE)).1 = k /\ k < S.length := by
 have := h _ (List.getElem_mem hi);refine ⟨(L.getD i (0, aE)).1.toNat, ?_, ?_⟩
 ·simp only [List.getD, List.getElem?_eq_getElem hi, Option.getD_some]; omega
 ·simp only [List.getD, List.getElem?_eq_getElem hi, Option.getD_some]; omega
def crI (S : List Blk) (L : List (Int × Blk)) (P : List Int) : Nat -> List Blk
 |0 => S
 |i + 1 => (crI S L P i).set (L.getD i (0, aE)).1.toNat (qN ((crI S L P i).getD (L.getD i (0, aE)).1.toNat aE) (L.getD i (0, aE)).2 (P.getD i 0))
theorem m8 (S : List Blk) (L : List (Int × Blk)) (P : List Int) (i : Nat) : (crI S L P i).length = S.length := by
 induction i with
 |zero => rfl
 |succ i ih => rw [crI, List.length_set, ih]
theorem ro {ρ : Operand -> Value} {o : Oper} {x y : Operand} {w : World} {t r : TypeId} {a b : UInt8} (ho : o.op = .binOp .xor t x y r) (hx : ρ x = .int .u8 (a.toNat : Int)) (hy : ρ y = .int .u8 (b.toNat : Int)) : (execOp ρ o).run prog w = .ok (.value (.int .u8 ((a ^^^ b).toNat : Int))) w := by
 have h : bits .xor .u8 (a.toNat : Int) (b.toNat : Int) = ((a ^^^ b).toNat : Int) := by
  rw [u8_xor_nat _ _ (UInt8.toNat_lt _) (UInt8.toNat_lt _)];simp
 unfold execOp;simp [ho, hx, hy, eqGuard, binOp, Op.intBits]
 simpa [bits] using h
theorem iC {ρ : Operand -> Value} {o : Oper} {x y : Operand} {w : World} {b n c j : Nat} (ho : o.op = .indexAddr 120 x y) (hx : ρ x = .slice (some ⟨b, 0, none⟩) n c) (hy : ρ y = .int .i64 (j : Int)) (hj : j < n) : (execOp ρ o).run prog w = .ok (.value (.pointer (some ⟨b, j * 64, none⟩))) w := eY (E := kV) ho hx hy hj
section
variable {w : World} {p b off gg n c k i : Nat} {vL : Value} {S : List Blk} {L : List (Int × Blk)} {g : Bool}
theorem oX (hi : i < 64) : (Instr.indexAt 64 (.pointer (some ⟨b, off, none⟩)) (.int .i64 (i : Int))).run prog w = .ok (.pointer (some ⟨b, off + i, none⟩)) w := by
 simp [Instr.indexAt, asIntOf, run_underlying nD, Instr.sureAddr, add_mid, Tryz.sizeOf5, hi]
theorem ldU {a : Addr} {x : Int} (h : w.cell? a = some (.int .u8 x)) : (Instr.loadAt 5 (.pointer (some a))).run prog w = .ok (.int .u8 x) w := by simp [go_sem, h]
def tc (y : Blk) (i : Nat) (u : UInt8) : Blk := if h : i < 64 then y.set i (y[i] ^^^ u) else y
end
def fG (S : List Blk) (g : Bool) (n i : Int) : Int := if 0 <= n /\ n < S.length /\ 0 <= i /\ i < 64 then (if g = true then 9 else 0) else 2
def j6 (S : List Blk) (g : Bool) (n i : Int) (u : UInt8) : List Blk := if fG S g n i = 0 then S.set n.toNat (tc (S.getD n.toNat aE) i.toNat u) else S
def Grow (w : World) (F F' : Nat -> Prop) : Prop := ∀ b, F' b -> F b \/ w.heap.size <= b
section
variable {w w' : World} {F G : Nat -> Prop} {p : Nat} {S : List Blk} {L : List (Int × Blk)} {g : Bool}
theorem Grow.same (w : World) (F : Nat -> Prop) : Grow w F F := fun _ h => .inl h
end
theorem Fit.nil (S : List Blk) : Fit S [] := fun q h => by cases h
theorem Fit.wr {S : List Blk} {L : List (Int × Blk)} (g : Bool) (n : Int) (b : Blk) (h : Fit S L) : Fit S (wrL S L g n b) := by
 unfold wrL
 split
 ·rename_i he
  rcases ft (S := S) (g := g) (n := n) with h1 | h1 | ⟨_, rfl, k, rfl, hk⟩
  ·omega
  ·omega
  ·intro q hq;rcases List.mem_append.1 hq with hq | hq
   ·exact h q hq
   ·simp at hq; subst hq; exact ⟨by simp, by simpa using hk⟩
 ·exact h
theorem Fit.len {S S' : List Blk} {L : List (Int × Blk)} (h : Fit S L) (e : S'.length = S.length) : Fit S' L := fun q hq => by rw [e]; exact h q hq
theorem kZ (S : List Blk) (g : Bool) (n i : Int) (u : UInt8) : (j6 S g n i u).length = S.length := by
 unfold j6; split
 ·rw [List.length_set]
 ·rfl
structure Dev where
 Dv : World -> (Nat -> Prop) -> Nat -> List Blk -> List (Int × Blk) -> Bool -> Prop
 lt : ∀ {w F p S L g}, Dv w F p S L g -> ∀ b, F b -> b < w.heap.size
 only : ∀ {w w' F G p S L g}, Dv w F p S L g -> Only G w w' -> (∀ b, F b -> ¬ G b) -> Dv w' F p S L g
 fit : ∀ {w F p S L g}, Dv w F p S L g -> Fit S L /\ 1 <= S.length
 cap : ∀ {w F p S L g}, Dv w F p S L g -> S.length <= 512
 new_ok : ∀ (k : Nat) (w : World), 1 <= k -> k <= 512 -> Calls prog 43 #[.int .i64 k] w fun e w' => ∃ p F, e = .returned (.tuple #[.pointer (some ⟨p, 0, none⟩), .int .i64 0]) /\ Dv w' F p (List.replicate k aE) [] false /\ Below w.heap.size w w' /\ ∀ b, F b -> w.heap.size <= b
 new_no : ∀ (n : Int) (w : World), ¬(1 <= n /\ n <= 512) -> Calls prog 43 #[.int .i64 n] w fun e w' => e = .returned (.tuple #[.pointer none, .int .i64 2]) /\ Below w.heap.size w w'
 read : ∀ {w F p S L g} (n : Int), Dv w F p S L g -> Calls prog 155 #[.pointer (some ⟨p, 0, none⟩), .int .i64 n] w fun e w' => e = .returned (.tuple #[blk (gl S L g n), .int .i64 (dm S g n)]) /\ Below w.heap.size w w'
 sure : ∀ {w F p S L g} (n : Int), Dv w F p S L g -> Calls prog 86 #[.pointer (some ⟨p, 0, none⟩), .int .i64 n] w fun e w' => e = .returned (.tuple #[blk (gp S g n), .int .i64 (dm S g n)]) /\ Below w.heap.size w w'
 write : ∀ {w F p S L g} (n : Int) (b : Blk), L.length < 1000000 -> Dv w F p S L g -> Calls prog 170 #[.pointer (some ⟨p, 0, none⟩), .int .i64 n, blk b] w fun e w' => e = .returned (.int .i64 (dm S g n)) /\ ∃ F', Dv w' F' p S (wrL S L g n b) g /\ Only F w w' /\ Grow w F F'
 flush : ∀ {w F p S L g}, Dv w F p S L g -> Calls prog 165 #[.pointer (some ⟨p, 0, none⟩)] w fun e w' => e = .returned (.int .i64 (if g = true then 9 else 0)) /\ ∃ F', Dv w' F' p (if g = true then S else flS S L) (if g = true then L else []) g /\ Only F w w' /\ Grow w F F'
 fail : ∀ {w F p S L g}, Dv w F p S L g -> Calls prog 76 #[.pointer (some ⟨p, 0, none⟩)] w fun e w' => e = .returned (.int .i64 0) /\ ∃ F', Dv w' F' p S [] true /\ Only F w w' /\ Grow w F F'
 rot : ∀ {w F p S L g} (n i : Int) (u : UInt8), Dv w F p S L g -> Calls prog 74 #[.pointer (some ⟨p, 0, none⟩), .int .i64 n, .int .i64 i, .int .u8 (u.toNat : Int)] w fun e w' => e = .returned (.int .i64 (fG S g n i)) /\ ∃ F', Dv w' F' p (j6 S g n i u) L g /\ Only F w w' /\ Grow w F F'
 kL : ∀ {w F p S L g A n c P}, RdE dw w w.heap.size A n P -> n <= c -> c <= maxLen -> (∀ x, A = some x -> 0 < n -> ¬ F x.block) -> Dv w F p S L g -> Calls prog 71 #[.pointer (some ⟨p, 0, none⟩), .slice A n c] w fun e w' => e = .returned (.tuple #[.int .i64 ((min L.length n : Nat) : Int), .int .i64 0]) /\ ∃ F', Dv w' F' p (crI S L P L.length) [] g /\ Only F w w' /\ Grow w F F'
 dead : ∀ {w F p S L g}, Dv w F p S L g -> Calls prog 79 #[.pointer (some ⟨p, 0, none⟩)] w fun e w' => e = .returned (.bool g) /\ Below w.heap.size w w'
 fI : ∀ {w F p S L g}, Dv w F p S L g -> Calls prog 80 #[.pointer (some ⟨p, 0, none⟩)] w fun e w' => e = .returned (.int .i64 (S.length : Int)) /\ Below w.heap.size w w'
theorem Dev.below (D : Dev) {w w' : World} {F : Nat -> Prop} {p : Nat} {S : List Blk} {L : List (Int × Blk)} {g : Bool} (h : D.Dv w F p S L g) (k : Below w.heap.size w w') : D.Dv w' F p S L g := D.only h (Only.of_below (fun _ => False) k) fun _ _ e => e
theorem Grow.above {w : World} {F F' : Nat -> Prop} {B : Nat} (h : Grow w F F') (hF : ∀ b, F b -> B <= b) (hB : B <= w.heap.size) : ∀ b, F' b -> B <= b := fun b hb => by
 rcases h b hb with e | e
 ·exact hF b e
 ·omega
structure fF where
 S : List Blk
 L : List (Int × Blk)
 g : Bool
structure aK where
 ds : List fF
 left : Nat
 dx : Bool
 steps : Nat
def ch : fF := ⟨[], [], false⟩
def aK.dev (M : aK) (d : Int) : fF := M.ds.getD d.toNat ch
theorem aK.ji (M : aK) (k : Nat) : M.dev (k : Int) = M.ds.getD k ch := rfl
def d8 (M : aK) (d : Int) : Int := if 0 <= d /\ d < M.ds.length then 0 else 2
def ec (M : aK) (d : Int) : Int := if M.dx = true then 8 else d8 M d
theorem dS (M : aK) (d : Int) : (d8 M d = 2 /\ ¬(0 <= d /\ d < M.ds.length)) \/ (d8 M d = 0 /\ ∃ k : Nat, d = k /\ k < M.ds.length) := by
 unfold d8;by_cases h : 0 <= d /\ d < M.ds.length
 ·rw [if_pos h]; exact .inr ⟨rfl, d.toNat, by omega, by omega⟩
 ·rw [if_neg h]; exact .inl ⟨rfl, h⟩
theorem afq {M : aK} {k : Nat} (h : k < M.ds.length) : d8 M (k : Int) = 0 := by unfold d8; rw [if_pos (by omega)]
theorem aaK {M : aK} {d : Int} (h : M.dx = true) : ec M d = 8 := by unfold ec; rw [if_pos h]
theorem qc {M : aK} {d : Int} (h : M.dx = false) : ec M d = d8 M d := by unfold ec; rw [if_neg (by rw [h]; decide)]
theorem dN (M : aK) (d : Int) : (ec M d = 8 /\ M.dx = true) \/ (ec M d = 2 /\ M.dx = false /\ ¬(0 <= d /\ d < M.ds.length)) \/ (ec M d = 0 /\ M.dx = false /\ ∃ k : Nat, d = k /\ k < M.ds.length) := by
 cases h : M.dx
 ·rw [qc h];rcases dS M d with ⟨e, h1⟩ | ⟨e, h1⟩
  ·exact .inr (.inl ⟨e, rfl, h1⟩)
  ·exact .inr (.inr ⟨e, rfl, h1⟩)
 ·exact .inl ⟨aaK h, rfl⟩
theorem sn {M : aK} {k : Nat} (hd : M.dx = false) (h : k < M.ds.length) : ec M (k : Int) = 0 := by rw [qc hd, afq h]
def aK.put (M : aK) (k : Nat) (x : fF) : aK := { M with ds := M.ds.set k x }
def aK.eQ (M : aK) : Int := if M.left = 1 then 8 else 0
def aK.done (M : aK) : aK := { M with left := M.left - 1, steps := M.steps + 1 }
def aK.night (M : aK) : aK := { M with dx := true }
def cM (M : aK) (d n : Int) : Int := if ec M d = 0 then dm (M.dev d).S (M.dev d).g n else ec M d
def df (M : aK) (d n : Int) : Blk := if ec M d = 0 then gl (M.dev d).S (M.dev d).L (M.dev d).g n else aE
def ov (M : aK) (d n : Int) : Int := if d8 M d = 0 then dm (M.dev d).S (M.dev d).g n else d8 M d
def oy (M : aK) (d n : Int) : Blk := if d8 M d = 0 then gp (M.dev d).S (M.dev d).g n else aE
def f9 (M : aK) (d n : Int) : Int := if cM M d n = 0 then M.eQ else cM M d n
def eS (M : aK) (d n : Int) (b : Blk) : aK := if cM M d n = 0 then (if M.left = 1 then M.night else M.done.put d.toNat ⟨(M.dev d).S, wrL (M.dev d).S (M.dev d).L (M.dev d).g n b, (M.dev d).g⟩) else M
def iJ (M : aK) (d : Int) : Int := if ec M d = 0 then (if (M.dev d).g = true then 9 else 0) else ec M d
def fM (M : aK) (d : Int) : Int := if iJ M d = 0 then M.eQ else iJ M d
def eJ (M : aK) (d : Int) : aK := if iJ M d = 0 then (if M.left = 1 then M.night else M.done.put d.toNat ⟨flS (M.dev d).S (M.dev d).L, [], (M.dev d).g⟩) else M
def kw (M : aK) (d : Int) : aK := if d8 M d = 0 then M.put d.toNat ⟨(M.dev d).S, [], true⟩ else M
def lB (M : aK) (d : Int) : Int := if ec M d = 0 then (if (M.dev d).g = true then 0 else 17) else ec M d
def i9 (M : aK) (d : Int) : aK := if lB M d = 0 then M.put d.toNat ⟨List.replicate (M.dev d).S.length aE, [], false⟩ else M
def lD (M : aK) (n : Int) : Int := if M.dx = true then 8 else if n < 0 then 2 else 0
def iv (M : aK) (n : Int) : aK := if lD M n = 0 then { M with left := n.toNat } else M
def qm (M : aK) (d n i : Int) : Int := if d8 M d = 0 then fG (M.dev d).S (M.dev d).g n i else d8 M d
def kz (M : aK) (d n i : Int) (u : UInt8) : aK := if d8 M d = 0 then M.put d.toNat ⟨j6 (M.dev d).S (M.dev d).g n i u, (M.dev d).L, (M.dev d).g⟩ else M
def fR : List fF -> List Int -> List fF
 |[], _ => []
 |d :: ds, P => ⟨crI d.S d.L P d.L.length, [], d.g⟩ :: fR ds (P.drop (min d.L.length P.length))
def vH (M : aK) (P : List Int) : aK := ⟨fR M.ds P, 0, false, M.steps⟩
def cw (M : aK) (d : Int) : Int := if d8 M d = 0 then ((M.dev d).S.length : Int) else 0
def jB (ks : List Int) : aK := ⟨ks.map fun k => ⟨List.replicate k.toNat aE, [], false⟩, 0, false, 0⟩
def jK (ks : List Int) : Prop := 1 <= ks.length /\ ks.length <= 17 /\ ∀ k ∈ ks, 1 <= k /\ k <= 512
def d5 : List fF -> List Int -> Nat -> List fF × List Int
 |ds, P, 0 => (ds, P)
 |[], P, _ + 1 => ([], P)
 |d :: ds, P, i + 1 => (⟨crI d.S d.L P d.L.length, [], d.g⟩ :: (d5 ds (P.drop (min d.L.length P.length)) i).1, (d5 ds (P.drop (min d.L.length P.length)) i).2)
theorem g8 : ∀ (i : Nat) (ds : List fF) (P : List Int), (d5 ds P i).1.length = ds.length
 |0, ds, P => by simp [d5]
 |i + 1, [], P => rfl
 |i + 1, d :: ds, P => by simp [d5, g8 i]
theorem jz : ∀ (ds : List fF) (P : List Int), (d5 ds P ds.length).1 = fR ds P
 |[], P => by simp [d5, fR]
 |d :: ds, P => by simp [d5, fR, jz ds]
theorem tw : ∀ (i : Nat) (ds : List fF) (P : List Int) (j : Nat), i <= j -> (d5 ds P i).1.getD j ch = ds.getD j ch
 |0, ds, P, j, h => by simp [d5]
 |i + 1, [], P, j, h => rfl
 |i + 1, d :: ds, P, 0, h => by omega
 |i + 1, d :: ds, P, j + 1, h => by simpa [d5] using tw i ds _ j (by omega)
theorem k9 : ∀ (i : Nat) (ds : List fF) (P : List Int), i < ds.length ->
  (d5 ds P (i + 1)).1 = (d5 ds P i).1.set i ⟨crI (ds.getD i ch).S (ds.getD i ch).L (d5 ds P i).2 (ds.getD i ch).L.length, [], (ds.getD i ch).g⟩ /\
  (d5 ds P (i + 1)).2 = (d5 ds P i).2.drop (min (ds.getD i ch).L.length (d5 ds P i).2.length)
 |0, [], P, h => by simp at h
 |0, d :: ds, P, h => by simp [d5]
 |i + 1, [], P, h => by simp at h
 |i + 1, d :: ds, P, h => by
  obtain ⟨h1, h2⟩ := k9 i ds (P.drop (min d.L.length P.length)) (by simpa using h)
  constructor
  ·show _ :: (d5 ds _ (i + 1)).1 = _
   rw [h1]; rfl
  ·show (d5 ds _ (i + 1)).2 = _
   rw [h2]; rfl
def Room (M : aK) (k : Nat) : Prop := M.steps + k <= 1000000 /\ M.left < 9223372036854775808 /\ ∀ d ∈ M.ds, d.L.length + k <= 1000000
theorem jG {α : Type} {l : List α} {k : Nat} {x : α} (h : k < l.length) : l.getD k x ∈ l := by
 rw [List.getD_eq_getElem?_getD, List.getElem?_eq_getElem h]; exact List.getElem_mem h
theorem Room.less {M : aK} {k : Nat} (h : Room M (k + 1)) : Room M k := ⟨by have := h.1; omega, h.2.1, fun d hd => by have := h.2.2 d hd; omega⟩
theorem Room.at_ {M : aK} {k i : Nat} (h : Room M (k + 1)) (hi : i < M.ds.length) : (M.ds.getD i ch).L.length < 1000000 := by have := h.2.2 _ (jG (x := ch) hi); omega
theorem wm {α : Type} {l : List α} {k : Nat} {x y : α} (h : y ∈ l.set k x) : y ∈ l \/ y = x := by
 rcases List.mem_or_eq_of_mem_set h with h | h
 ·exact .inl h
 ·exact .inr h
theorem Room.put {M : aK} {k i : Nat} {x : fF} (h : Room M k) (hx : x.L.length + k <= 1000000) : Room (M.put i x) k :=
 ⟨h.1, h.2.1, fun d hd => by
  rcases wm hd with e | e
  ·exact h.2.2 d e
  ·subst e; exact hx⟩
theorem Room.done {M : aK} {k : Nat} (h : Room M (k + 1)) : Room M.done k := ⟨by have := h.1; show M.steps + 1 + k <= _; omega, by have := h.2.1; show M.left - 1 < _; omega, fun d hd => by have := h.2.2 d hd; omega⟩
theorem adS {ks : List Int} {k : Nat} (hk : k <= 1000000) : Room (jB ks) k :=
 ⟨by show 0 + k <= _; omega, by show 0 < _; omega, fun d hd => by
  obtain ⟨x, _, rfl⟩ := List.mem_map.1 hd
  show 0 + k <= _
  omega⟩
theorem aiS (S : List Blk) (L : List (Int × Blk)) (g : Bool) (n : Int) (b : Blk) : (wrL S L g n b).length <= L.length + 1 := by
 unfold wrL; split
 ·simp
 ·omega
theorem sv {M : aK} {k : Nat} (h : Room M (k + 1)) (d n : Int) (b : Blk) : Room (eS M d n b) k := by
 unfold eS
 split
 ·rename_i he
  split
  ·exact h.less
  ·have hh : ∃ i : Nat, d = i /\ i < M.ds.length := by
    rcases dN M d with ⟨e, _⟩ | ⟨e, _⟩ | ⟨e, _, h⟩
    ·unfold cM at he; rw [if_neg (by omega)] at he; omega
    ·unfold cM at he; rw [if_neg (by omega)] at he; omega
    ·exact h
   obtain ⟨i, rfl, hi⟩ := hh;refine (h.done).put ?_;have h1 := aiS (M.dev (i : Int)).S (M.dev (i : Int)).L (M.dev (i : Int)).g n b;have h2 := h.2.2 _ (jG (x := ch) hi);have h3 : (M.dev (i : Int)).L.length + (k + 1) <= 1000000 := h2
   show (wrL _ _ _ _ _).length + k <= _
   omega
 ·exact h.less
theorem yW {M : aK} {k : Nat} (h : Room M (k + 1)) (d : Int) : Room (eJ M d) k := by
 unfold eJ
 split
 ·split
  ·exact h.less
  ·exact (h.done).put (by have := h.1; show 0 + k <= _; omega)
 ·exact h.less
theorem ae8 {M : aK} {k : Nat} (h : Room M k) (d : Int) : Room (kw M d) k := by
 unfold kw
 split
 ·exact h.put (by have := h.1; show 0 + k <= _; omega)
 ·exact h
theorem ags {M : aK} {k : Nat} (h : Room M k) (d : Int) : Room (i9 M d) k := by
 unfold i9
 split
 ·exact h.put (by have := h.1; show 0 + k <= _; omega)
 ·exact h
theorem afh {M : aK} {k : Nat} (h : Room M k) (n : Int) (hn : n < 9223372036854775808) : Room (iv M n) k := by
 unfold iv
 split
 ·exact ⟨h.1, by show n.toNat < _; omega, h.2.2⟩
 ·exact h
theorem afN {M : aK} {k : Nat} (h : Room M k) (d n i : Int) (u : UInt8) : Room (kz M d n i u) k := by
 unfold kz
 split
 ·rename_i he
  rcases dS M d with ⟨e, _⟩ | ⟨_, j, rfl, hj⟩
  ·omega
  ·exact h.put (show (M.dev (j : Int)).L.length + k <= 1000000 from h.2.2 _ (jG (x := ch) hj))
 ·exact h
theorem yp : ∀ (ds : List fF) (P : List Int), ∀ d ∈ fR ds P, d.L = []
 |[], P, d, h => by cases h
 |x :: ds, P, d, h => by
  rcases List.mem_cons.1 h with e | e
  ·subst e; rfl
  ·exact yp ds _ d e
theorem afa {M : aK} {k : Nat} (h : Room M k) (P : List Int) : Room (vH M P) k :=
 ⟨h.1, by show 0 < _; omega, fun d hd => by rw [yp _ _ d hd]; have := h.1; show 0 + k <= _; omega⟩
structure DvK where
 Dv : World -> (Nat -> Prop) -> Nat -> List Blk -> List (Int × Blk) -> Bool -> Prop
 lt : ∀ {w F p S L g}, Dv w F p S L g -> ∀ b, F b -> b < w.heap.size
 only : ∀ {w w' F G p S L g}, Dv w F p S L g -> Only G w w' -> (∀ b, F b -> ¬ G b) -> Dv w' F p S L g
structure lA (K : DvK) (w : World) (Fs : Nat -> Nat -> Prop) (ps : List Nat) (ds : List fF) : Prop where
 len : ps.length = ds.length
 at_ : ∀ i, i < ds.length -> K.Dv w (Fs i) (ps.getD i 0) (ds.getD i ch).S (ds.getD i ch).L (ds.getD i ch).g
 off : ∀ i j, i < ds.length -> j < ds.length -> i ≠ j -> ∀ b, Fs i b -> ¬ Fs j b
def upF (Fs : Nat -> Nat -> Prop) (k : Nat) (F' : Nat -> Prop) : Nat -> Nat -> Prop := fun i b => (i = k /\ F' b) \/ (i ≠ k /\ Fs i b)
theorem nc (Fs : Nat -> Nat -> Prop) (k : Nat) (F' : Nat -> Prop) : upF Fs k F' k = F' := by
 funext b; simp [upF]
theorem jf (Fs : Nat -> Nat -> Prop) {k i : Nat} (F' : Nat -> Prop) (h : i ≠ k) : upF Fs k F' i = Fs i := by
 funext b; simp [upF, h]
theorem jh {α : Type} {l : List α} {k : Nat} {x d : α} (h : k < l.length) : (l.set k x).getD k d = x := by simp [List.getD, h]
theorem ik {α : Type} {l : List α} {k i : Nat} {x d : α} (h : i ≠ k) : (l.set k x).getD i d = l.getD i d := by simp [List.getD, List.getElem?_set_ne (Ne.symm h)]
section
variable {K : DvK} {w w' : World} {Fs : Nat -> Nat -> Prop} {ps : List Nat} {ds : List fF} {G F' : Nat -> Prop} {k : Nat}
theorem lA.lt (h : lA K w Fs ps ds) : ∀ i, i < ds.length -> ∀ b, Fs i b -> b < w.heap.size := fun i hi b hb => K.lt (h.at_ i hi) b hb
theorem lA.only (h : lA K w Fs ps ds) (k : Only G w w') (hn : ∀ i, i < ds.length -> ∀ b, Fs i b -> ¬ G b) : lA K w' Fs ps ds :=
 ⟨h.len, fun i hi => K.only (h.at_ i hi) k (hn i hi), h.off⟩
theorem lA.set (h : lA K w Fs ps ds) (hk : k < ds.length) (ho : Only G w w') (hG : ∀ i, i < ds.length -> i ≠ k -> ∀ b, Fs i b -> ¬ G b) (hg : Grow w (Fs k) F') {p : Nat} {d : fF} (hd : K.Dv w' F' p d.S d.L d.g) : lA K w' (upF Fs k F') (ps.set k p) (ds.set k d) := by
 have hnew : ∀ i, i < ds.length -> i ≠ k -> ∀ b, F' b -> ¬ Fs i b := fun i hi hik b hb hf => by
  rcases hg b hb with e | e
  ·exact h.off k i hk hi (Ne.symm hik) b e hf
  ·have := h.lt i hi b hf; omega
 refine ⟨by rw [List.length_set, List.length_set]; exact h.len, fun i hi => ?_, fun i j hi hj hij b hb => ?_⟩
 ·rw [List.length_set] at hi;by_cases e : i = k
  ·subst e;rw [nc, jh hk, jh (by rw [h.len]; exact hk)];exact hd
  ·rw [jf _ _ e, ik e, ik e];exact K.only (h.at_ i hi) ho (hG i hi e)
 ·rw [List.length_set] at hi hj;by_cases e : i = k
  ·subst e;rw [nc] at hb;rw [jf _ _ (Ne.symm hij)];exact hnew j hj (Ne.symm hij) b hb
  ·rw [jf _ _ e] at hb;by_cases e' : j = k
   ·subst e';rw [nc];exact fun hf => hnew i hi e b hf hb
   ·rw [jf _ _ e'];exact h.off i j hi hj hij b hb
theorem set_self {α : Type} {l : List α} {k : Nat} {d : α} (h : k < l.length) : l.set k (l.getD k d) = l := by
 rw [List.getD_eq_getElem?_getD, List.getElem?_eq_getElem h];exact List.set_getElem_self h
theorem lA.turn (h : lA K w Fs ps ds) (hk : k < ds.length) (ho : Only (Fs k) w w') (hg : Grow w (Fs k) F') {d : fF} (hd : K.Dv w' F' (ps.getD k 0) d.S d.L d.g) : lA K w' (upF Fs k F') ps (ds.set k d) := by
 have := h.set hk ho (fun i hi hik b hb hf => h.off i k hi hk hik b hb hf) hg hd;rwa [set_self (by rw [h.len]; exact hk)] at this
theorem lA.push (h : lA K w Fs ps ds) (hb : Below w.heap.size w w') {p : Nat} {d : fF} (hF : ∀ b, F' b -> w.heap.size <= b) (hd : K.Dv w' F' p d.S d.L d.g) : lA K w' (upF Fs ds.length F') (ps ++ [p]) (ds ++ [d]) := by
 have hlen := h.len;refine ⟨by simp [h.len], fun i hi => ?_, fun i j hi hj hij b hb' => ?_⟩
 ·rw [List.length_append, List.length_singleton] at hi;by_cases e : i = ds.length
  ·subst e;rw [nc];have e1 : (ps ++ [p]).getD ds.length 0 = p := by simp [List.getD, <- hlen]
   have e2 : (ds ++ [d]).getD ds.length ch = d := by simp [List.getD]
   rw [e1, e2];exact hd
  ·have hi' : i < ds.length := by omega
   rw [jf _ _ e];have e1 : (ps ++ [p]).getD i 0 = ps.getD i 0 := by simp [List.getD, List.getElem?_append_left (show i < ps.length by omega)]
   have e2 : (ds ++ [d]).getD i ch = ds.getD i ch := by simp [List.getD, List.getElem?_append_left hi']
   rw [e1, e2];exact K.only (h.at_ i hi') (Only.of_below (fun _ => False) hb) fun _ _ e => e
 ·rw [List.length_append, List.length_singleton] at hi hj;by_cases e : i = ds.length
  ·subst e;rw [nc] at hb';rw [jf _ _ (Ne.symm hij)];intro hf;have := h.lt j (by omega) b hf;have := hF b hb';omega
  ·rw [jf _ _ e] at hb';have := h.lt i (by omega) b hb';by_cases e' : j = ds.length
   ·subst e';rw [nc];intro hf;have := hF b hf;omega
   ·rw [jf _ _ e'];exact h.off i j (by omega) (by omega) hij b hb'
end
theorem rh {l : List Blk} {k : Nat} (h : k < l.length) : cj (l.take (k + 1)) = cj (l.take k) ++ (l.getD k aE).toList := by
 rw [List.take_succ_eq_append_getElem h, fS, List.getD, List.getElem?_eq_getElem h];simp [cj]
def fT (l : List Blk) : Nat := more 0 (cj l)
theorem mQ (l : List Blk) : fT l < 4294967296 := oW (by omega) _
theorem qO {l : List Blk} {k : Nat} (h : k < l.length) : fT (l.take (k + 1)) = more (fT (l.take k)) (l.getD k aE).toList := by
 unfold fT;rw [rh h, uA]
inductive Stp where
 |wr (n : Int) (b : Blk)
 |fl
def ju (d : Int) (M : aK) : Stp -> Int
 |.wr n _ => f9 M d n
 |.fl => fM M d
def ou (d : Int) (M : aK) : Stp -> aK
 |.wr n b => eS M d n b
 |.fl => eJ M d
def goE (d : Int) : aK -> List Stp -> Int
 |_, [] => 0
 |M, s :: l => if ju d M s = 0 then goE d (ou d M s) l else ju d M s
def goB (d : Int) : aK -> List Stp -> aK
 |M, [] => M
 |M, s :: l => if ju d M s = 0 then goB d (ou d M s) l else ou d M s
theorem go_ok {d : Int} {M : aK} {s : Stp} {l : List Stp} (h : ju d M s = 0) : goE d M (s :: l) = goE d (ou d M s) l /\ goB d M (s :: l) = goB d (ou d M s) l := ⟨if_pos h, if_pos h⟩
theorem jj {d : Int} {M : aK} {s : Stp} {l : List Stp} (h : ju d M s ≠ 0) : goE d M (s :: l) = ju d M s /\ goB d M (s :: l) = ou d M s := ⟨if_neg h, if_neg h⟩
theorem li (d : Int) (a b : List Stp) : ∀ M, goE d M (a ++ b) = if goE d M a = 0 then goE d (goB d M a) b else goE d M a := by
 induction a with
 |nil => intro M; rfl
 |cons s a ih =>
  intro M;rw [List.cons_append];by_cases h : ju d M s = 0
  ·rw [(go_ok h).1, (go_ok h).1, (go_ok h).2, ih]
  ·rw [(jj h).1, (jj h).1, if_neg h]
theorem lj (d : Int) (a b : List Stp) : ∀ M, goB d M (a ++ b) = if goE d M a = 0 then goB d (goB d M a) b else goB d M a := by
 induction a with
 |nil => intro M; rfl
 |cons s a ih =>
  intro M;rw [List.cons_append];by_cases h : ju d M s = 0
  ·rw [(go_ok h).2, (go_ok h).1, (go_ok h).2, ih]
  ·rw [(jj h).2, (jj h).1, (jj h).2, if_neg h]
structure LgS where
 d : Nat
 own : Nat
 size : Nat
 cnt : Nat
 fst : Nat
 pos : Nat
 nts : List Nte
def usd (l : List Nte) : Nat := (l.map bF).sum
theorem aeu : usd [] = 0 := rfl
theorem ada (n : Nte) (l : List Nte) : usd (n :: l) = bF n + usd l := by simp [usd]
theorem ko (a b : List Nte) : usd (a ++ b) = usd a + usd b := by simp [usd]
theorem jS (l : List Nte) (k : Nat) : usd l = usd (l.take k) + usd (l.drop k) := by rw [<- ko, List.take_append_drop]
theorem gJ {l : List Nte} {i : Nat} (h : i < l.length) : usd (l.take (i + 1)) = usd (l.take i) + bF (l.getD i bc) := by
 rw [List.take_add_one, List.getElem?_eq_getElem h, List.getD, List.getElem?_eq_getElem h, ko];simp [usd]
def LgS.used (x : LgS) : Nat := usd x.nts
def LgS.next (x : LgS) : Nat := x.fst + x.nts.length
def LgS.head (x : LgS) : Nat := x.pos + x.used
def LgS.free (x : LgS) : Nat := x.size - x.used
def cx (r p : Nat) : Int := ((10 + p % r : Nat) : Int)
def cH (q : Nat) : Int := ((2 + q % 8 : Nat) : Int)
def ew (c : Nat) : Int := ((c % 2 : Nat) : Int)
def mkT (own size c f a : Nat) : List Stp := [.wr (ew c) (bf.pB ⟨c, ⟨own, (size : Int), f, a⟩⟩), .fl]
def uX (M : aK) (d : Int) (id : Nat) (r : Int) : Bool := decide (d8 M d = 0 /\ id ≠ 0 /\ 40 <= r /\ r <= 256 /\ 10 + r <= cw M d)
def er : List Stp := (List.range 10).map fun i => .wr (i : Nat) aE
def jC (id : Nat) (r : Int) : List Stp := er ++ (.fl :: mkT id r.toNat 1 1 0)
def i6 (M : aK) (d : Int) (id : Nat) (r : Int) : Int := if uX M d id r = true then goE d M (jC id r) else 2
def jc (M : aK) (d : Int) (id : Nat) (r : Int) : aK := if uX M d id r = true then goB d M (jC id r) else M
def mT (d : Int) (id : Nat) (r : Int) : LgS := ⟨d.toNat, id, r.toNat, 1, 1, 0, []⟩
def uZ (M : aK) (d : Int) : Bool := decide (d8 M d = 0 /\ 50 <= cw M d)
def dG (M : aK) (d : Int) : Mk := bf.nX (df M d 0) (df M d 1)
def im (M : aK) (d : Int) : LgS := ⟨d.toNat, (dG M d).m.id, (dG M d).m.ring.toNat, (dG M d).n, (dG M d).m.first, (dG M d).m.pos, []⟩
def sG (M : aK) (d : Int) : Bool := decide (bf.nE (df M d 0) (df M d 1) = 0 /\ (dG M d).m.ring <= cw M d - 10 /\ (dG M d).n <= 2305843009213693952 /\ (dG M d).m.first <= 2305843009213693952 /\ (dG M d).m.pos <= 2305843009213693952)
def sC (x : LgS) (z : Blk) : Bool := decide (a9.gE z = 0 /\ (a9.gX z).seq = x.next /\ (a9.gX z).pos = x.head /\ bF (a9.gX z) <= x.free)
def LgS.with_ (x : LgS) (n : Nte) : LgS := { x with nts := x.nts ++ [n] }
def j5 (M : aK) : Nat -> LgS -> LgS
 |0, x => x
 |k + 1, x => if sC x (df M x.d (cH x.next)) = true then j5 M k (x.with_ (a9.gX (df M x.d (cH x.next)))) else x
def eZ (M : aK) (d : Int) : Int := if uZ M d = true then (if cM M d 0 = 0 then (if sG M d = true then 0 else 5) else cM M d 0) else 2
def l7 (M : aK) (d : Int) : LgS := j5 M 8 (im M d)
def cU (x : LgS) (cs : List Cl) : Nte := ⟨x.next, x.head, (cs.length : Int), fT (dC cs)⟩
def gR (x : LgS) (cs : List Cl) : Int := if gc cs ≠ 0 then gc cs else if 8 <= x.nts.length \/ x.free < (dC cs).length then 10 else 0
def ow (r p : Nat) (l : List Blk) : List Stp := (List.range l.length).map fun i => .wr (cx r (p + i)) (l.getD i aE)
def dI (x : LgS) (cs : List Cl) : List Stp := ow x.size x.head (dC cs) ++ [.fl, .wr (cH x.next) (a9.pB (cU x cs)), .fl]
def iL (M : aK) (x : LgS) (cs : List Cl) : Int := if gR x cs = 0 then goE x.d M (dI x cs) else gR x cs
def iP (M : aK) (x : LgS) (cs : List Cl) : aK := if gR x cs = 0 then goB x.d M (dI x cs) else M
def i8 (M : aK) (x : LgS) (cs : List Cl) : Nat := if iL M x cs = 0 then x.next else 0
def gQ (M : aK) (x : LgS) (cs : List Cl) : LgS := if iL M x cs = 0 then x.with_ (cU x cs) else x
def ac7 (x : LgS) (q : Nat) : Bool := decide (x.fst <= q /\ q < x.next)
def LgS.note (x : LgS) (q : Nat) : Nte := x.nts.getD (q - x.fst) bc
def kT (M : aK) (x : LgS) (n : Nte) : List Blk := (List.range (bF n)).map fun i => df M x.d (cx x.size (n.pos + i))
def zG (l : List Blk) (n : Nte) : Int := if fT l = n.sum then rgE l n.cells else 6
def iA (M : aK) (x : LgS) (q : Nat) : Int := if ac7 x q = true then (if cM M x.d (cx x.size (x.note q).pos) = 0 then zG (kT M x (x.note q)) (x.note q) else cM M x.d (cx x.size (x.note q).pos)) else 7
def nr (M : aK) (x : LgS) (q : Nat) : List Cl := if iA M x q = 0 then rgC (kT M x (x.note q)) (x.note q).cells else []
def ny (x : LgS) (f : Nat) : Bool := decide (x.fst <= f /\ f <= x.next)
def LgS.at_ (x : LgS) (f : Nat) : Nat := x.pos + usd (x.nts.take (f - x.fst))
def hM (M : aK) (x : LgS) (f : Nat) : Int := if ny x f = true then goE x.d M (mkT x.own x.size (x.cnt + 1) f (x.at_ f)) else 2
def i5 (M : aK) (x : LgS) (f : Nat) : aK := if ny x f = true then goB x.d M (mkT x.own x.size (x.cnt + 1) f (x.at_ f)) else M
def LgS.cut (x : LgS) (f : Nat) : LgS := ⟨x.d, x.own, x.size, x.cnt + 1, f, x.at_ f, x.nts.drop (f - x.fst)⟩
def fV (M : aK) (x : LgS) (f : Nat) : LgS := if hM M x f = 0 then x.cut f else x
section
variable {x : LgS} {f : Nat} {n : Nte}
theorem aaz : (x.with_ n).next = x.next + 1 := by unfold LgS.with_ LgS.next; simp; omega
theorem re : (x.with_ n).used = x.used + bF n := by unfold LgS.with_ LgS.used; simp [ko, ada, aeu]
theorem zt : (x.with_ n).head = x.head + bF n := by unfold LgS.head; rw [re]; show x.pos + _ = _; omega
theorem sq (h : ny x f = true) : x.fst <= f /\ f <= x.next := of_decide_eq_true h
theorem aa6 (h : ny x f = true) : (x.cut f).next = x.next := by
 have := sq h;unfold LgS.next at *;unfold LgS.cut;simp only [List.length_drop];omega
theorem adq (h : ny x f = true) : (x.cut f).head = x.head := by
 unfold LgS.head LgS.used LgS.cut LgS.at_;simp only;have := jS x.nts (f - x.fst);omega
theorem abg (h : ny x f = true) : (x.cut f).used <= x.used := by
 unfold LgS.used LgS.cut;simp only;have := jS x.nts (f - x.fst);omega
end
def bi : Elt Nte where
 s := 57
 t := 107
 n := 4
 by_ := 32
 cel := bj
 d := bc
 z := nte bc
 pos := by omega
 small := by omega
 len := mP
 one := lh
 und := underlying57
 info := by kernel_rfl
 zc := by show (Value.cells (.agg _)).size = 4; simp [Value.cells, bj]
def Shp (M M' : aK) : Prop := M'.ds.length = M.ds.length /\ ∀ i, (M'.ds.getD i ch).S.length = (M.ds.getD i ch).S.length
theorem Shp.refl (M : aK) : Shp M M := ⟨rfl, fun _ => rfl⟩
theorem Shp.trans {M M' M'' : aK} (h : Shp M M') (k : Shp M' M'') : Shp M M'' := ⟨k.1.trans h.1, fun i => (k.2 i).trans (h.2 i)⟩
theorem Shp.put {M M' : aK} {k : Nat} {d : fF} (h : Shp M M') (hd : d.S.length = (M'.ds.getD k ch).S.length) : Shp M (M'.put k d) := by
 refine ⟨by show (M'.ds.set k d).length = _; rw [List.length_set]; exact h.1, fun i => ?_⟩
 show ((M'.ds.set k d).getD i ch).S.length = _
 by_cases e : i = k
 ·subst e;by_cases hl : i < M'.ds.length
  ·rw [jh hl, hd]; exact h.2 i
  ·rw [show M'.ds.set i d = M'.ds from List.set_eq_of_length_le (by omega)]; exact h.2 i
 ·rw [ik e]; exact h.2 i
theorem jU (M : aK) (d : Int) : (M.dev d) = M.ds.getD d.toNat ch := rfl
theorem ah0 (M : aK) (d n : Int) (b : Blk) : Shp M (eS M d n b) := by
 unfold eS
 split
 ·split
  ·exact Shp.refl M
  ·exact Shp.put (M' := M.done) (Shp.refl M) rfl
 ·exact Shp.refl M
theorem aha (M : aK) (d : Int) : Shp M (eJ M d) := by
 unfold eJ
 split
 ·split
  ·exact Shp.refl M
  ·exact Shp.put (M' := M.done) (Shp.refl M) (mJ _ _)
 ·exact Shp.refl M
theorem aim (M : aK) (d : Int) : Shp M (kw M d) := by
 unfold kw
 split
 ·exact Shp.put (Shp.refl M) rfl
 ·exact Shp.refl M
theorem ah8 (M : aK) (d : Int) : Shp M (i9 M d) := by
 unfold i9
 split
 ·exact Shp.put (Shp.refl M) (by rw [List.length_replicate]; rfl)
 ·exact Shp.refl M
theorem ahG (M : aK) (n : Int) : Shp M (iv M n) := by
 unfold iv
 split
 ·exact Shp.refl M
 ·exact Shp.refl M
theorem aid (M : aK) (d n i : Int) (u : UInt8) : Shp M (kz M d n i u) := by
 unfold kz
 split
 ·exact Shp.put (Shp.refl M) (kZ _ _ _ _ _)
 ·exact Shp.refl M
theorem rf : ∀ (ds : List fF) (P : List Int), (fR ds P).length = ds.length /\ ∀ i, ((fR ds P).getD i ch).S.length = (ds.getD i ch).S.length
 |[], P => ⟨rfl, fun _ => rfl⟩
 |d :: ds, P => by
  obtain ⟨h1, h2⟩ := rf ds (P.drop (min d.L.length P.length));refine ⟨by show (_ :: fR ds _).length = _; rw [List.length_cons, h1, List.length_cons], fun i => ?_⟩;cases i with
  |zero => exact m8 _ _ _ _
  |succ i => exact h2 i
theorem aht (M : aK) (P : List Int) : Shp M (vH M P) := rf M.ds P
theorem yQ (d : Int) (M : aK) (s : Stp) : Shp M (ou d M s) := by
 cases s with
 |wr n b => exact ah0 M d n b
 |fl => exact aha M d
theorem xj (d : Int) (l : List Stp) : ∀ M, Shp M (goB d M l) := by
 induction l with
 |nil => intro M; exact Shp.refl M
 |cons s l ih =>
  intro M;by_cases h : ju d M s = 0
  ·rw [(go_ok h).2]; exact (yQ d M s).trans (ih _)
  ·rw [(jj h).2]; exact yQ d M s
theorem o0 {M : aK} {k : Nat} {m n : Int} (hm : 0 <= m /\ m < (M.ds.getD k ch).S.length) (hn : 0 <= n /\ n < (M.ds.getD k ch).S.length) : cM M (k : Int) m = cM M (k : Int) n := by
 unfold cM;rw [aK.ji];unfold dm;rw [if_pos hm, if_pos hn]
structure cg (M : aK) (x : LgS) (N : Nat) : Prop where
 dev : x.d < M.ds.length
 len : 10 + x.size <= (M.ds.getD x.d ch).S.length
 siz : 40 <= x.size /\ x.size <= 256
 own : x.own < 18446744073709551616
 use : x.used <= x.size
 eig : x.nts.length <= 8
 lim : N <= 1000000
 cnt : x.cnt <= 2305843009213693952 + N
 nxt : x.next <= 2305843009213693960 + N
 hed : x.head <= 2305843009213694208 + 40 * N
 nts : ∀ i, i < x.nts.length -> 1 <= (x.nts.getD i bc).cells /\ (x.nts.getD i bc).cells <= 32 /\ (x.nts.getD i bc).pos = x.pos + usd (x.nts.take i) /\ (x.nts.getD i bc).fit
section
variable {M M' : aK} {x : LgS} {N N' : Nat} {cs : List Cl} {f : Nat} {n : Nte}
theorem cg.shp (h : cg M x N) (k : Shp M M') : cg M' x N := ⟨by rw [k.1]; exact h.dev, by rw [k.2]; exact h.len, h.siz, h.own, h.use, h.eig, h.lim, h.cnt, h.nxt, h.hed, h.nts⟩
theorem cg.more (h : cg M x N) (hN : N <= N') (h6 : N' <= 1000000) : cg M x N' := ⟨h.dev, h.len, h.siz, h.own, h.use, h.eig, h6, by have := h.cnt; omega, by have := h.nxt; omega, by have := h.hed; omega, h.nts⟩
theorem cg.with_ (h : cg M x N) (h8 : x.nts.length < 8) (hc : 1 <= n.cells /\ n.cells <= 32) (hp : n.pos = x.head) (hf : n.fit) (ht : bF n <= x.free) (hN : N' <= 1000000) (h1 : x.next + 1 <= 2305843009213693960 + N') (h2 : x.head + bF n <= 2305843009213694208 + 40 * N') (h3 : x.cnt <= 2305843009213693952 + N') : cg M (x.with_ n) N' := by
 have hu := h.use;have hfr : x.free = x.size - x.used := rfl;refine ⟨h.dev, h.len, h.siz, h.own, by rw [re]; show _ <= x.size; omega, by show (x.nts ++ [n]).length <= 8; rw [List.length_append, List.length_singleton]; omega, hN, h3, by rw [aaz]; exact h1, by rw [zt]; exact h2, fun i hi => ?_⟩;have hi' : i < x.nts.length + 1 := by have : i < (x.nts ++ [n]).length := hi; rwa [List.length_append, List.length_singleton] at this
 show 1 <= ((x.nts ++ [n]).getD i bc).cells /\ ((x.nts ++ [n]).getD i bc).cells <= 32 /\ ((x.nts ++ [n]).getD i bc).pos = x.pos + usd ((x.nts ++ [n]).take i) /\ ((x.nts ++ [n]).getD i bc).fit
 by_cases e : i = x.nts.length
 ·subst e;have e1 : (x.nts ++ [n]).getD x.nts.length bc = n := by simp [List.getD]
  rw [e1, List.take_append_of_le_length aj, List.take_length];exact ⟨hc.1, hc.2, hp, hf⟩
 ·have hlt : i < x.nts.length := by omega
  have e1 : (x.nts ++ [n]).getD i bc = x.nts.getD i bc := by simp [List.getD, List.getElem?_append_left hlt]
  rw [e1, List.take_append_of_le_length (by omega)];exact h.nts i hlt
theorem cg.app (h : cg M x N) (hq : gR x cs = 0) (hN : N + 1 <= 1000000) : cg M (x.with_ (cU x cs)) (N + 1) := by
 have hq' : gc cs = 0 /\ x.nts.length < 8 /\ (dC cs).length <= x.free := by
  unfold gR at hq;by_cases h1 : gc cs = 0
  ·rw [if_neg (by omega)] at hq;by_cases h2 : 8 <= x.nts.length \/ x.free < (dC cs).length
   ·rw [if_pos h2] at hq; cases hq
   ·exact ⟨h1, by omega, by omega⟩
  ·rw [if_pos h1] at hq; omega
 obtain ⟨q1, q2, q3⟩ := hq';obtain ⟨r1, r2, _⟩ := sI q1;have ht : bF (cU x cs) = (dC cs).length := by unfold bF cU; rw [dz]; simp
 have hl := dz cs;have hh : hd cs.length <= 2 := by unfold hd; omega
 have hx := h.nxt;have hd := h.hed;have hc := h.cnt;have hs := mQ (dC cs);exact h.with_ q2 ⟨by show (1 : Int) <= (cs.length : Int); omega, by show (cs.length : Int) <= 32; omega⟩ rfl ⟨by show x.next < _; omega, by show x.head < _; omega, hs⟩ (by rw [ht]; exact q3) hN (by omega) (by rw [ht]; omega) (by omega)
theorem cg.cut (h : cg M x N) (hq : ny x f = true) (hN : N + 1 <= 1000000) : cg M (x.cut f) (N + 1) := by
 obtain ⟨f1, f2⟩ := sq hq;have hx := h.nxt;have hd := h.hed;have hc := h.cnt;have he := h.eig;have husd : ∀ g i, usd (x.nts.take (g + i)) = usd (x.nts.take g) + usd ((x.nts.drop g).take i) := fun g i => by rw [List.take_add, ko]
 refine ⟨h.dev, h.len, h.siz, h.own, ap (abg hq) h.use, by show (x.nts.drop _).length <= 8; rw [List.length_drop]; omega, hN, by show x.cnt + 1 <= _; omega, by rw [aa6 hq]; omega, by rw [adq hq]; omega, fun i hi => ?_⟩;have hi' : i < (x.nts.drop (f - x.fst)).length := hi;rw [List.length_drop] at hi';obtain ⟨n1, n2, n3, n4⟩ := h.nts (f - x.fst + i) (by omega);have e1 : (x.nts.drop (f - x.fst)).getD i bc = x.nts.getD (f - x.fst + i) bc := by simp [List.getD, List.getElem?_drop]
 show 1 <= ((x.nts.drop (f - x.fst)).getD i bc).cells /\ ((x.nts.drop (f - x.fst)).getD i bc).cells <= 32 /\ ((x.nts.drop (f - x.fst)).getD i bc).pos = x.at_ f + usd ((x.nts.drop (f - x.fst)).take i) /\ ((x.nts.drop (f - x.fst)).getD i bc).fit
 rw [e1];refine ⟨n1, n2, ?_, n4⟩;rw [n3, husd];unfold LgS.at_;omega
theorem cg.tak (h : cg M x N) {i : Nat} (hi : i < x.nts.length) : 2 <= bF (x.nts.getD i bc) /\ bF (x.nts.getD i bc) <= 34 := by
 obtain ⟨n1, n2, _⟩ := h.nts i hi;unfold bF hd;omega
theorem cg.vC (h : cg M x N) {i : Nat} (hi : i < x.nts.length) : usd (x.nts.take i) + bF (x.nts.getD i bc) <= x.used := by
 have h1 := gJ hi;have h2 := jS x.nts (i + 1);unfold LgS.used;omega
end
theorem ab1 {M : aK} {d : Int} {id : Nat} {r : Int} (hid : id < 18446744073709551616) (h : uX M d id r = true) : cg M (mT d id r) 0 := by
 obtain ⟨h1, h2, h3, h4, h5⟩ : d8 M d = 0 /\ id ≠ 0 /\ 40 <= r /\ r <= 256 /\ 10 + r <= cw M d := of_decide_eq_true h;unfold cw at h5;rw [if_pos h1, jU] at h5;rcases dS M d with ⟨e, _⟩ | ⟨_, k, rfl, hk⟩
 ·omega
 ·rw [Int.toNat_natCast] at h5;refine ⟨by show (k : Int).toNat < _; rw [Int.toNat_natCast]; exact hk, by show 10 + r.toNat <= (M.ds.getD (k : Int).toNat ch).S.length; rw [Int.toNat_natCast]; omega, by show 40 <= r.toNat /\ r.toNat <= 256; omega, hid, Nat.zero_le _, Nat.zero_le _, by omega, by show 1 <= _; omega, by show 1 + 0 <= _; omega, by show 0 + 0 <= _; omega, fun i hi => absurd hi (by show ¬ i < 0; omega)⟩
theorem kM {M : aK} {d : Int} (h : eZ M d = 0) : uZ M d = true /\ cM M d 0 = 0 /\ sG M d = true := by
 unfold eZ at h;by_cases h1 : uZ M d = true
 ·rw [if_pos h1] at h;by_cases h2 : cM M d 0 = 0
  ·rw [if_pos h2] at h;by_cases h3 : sG M d = true
   ·exact ⟨h1, h2, h3⟩
   ·rw [if_neg h3] at h; cases h
  ·rw [if_neg h2] at h; exact absurd h h2
 ·rw [if_neg h1] at h; cases h
theorem sf {M : aK} {d : Int} (h : eZ M d = 0) : cg M (im M d) 0 := by
 obtain ⟨h1, h2, h3⟩ := kM h;obtain ⟨a1, a2⟩ : d8 M d = 0 /\ 50 <= cw M d := of_decide_eq_true h1;obtain ⟨b1, b2, b3, b4, b5⟩ : bf.nE (df M d 0) (df M d 1) = 0 /\ (dG M d).m.ring <= cw M d - 10 /\ (dG M d).n <= 2305843009213693952 /\ (dG M d).m.first <= 2305843009213693952 /\ (dG M d).m.pos <= 2305843009213693952 := of_decide_eq_true h3;have hm : bf.may (dG M d) = true /\ bf.fits (dG M d) := by
  unfold dG Cod.nX;unfold Cod.nE at b1
  split
  ·rename_i hlt
   have : bf.gE (df M d 1) = 0 := by
    by_cases e : bf.gE (df M d 1) = 0
    ·exact e
    ·have := bf.jP e; omega
   exact ⟨bf.iX this, bf.pa _⟩
  ·rename_i hlt
   have : bf.gE (df M d 0) = 0 := by
    by_cases e : bf.gE (df M d 0) = 0
    ·exact e
    ·have h0 := bf.jP e;rw [if_pos ⟨h0, by omega⟩] at b1;omega
   exact ⟨bf.iX this, bf.pa _⟩
 obtain ⟨m1, m2⟩ := hm;obtain ⟨⟨n, m⟩, hy⟩ : ∃ y, dG M d = y := ⟨_, rfl⟩;rw [hy] at m1 m2 b2 b3 b4 b5;rw [eL, Bool.and_eq_true] at m1;obtain ⟨_, r1, r2, _, _, _⟩ := kr m1.2;simp only at b2 b3 b4 b5 r1 r2;unfold cw at a2 b2;rw [if_pos a1, jU] at a2 b2;have hX : im M d = ⟨d.toNat, m.id, m.ring.toNat, n, m.first, m.pos, []⟩ := by unfold im; rw [hy]
 rw [hX];rcases dS M d with ⟨e, _⟩ | ⟨_, k, rfl, hk⟩
 ·omega
 ·rw [Int.toNat_natCast] at *;exact ⟨hk, by show 10 + m.ring.toNat <= (M.ds.getD k ch).S.length; omega, by show 40 <= m.ring.toNat /\ m.ring.toNat <= 256; omega, m2.2.1, Nat.zero_le _, Nat.zero_le _, by omega, by show n <= _; omega, by show m.first + 0 <= _; omega, by show m.pos + 0 <= _; omega, fun i hi => absurd hi (by show ¬ i < 0; omega)⟩
theorem r4 {M : aK} : ∀ (k : Nat) (x : LgS), cg M x 0 -> x.nts.length + k <= 8 -> x.fst <= 2305843009213693952 -> x.pos <= 2305843009213693952 -> cg M (j5 M k x) 0
 |0, x, h, _, _, _ => h
 |k + 1, x, h, hl, hf, hp => by
  unfold j5
  split
  ·rename_i hq
   obtain ⟨q1, q2, q3, q4⟩ : a9.gE (df M x.d (cH x.next)) = 0 /\ (a9.gX (df M x.d (cH x.next))).seq = x.next /\ (a9.gX (df M x.d (cH x.next))).pos = x.head /\ bF (a9.gX (df M x.d (cH x.next))) <= x.free := of_decide_eq_true hq;have m1 := gj (a9.iX q1);have m2 : (a9.gX (df M x.d (cH x.next))).fit := a9.pa _;have hu := h.use;have hs := h.siz;have hfr : x.free = x.size - x.used := rfl;have hhd : x.head = x.pos + x.used := rfl;have hnx : x.next = x.fst + x.nts.length := rfl;have hc := h.cnt;refine r4 k _ (h.with_ (by omega) ⟨m1.2.2.2.1, m1.2.2.2.2⟩ q3 m2 q4 (by omega) (by omega) (by omega) hc) ?_ hf hp
   show (x.nts ++ [_]).length + k <= 8
   rw [List.length_append, List.length_singleton];omega
  ·exact h
theorem ahD {M : aK} {d : Int} (h : eZ M d = 0) : cg M (l7 M d) 0 := by
 have h0 := sf h;obtain ⟨_, _, h3⟩ := kM h;obtain ⟨_, _, _, b4, b5⟩ : bf.nE (df M d 0) (df M d 1) = 0 /\ (dG M d).m.ring <= cw M d - 10 /\ (dG M d).n <= 2305843009213693952 /\ (dG M d).m.first <= 2305843009213693952 /\ (dG M d).m.pos <= 2305843009213693952 := of_decide_eq_true h3;exact r4 8 _ h0 (by show 0 + 8 <= 8; omega) b4 b5
section
variable {ρ : Operand -> Value} {o : Oper} {x y : Operand} {w : World} {A : Option Addr} {n c k B : Nat} {l : List Int} {F : Nat -> Prop}
def nZ (A : Option Addr) (c k : Nat) : Option Addr := if c = k then A else A.map (fun x => x.add k)
theorem p4 (ho : o.op = .slice 36 x (some y) none none) (hx : ρ x = .slice A n c) (hy : ρ y = .int .i64 (k : Int)) (hk : k <= n) : (execOp ρ o).run prog w = .ok (.value (.slice (nZ A c k) (n - k) (c - k))) w := by
 unfold execOp nZ;simp [ho, hx, hy, Instr.sliceAt, Instr.slice, Instr.sliceBounds, Instr.sliceBound, asIntOf, run_underlying underlying36];intro hh;omega
theorem RdE.nZ (h : RdE dw w B A n l) (hk : k <= n) (hc : n <= c) : RdE dw w B (Go.Proofs.YtcpbekopbeaflaaGreatDoor.nZ A c k) (n - k) (l.drop k) :=
 ⟨by rw [List.length_drop, h.1], fun j hj => by
  obtain ⟨b, off, e, hb, hr⟩ := h.2 (k + j) (by omega);refine ⟨b, off + k, ?_, hb, ?_⟩
  ·unfold Go.Proofs.YtcpbekopbeaflaaGreatDoor.nZ;rw [if_neg (by omega), e];simp [Addr.add_mid]
  ·rw [List.getD, List.getElem?_drop, show off + k + j * dw.n = off + (k + j) * dw.n from by show off + k + j * 1 = off + (k + j) * 1; omega];exact hr⟩
structure Pk (w : World) (F : Nat -> Prop) (A : Option Addr) (n c : Nat) (P : List Int) : Prop where
 rd : RdE dw w w.heap.size A n P
 le : n <= c
 cap : c <= maxLen
 out : ∀ x, A = some x -> 0 < n -> ¬ F x.block
theorem Pk.tail (h : Pk w F A n c l) (hk : k <= n) : Pk w F (Go.Proofs.YtcpbekopbeaflaaGreatDoor.nZ A c k) (n - k) (c - k) (l.drop k) :=
 ⟨h.rd.nZ hk h.le, by have := h.le; omega, by have := h.cap; omega, fun x hx h0 => by
  have h1 := h.le;unfold Go.Proofs.YtcpbekopbeaflaaGreatDoor.nZ at hx;rw [if_neg (by omega)] at hx;cases A with
  |none => cases hx
  |some a =>
   have hb : x.block = a.block := by
    simp at hx;rw [<- hx];unfold Addr.add
    split <;> rfl
   rw [hb];exact h.out a rfl (by omega)⟩
theorem Pk.only {w' : World} (h : Pk w F A n c l) (k : Only F w w') : RdE dw w' w'.heap.size A n l := (h.rd.only k aj h.out).more k.size
theorem Pk.len (h : Pk w F A n c l) : l.length = n := h.rd.1
theorem Pk.grown {w' : World} {G : Nat -> Prop} (h : Pk w F A n c l) (hg : ∀ b, G b -> F b \/ w.heap.size <= b) : ∀ x, A = some x -> 0 < n -> ¬ G x.block := fun x hx h0 hf => by
 rcases hg _ hf with e | e
 ·exact h.out x hx h0 e
 ·obtain ⟨b, off, e1, hb, _⟩ := h.rd.2 0 h0;rw [hx] at e1;injection e1 with e1;subst e1;exact absurd e (by show ¬ w.heap.size <= b; omega)
end
section
variable {α : Type} {E : Elt α} {ρ : Operand -> Value} {o : Oper} {x y : Operand} {w : World} {b off : Nat} {a : α} {d : TypeDesc}
theorem qH (E : Elt α) : (prog.info? E.t).map (·.size) = some E.n := by
 obtain ⟨i0, hi, hz0, hz1, hz2⟩ := info_parts E.info;rw [hi]; simp [hz1]
theorem wU (hu : prog.underlying E.t = some d) (hd : d.isRow = true) (ho : o.op = .load E.t x) (hx : ρ x = .pointer (some ⟨b, off, none⟩)) (hc : w.rangeAt b off (E.cel a)) : (execOp ρ o).run prog w = .ok (.value (.agg (E.cel a).toArray)) w :=
 aA ho hx (run_loadAt_mid w b off E.t (E.cel a) d hc hu hd (by rw [E.len]; exact qH E))
theorem tX (ho : o.op = .alloc E.t) : (execOp ρ o).run prog w = .ok (.value (.pointer (some ⟨w.heap.size, 0, none⟩))) (w.alloc (.cells E.z.cells E.t)) := by
 have hz := jH E w;unfold execOp;simp [ho, Instr.alloc, hz, newVar, newRow]
theorem xd (ho : o.op = .store E.t x y) (hx : ρ x = .pointer (some ⟨w.heap.size, 0, none⟩)) (hy : ρ y = .agg (E.cel a).toArray) : (execOp ρ o).run prog (w.alloc (.cells E.z.cells E.t)) = .ok .skip (w.alloc (.cells (E.cel a).toArray E.t)) :=
 dU ho hx hy (run_storeAt_new (P := prog) w E.t E.z.cells (E.cel a).toArray (by simpa [E.len] using qH E) (by simpa [E.len] using E.zc) (all_oneCell_toArray (E.one a)))
end
section
variable {w : World} {q : Int × Blk} {t : TypeId}
theorem ue (w : World) (q : Int × Blk) (t : TypeId) : (w.alloc (.cells (eP q).toArray t)).cell? ⟨w.heap.size, 0, none⟩ = some (.int .i64 q.1) /\ (w.alloc (.cells (eP q).toArray t)).rangeAt w.heap.size 1 (cel q.2) := by
 have h := b8 w (eP q) t;refine ⟨h 0 _ rfl, fun j v hj => ?_⟩;have := h (j + 1) v hj;rwa [show 0 + (j + 1) = 1 + j from by omega] at this
theorem RdE.pairs {s t : TypeId} {und : prog.underlying s = some (.slice t)} {info : (prog.info? t).map (fun i => (i.zero, i.size, i.bytes)) = some (some (jo 0 aE), 65, 72)} {B n k : Nat} {A : Option Addr} {l : List (Int × Blk)}
  (h : RdE (um s t und info) w B A n l) (hk : k < n) : ∃ b off, A = some ⟨b, off, none⟩ /\ b < B /\ w.rangeAt b (off + k * 65) (eP (l.getD k (0, aE))) := h.2 k hk
end
def ptr (x : Nat) : Value := .pointer (some ⟨x, 0, none⟩)
def ah7 (s t : TypeId) (und : prog.underlying s = some (.slice t)) (info : (prog.info? t).map (fun i => (i.zero, i.size, i.bytes)) = some (some (.pointer none), 1, 8)) : Elt Nat where
 s := s
 t := t
 n := 1
 by_ := 8
 cel := fun x => [ptr x]
 d := 0
 z := .pointer none
 pos := by omega
 small := by omega
 len := fun _ => rfl
 one := fun a v hv => by simp only [List.mem_singleton] at hv; subst hv; rfl
 und := und
 info := info
 zc := rfl
section
variable {s t : TypeId} {und : prog.underlying s = some (.slice t)} {info : (prog.info? t).map (fun i => (i.zero, i.size, i.bytes)) = some (some (.pointer none), 1, 8)} {w : World} {B n k : Nat} {A : Option Addr} {l : List Nat}
theorem RdE.ptr (h : RdE (ah7 s t und info) w B A n l) (hk : k < n) : ∃ b off, A = some ⟨b, off, none⟩ /\ b < B /\ w.cell? ⟨b, off + k, none⟩ = some (.pointer (some ⟨l.getD k 0, 0, none⟩)) := by
 obtain ⟨b, off, e, hb, hc⟩ := h.2 k hk;have := hc 0 (Go.Proofs.YtcpbekopbeaflaaGreatDoor.ptr (l.getD k 0)) rfl;exact ⟨b, off, e, hb, by simpa [ah7, Go.Proofs.YtcpbekopbeaflaaGreatDoor.ptr] using this⟩
end
structure gY where
 K : DvK
 s : TypeId
 t : TypeId
 und : prog.underlying s = some (.slice t)
 info : (prog.info? t).map (fun i => (i.zero, i.size, i.bytes)) = some (some (.pointer none), 1, 8)
 o : TypeId
 cs : Value -> Nat -> Bool -> Nat -> Array Value
 ne : t ≠ o
def gY.E (k : gY) : Elt Nat := ah7 k.s k.t k.und k.info
structure bz (k : gY) (w : World) (p : Nat) (v : Value) (Fs : Nat -> Nat -> Prop) (ps : List Nat) (M : aK) : Prop where
 at_ : w.heap[p]? = some (.cells (k.cs v M.left M.dx M.steps) k.o)
 row : aO k.E w 0 v ps
 ey : lA k.K w Fs ps M.ds
 apart : ∀ i, i < M.ds.length -> ∀ b, Fs i b -> b ≠ p /\ v.ownBlock ≠ some b
 one : 1 <= M.ds.length
 cap : M.ds.length <= 17
def fc (p : Nat) (v : Value) (Fs : Nat -> Nat -> Prop) (n : Nat) (b : Nat) : Prop := b = p \/ v.ownBlock = some b \/ ∃ i, i < n /\ Fs i b
section
variable {k : gY} {w w' : World} {p : Nat} {v : Value} {Fs : Nat -> Nat -> Prop} {ps : List Nat} {M : aK} {G F' : Nat -> Prop} {i : Nat}
theorem bz.vG (h : bz k w p v Fs ps M) : v.ownBlock ≠ some p := h.row.dl h.at_ k.ne
theorem bz.lt (h : bz k w p v Fs ps M) : ∀ b, fc p v Fs M.ds.length b -> b < w.heap.size := by
 intro b hb;rcases hb with rfl | hb | ⟨i, hi, hb⟩
 ·exact aR h.at_
 ·exact h.row.ie b hb
 ·exact h.ey.lt i hi b hb
theorem bz.only (h : bz k w p v Fs ps M) (ho : Only G w w') (hn : ∀ b, fc p v Fs M.ds.length b -> ¬ G b) : bz k w' p v Fs ps M :=
 ⟨ho.keep h.at_ (hn p (.inl rfl)), h.row.only ho fun b hb => hn b (.inr (.inl hb)), h.ey.only ho fun i hi b hb => hn b (.inr (.inr ⟨i, hi, hb⟩)), h.apart, h.one, h.cap⟩
theorem bz.below (h : bz k w p v Fs ps M) (hb : Below w.heap.size w w') : bz k w' p v Fs ps M := h.only (Only.of_below (fun _ => False) hb) fun _ _ e => e
theorem bz.len (h : bz k w p v Fs ps M) : ps.length = M.ds.length := h.ey.len
theorem bz.obj (h : bz k w p v Fs ps M) (left : Nat) (dx : Bool) (steps : Nat) (ho : Only (fun b => b = p) w w') (hc : w'.heap[p]? = some (.cells (k.cs v left dx steps) k.o)) : bz k w' p v Fs ps ⟨M.ds, left, dx, steps⟩ :=
 ⟨hc, h.row.only ho fun b hb e => h.vG (by rw [hb, e]), h.ey.only ho fun i hi b hb e => (h.apart i hi b hb).1 e, h.apart, h.one, h.cap⟩
theorem bz.turn (h : bz k w p v Fs ps M) (hi : i < M.ds.length) (ho : Only (Fs i) w w') (hg : Grow w (Fs i) F') {d : fF} (hd : k.K.Dv w' F' (ps.getD i 0) d.S d.L d.g) :
  bz k w' p v (upF Fs i F') ps (M.put i d) := by
 refine ⟨ho.keep h.at_ (fun e => (h.apart i hi p e).1 rfl), h.row.only ho fun b hb e => (h.apart i hi b e).2 hb, h.ey.turn hi ho hg hd, fun j hj b hb => ?_, by show 1 <= (M.ds.set i d).length; rw [List.length_set]; exact h.one, by show (M.ds.set i d).length <= 17; rw [List.length_set]; exact h.cap⟩;have hj' : j < M.ds.length := by have : j < (M.ds.set i d).length := hj; rwa [List.length_set] at this
 rcases hb with ⟨e, hb⟩ | ⟨e, hb⟩
 ·rcases hg b hb with hb | hb
  ·exact h.apart i hi b hb
  ·have h1 := aR h.at_;exact ⟨fun e => by omega, fun e => by have := h.row.ie b e; omega⟩
 ·exact h.apart j hj' b hb
theorem xC (hi : i < M.ds.length) (ho : Only (Fs i) w w') : Only (fc p v Fs M.ds.length) w w' := ho.widen fun b hb => .inr (.inr ⟨i, hi, hb⟩)
theorem nf (n : Nat) (ho : Only (fun b => b = p) w w') : Only (fc p v Fs n) w w' := ho.widen fun b hb => .inl hb
theorem qD {n : Nat} (hi : i < n) (hg : Grow w (Fs i) F') {n' : Nat} (hn : n' = n) : Grow w (fc p v Fs n) (fc p v (upF Fs i F') n') := by
 subst hn;intro b hb;rcases hb with e | e | ⟨j, hj, hb⟩
 ·exact .inl (.inl e)
 ·exact .inl (.inr (.inl e))
 ·rcases hb with ⟨e, hb⟩ | ⟨e, hb⟩
  ·rcases hg b hb with hb | hb
   ·exact .inl (.inr (.inr ⟨i, hi, hb⟩))
   ·exact .inr hb
  ·exact .inl (.inr (.inr ⟨j, hj, hb⟩))
theorem bz.slice (h : bz k w p v Fs ps M) : ∃ g c, v = .slice (some ⟨g, 0, none⟩) M.ds.length c /\ M.ds.length <= c /\ c <= maxLen := by
 have hl := h.len;have h1 := h.one;rcases h.row.2 with ⟨rfl, h0⟩ | ⟨g, cap, cur, rfl, _, _, hc1, hc2, _⟩
 ·omega
 ·exact ⟨g, cap, by rw [hl], by omega, hc2⟩
theorem bz.cell {g c : Nat} (h : bz k w p (.slice (some ⟨g, 0, none⟩) M.ds.length c) Fs ps M) (hi : i < M.ds.length) : w.cell? ⟨g, i, none⟩ = some (.pointer (some ⟨ps.getD i 0, 0, none⟩)) := by
 have hr : RdE k.E w w.heap.size (some ⟨g, 0, none⟩) M.ds.length ps := h.row.rd;obtain ⟨b, off, e, _, hc⟩ := RdE.ptr (und := k.und) (info := k.info) hr hi;injection e with e;injection e with e1 e2;subst e1 e2;rw [Nat.zero_add] at hc;exact hc
theorem bz.frozen {g c : Nat} (h : bz k w p (.slice (some ⟨g, 0, none⟩) M.ds.length c) Fs ps M) (j : Nat) : w.frozen? ⟨g, j, none⟩ = false := by
 obtain ⟨_, _, post, hg, _⟩ := h.row.parts;exact frozen_of_row w g j _ _ hg
theorem bz.swap {g c : Nat} {w1 : World} (h : bz k w p (.slice (some ⟨g, 0, none⟩) M.ds.length c) Fs ps M) (hi : i < M.ds.length) (hb : Below w.heap.size w w1) (hF : ∀ b, F' b -> w.heap.size <= b) {p' : Nat} {d : fF} (hd : k.K.Dv w1 F' p' d.S d.L d.g) :
  bz k (w1.setCell ⟨g, i, none⟩ (.pointer (some ⟨p', 0, none⟩))) p (.slice (some ⟨g, 0, none⟩) M.ds.length c) (upF Fs i F') (ps.set i p') (M.put i d) := by
 have h1 := h.below hb;have ho : Only (fun b => b = g) w1 (w1.setCell ⟨g, i, none⟩ (.pointer (some ⟨p', 0, none⟩))) := (Only.refl (fun b => b = g) w1).setCell (p := ⟨g, i, none⟩) (.inl rfl) _;have hgl : g < w.heap.size := h.row.ie g rfl;have hl := h.len;have hrow : aO k.E (w1.setCell ⟨g, i, none⟩ (.pointer (some ⟨p', 0, none⟩))) 0 (.slice (some ⟨g, 0, none⟩) M.ds.length c) (ps.set i p') := by
  have := h1.row.store hi p';rwa [show i * k.E.n = i from by show i * 1 = i; omega] at this
 refine ⟨ho.keep h1.at_ fun e => h.vG (by rw [e]; rfl), by show aO _ _ _ _ _; exact hrow, ?_, fun j hj b hb' => ?_, by show 1 <= (M.ds.set i d).length; rw [List.length_set]; exact h.one, by show (M.ds.set i d).length <= 17; rw [List.length_set]; exact h.cap⟩
 ·have hoo : Only (fun b => b = g) w (w1.setCell ⟨g, i, none⟩ (.pointer (some ⟨p', 0, none⟩))) := (Only.of_below (fun b => b = g) hb).trans ho fun b hb => .inl hb
  exact h.ey.set hi hoo (fun j hj _ b hb' e => (h.apart j hj b hb').2 (by rw [e]; rfl)) (fun b hb' => .inr (hF b hb')) (k.K.only hd ho fun b hb' e => by have := hF b hb'; omega)
 ·have hj' : j < M.ds.length := by have : j < (M.ds.set i d).length := hj; rwa [List.length_set] at this
  rcases hb' with ⟨e, hb'⟩ | ⟨e, hb'⟩
  ·have h2 := hF b hb';have h3 := aR h.at_;exact ⟨fun e => by omega, fun e => by have := h.row.ie b e; omega⟩
  ·exact h.apart j hj' b hb'
end
theorem aK.lc (M : aK) (k : Nat) (d : fF) : (M.put k d).ds.length = M.ds.length := by show (M.ds.set k d).length = _; rw [List.length_set]
section
variable {k : gY} {w w' : World} {p : Nat} {v : Value} {Fs : Nat -> Nat -> Prop} {ps : List Nat} {M : aK}
def Left (k : gY) (w : World) (p : Nat) (v : Value) (Fs : Nat -> Nat -> Prop) (ps : List Nat) (n : Nat) (M' : aK) (w' : World) : Prop :=
 ∃ Fs' ps', bz k w' p v Fs' ps' M' /\ Only (fc p v Fs n) w w' /\ Grow w (fc p v Fs n) (fc p v Fs' M'.ds.length)
theorem Left.same (h : bz k w p v Fs ps M) {M' : aK} (e : M' = M) : Left k w p v Fs ps M.ds.length M' w := by
 subst e; exact ⟨Fs, ps, h, Only.refl _ _, Grow.same _ _⟩
theorem Left.turn (h : bz k w p v Fs ps M) {i : Nat} {F' : Nat -> Prop} {d : fF} (hi : i < M.ds.length) (ho : Only (Fs i) w w') (hg : Grow w (Fs i) F') (hd : k.K.Dv w' F' (ps.getD i 0) d.S d.L d.g) {M' : aK} (e : M' = M.put i d) : Left k w p v Fs ps M.ds.length M' w' := by
 subst e;exact ⟨_, _, h.turn hi ho hg hd, xC hi ho, qD hi hg (M.lc i d)⟩
theorem Left.behind {w1 : World} {n : Nat} {M' : aK} (ho : Only (fun b => b = p) w w1) (h : Left k w1 p v Fs ps n M' w') : Left k w p v Fs ps n M' w' := by
 obtain ⟨Fs', ps', h1, h2, h3⟩ := h;refine ⟨Fs', ps', h1, (nf n ho).trans h2 fun b hb => .inl hb, fun b hb => ?_⟩;rcases h3 b hb with e | e
 ·exact .inl e
 ·exact .inr (ap ho.size e)
theorem Left.obj {M' : aK} (h : bz k w' p v Fs ps M') (ho : Only (fun b => b = p) w w') {n : Nat} (hn : M'.ds.length = n) : Left k w p v Fs ps n M' w' := by
 subst hn;exact ⟨Fs, ps, h, nf _ ho, Grow.same _ _⟩
theorem Left.qa (h : bz k w p v Fs ps M) (hb : Below w.heap.size w w') {M' : aK} (e : M' = M) : Left k w p v Fs ps M.ds.length M' w' := by
 subst e;exact ⟨Fs, ps, h.below hb, Only.of_below _ hb, Grow.same _ _⟩
theorem Left.above {w1 : World} {n : Nat} {M' : aK} (hb : Below w.heap.size w w1) (h : Left k w1 p v Fs ps n M' w') : Left k w p v Fs ps n M' w' := by
 obtain ⟨Fs', ps', h1, h2, h3⟩ := h;refine ⟨Fs', ps', h1, (Only.of_below _ hb).trans h2 fun b hb => .inl hb, fun b hb' => ?_⟩;rcases h3 b hb' with e | e
 ·exact .inl e
 ·exact .inr (ap hb.size e)
def gh (k : gY) (w0 wr : World) (p : Nat) (v : Value) (Fs : Nat -> Nat -> Prop) (ps : List Nat) (M : aK) (P : List Int) (j : Nat) (Fs' : Nat -> Nat -> Prop) : Prop :=
 bz k wr p v Fs' ps ⟨(d5 M.ds P j).1, M.left, M.dx, M.steps⟩ /\ Only (fc p v Fs M.ds.length) w0 wr /\ Grow w0 (fc p v Fs M.ds.length) (fc p v Fs' M.ds.length)
theorem gh.zero (h : bz k w p v Fs ps M) (P : List Int) : gh k w w p v Fs ps M P 0 Fs := by
 refine ⟨?_, Only.refl _ _, Grow.same _ _⟩;rw [show (d5 M.ds P 0).1 = M.ds from by rw [d5]];exact h
theorem gh.next {w0 w' : World} {Fs' : Nat -> Nat -> Prop} {F'' : Nat -> Prop} {P : List Int} {j : Nat} (h : gh k w0 w p v Fs ps M P j Fs') (hj : j < M.ds.length) (ho : Only (Fs' j) w w') (hg : Grow w (Fs' j) F'')
  (hd : k.K.Dv w' F'' (ps.getD j 0) (crI (M.ds.getD j ch).S (M.ds.getD j ch).L (d5 M.ds P j).2 (M.ds.getD j ch).L.length) [] (M.ds.getD j ch).g) : gh k w0 w' p v Fs ps M P (j + 1) (upF Fs' j F'') := by
 obtain ⟨h1, h2, h3⟩ := h;have hl : (d5 M.ds P j).1.length = M.ds.length := g8 j M.ds P;have hj' : j < (⟨(d5 M.ds P j).1, M.left, M.dx, M.steps⟩ : aK).ds.length := by show j < (d5 M.ds P j).1.length; rw [hl]; exact hj
 have h4 := h1.turn hj' ho hg (d := ⟨crI (M.ds.getD j ch).S (M.ds.getD j ch).L (d5 M.ds P j).2 (M.ds.getD j ch).L.length, [], (M.ds.getD j ch).g⟩) hd;refine ⟨?_, h2.trans ho fun b hb => ?_, fun b hb => ?_⟩
 ·rw [(k9 j M.ds P hj).1];exact h4
 ·exact h3 b (.inr (.inr ⟨j, hj, hb⟩))
 ·rcases qD (p := p) (v := v) hj hg rfl b hb with e | e
  ·exact h3 b e
  ·exact .inr (ap h2.size e)
theorem gh.dev {w0 : World} {Fs' : Nat -> Nat -> Prop} {P : List Int} {j : Nat} (h : gh k w0 w p v Fs ps M P j Fs') (hj : j < M.ds.length) : k.K.Dv w (Fs' j) (ps.getD j 0) (M.ds.getD j ch).S (M.ds.getD j ch).L (M.ds.getD j ch).g := by
 have := h.1.ey.at_ j (by show j < (d5 M.ds P j).1.length; rw [g8]; exact hj);rwa [tw j M.ds P j aj] at this
end
def qp (k : Int) : fF := ⟨List.replicate k.toNat aE, [], false⟩
theorem mf (ks : List Int) : (jB ks).ds = ks.map qp := rfl
structure Making (kd : gY) (w wr : World) (v : Value) (Fs : Nat -> Nat -> Prop) (ps : List Nat) (ds : List fF) (left : Nat) (dx : Bool) (steps : Nat) : Prop where
 at_ : wr.heap[w.heap.size]? = some (.cells (kd.cs v left dx steps) kd.o)
 row : aO kd.E wr w.heap.size v ps
 ey : lA kd.K wr Fs ps ds
 apart : ∀ i, i < ds.length -> ∀ b, Fs i b -> w.heap.size < b /\ v.ownBlock ≠ some b
 below : Below w.heap.size w wr
section
variable {kd : gY} {w wr w1 w3 : World} {v v' : Value} {Fs : Nat -> Nat -> Prop} {F' : Nat -> Prop} {ps : List Nat} {ds : List fF} {p' : Nat} {d : fF} {o2 : Obj} {left steps : Nat} {dx : Bool}
theorem Making.next (hcs : ∀ v v', (kd.cs v left dx steps).setIfInBounds 0 v' = kd.cs v' left dx steps) (h : Making kd w wr v Fs ps ds left dx steps) (hb1 : Below wr.heap.size wr w1) (hF : ∀ b, F' b -> wr.heap.size <= b) (hd : kd.K.Dv w1 F' p' d.S d.L d.g)
  (hm : aO kd.E w3 w.heap.size v' (ps ++ [p'])) (hg : (w1.alloc o2).grownBy w3 v.ownBlock) (ho : ∀ x, v'.ownBlock = some x -> v.ownBlock = some x \/ w1.heap.size + 1 <= x) :
  Making kd w (w3.setCell ⟨w.heap.size, 0, none⟩ v') v' (upF Fs ds.length F') (ps ++ [p']) (ds ++ [d]) left dx steps := by
 have hx := aR h.at_;have h1 := hb1.size;have hsz : (w1.alloc o2).heap.size = w1.heap.size + 1 := World.size_alloc _ _;have hvl : ∀ b, v.ownBlock = some b -> b < wr.heap.size := h.row.ie;have o3 : Only (fun b => v.ownBlock = some b) w1 w3 := (Only.of_below _ ((Below.refl _ w1).alloc aj o2)).trans ((Only.refl (fun b => v.ownBlock = some b) _).grown hg fun k e => .inl e) fun b hb => .inl hb
 have hvx : v.ownBlock ≠ some w.heap.size := h.row.dl h.at_ kd.ne;have hat1 := cC h.at_ hb1;have hat3 := o3.keep hat1 hvx;have o4 : Only (fun b => b = w.heap.size \/ v.ownBlock = some b) w1 (w3.setCell ⟨w.heap.size, 0, none⟩ v') := (o3.widen fun b hb => .inr hb).setCell (p := ⟨w.heap.size, 0, none⟩) (.inl (.inl rfl)) _;have hv3 : v'.ownBlock ≠ some w.heap.size := hm.dl hat3 kd.ne;have hdv := h.ey.push hb1 hF hd;have hap : ∀ i, i < (ds ++ [d]).length -> ∀ b, upF Fs ds.length F' i b -> w.heap.size < b /\ v.ownBlock ≠ some b /\ b < w1.heap.size := fun i hi b hb => by
  have hlt := hdv.lt i hi b hb;rcases hb with ⟨e, hb⟩ | ⟨e, hb⟩
  ·have := hF b hb;exact ⟨by omega, fun e => by have := hvl b e; omega, hlt⟩
  ·rw [List.length_append, List.length_singleton] at hi;exact ⟨(h.apart i (by omega) b hb).1, (h.apart i (by omega) b hb).2, hlt⟩
 refine ⟨?_, hm.only (dt w3 w.heap.size 0 v') fun b hb e => hv3 (by rw [hb, e]), hdv.only o4 fun i hi b hb e => ?_, fun i hi b hb => ⟨(hap i hi b hb).1, fun e => ?_⟩, ?_⟩
 ·have := heap_setCell_same w3 w.heap.size 0 _ _ v' hat3;rw [hcs] at this;exact this
 ·rcases e with e | e
  ·have := (hap i hi b hb).1; omega
  ·exact (hap i hi b hb).2.1 e
 ·rcases ho b e with e | e
  ·exact (hap i hi b hb).2.1 e
  ·have := (hap i hi b hb).2.2; omega
 ·have hb01 : Below w.heap.size w w1 := h.below.trans (hb1.mono h.below.size);refine hb01.trans (o4.below (fun b hb => ?_) hb01.size);rcases hb with e | e
  ·omega
  ·exact h.row.jZ b e
theorem Making.done (h : Making kd w wr v Fs ps ds left dx steps) (h1 : 1 <= ds.length) (h2 : ds.length <= 17) : bz kd wr w.heap.size v Fs ps ⟨ds, left, dx, steps⟩ /\ (∀ b, fc w.heap.size v Fs ds.length b -> w.heap.size <= b) /\ Below w.heap.size w wr :=
 ⟨⟨h.at_, h.row.base (Nat.zero_le _), h.ey, fun i hi b hb => ⟨by have := (h.apart i hi b hb).1; omega, (h.apart i hi b hb).2⟩, h1, h2⟩, fun b hb => by
  rcases hb with e | e | ⟨i, hi, e⟩
  ·omega
  ·exact h.row.jZ b e
  ·have := (h.apart i hi b e).1; omega, h.below⟩
end
def fH (kd : gY) (w : World) (ks : List Int) (e : Ending) (w' : World) : Prop :=
 Below w.heap.size w w' /\ ((jK ks /\ ∃ p v Fs ps, e = .returned (.tuple #[.pointer (some ⟨p, 0, none⟩), .int .i64 0]) /\ bz kd w' p v Fs ps (jB ks) /\ ∀ b, fc p v Fs (jB ks).ds.length b -> w.heap.size <= b) \/ (¬ jK ks /\ e = .returned (.tuple #[.pointer none, .int .i64 2])))
theorem fH.no {kd : gY} {w w' : World} {ks : List Int} (hb : Below w.heap.size w w') (hn : ¬ jK ks) {e : Ending} (he : e = .returned (.tuple #[.pointer none, .int .i64 2])) : fH kd w ks e w' := ⟨hb, .inr ⟨hn, he⟩⟩
theorem lH {ks : List Int} {j : Nat} (h : j < ks.length) : (ks.take (j + 1)).map qp = (ks.take j).map qp ++ [qp (ks.getD j 0)] := by
 rw [List.take_add_one, List.getD, List.getElem?_eq_getElem h, List.map_append]; rfl
end Go.Proofs.YtcpbekopbeaflaaGreatDoor
