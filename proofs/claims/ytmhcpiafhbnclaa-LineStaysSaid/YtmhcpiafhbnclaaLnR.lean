/-
  The document's line: its cells and numbers in memory; New, Learn, Set, Forget, Get, Dirty, First, Clean.
-/
import Derived.Test.YtmhcpiafhbnclaaLnM
import Derived.Test.YtmhcpiafhbnclaaTrn
import Derived.Test.YtmhcpiafhbnclaaBlkW
import Derived.Test.YtmhcpiafhbnclaaIntE
import Derived.Test.YtmhcpiafhbnclaaMkE
import Derived.Test.YtmhcpiafhbnclaaSkip
namespace Go.Proofs.Ytmhcpiafhbnclaa
open Go.RowKit
set_option linter.unusedVariables false
set_option linter.unusedSimpArgs false
set_option maxRecDepth 100000

/-! ### Rows of cells, of numbers -/
def lcC_ (c : LC) : List Value := .bool c.kn :: .bool c.dt :: cel c.b
theorem lcC_len (c : LC) : (lcC_ c).length = 66 := by simp [lcC_, cel_length]
theorem lcC_one (c : LC) : ∀ v ∈ lcC_ c, v.oneCell' = true := by
  intro v hv
  simp only [lcC_, List.mem_cons] at hv
  rcases hv with rfl | rfl | hv
  · rfl
  · rfl
  · exact cel_one c.b v hv
def lcV (c : LC) : Value := .agg (lcC_ c).toArray
def LcE : Elt LC where
  s := 57
  t := 64
  n := 66
  by_ := 66
  cel := lcC_
  d := lc0
  z := lcV lc0
  pos := by omega
  small := by omega
  len := lcC_len
  one := lcC_one
  und := Try.underlying57
  info := by kernel_rfl
  zc := by show (Value.cells (.agg _)).size = 66; simp [Value.cells, lcC_len]
def U6E : Elt Int where
  s := 58
  t := 34
  n := 1
  by_ := 8
  cel x := [.int .u64 x]
  d := 0
  z := .int .u64 0
  pos := by omega
  small := by omega
  len _ := rfl
  one x v hv := by simp at hv; subst hv; rfl
  und := Try.underlying58
  info := by kernel_rfl
  zc := rfl
theorem sizeLc : (Try.prog.info? 64).map (·.size) = some 66 := by kernel_rfl
theorem zeroLc : (Try.prog.info? 64).map (fun i => i.zero) = some (some (.agg (lcC_ lc0).toArray)) := by kernel_rfl
section
variable {ρ : Operand → Value} {o : Oper} {x y z : Operand} {w : World} {b off : Nat} {c : Blk}
theorem run_bldLk (c : Blk) : (Instr.build 64 #[(0, .bool true), (2, blk c)]).run Try.prog w = .ok (lcV ⟨true, false, c⟩) w := by
  have hz := run_zeroT zeroLc w
  have h1 := fill_one (place := fun i => (#[(0, 1), (1, 1), (2, 64)] : Array (Nat × Nat))[i]?) (i := 0) (off := 0) (size := 1) (v := .bool true) (pre := []) (mid := [.bool false]) (post := .bool false :: cel zeroB) (vs := [.bool true]) (rest := [(2, blk c)]) rfl rfl rfl rfl rfl
  have h2 := fill_one (place := fun i => (#[(0, 1), (1, 1), (2, 64)] : Array (Nat × Nat))[i]?) (i := 2) (off := 2) (size := 64) (v := blk c) (pre := [.bool true, .bool false]) (mid := cel zeroB) (post := []) (vs := cel c) (rest := []) rfl rfl (cel_length c) rfl (cel_length zeroB)
  simp only [List.nil_append, List.append_nil, List.cons_append] at h1 h2
  have h3 := h1.trans h2
  have hz' : (zeroValue 64).run Try.prog w = .ok (.agg (.bool false :: .bool false :: cel zeroB).toArray) w := hz
  have hc : (Value.agg (.bool false :: .bool false :: cel zeroB).toArray).cells = (.bool false :: .bool false :: cel zeroB).toArray := rfl
  simp only [Instr.build, Sem.run_bind, hz', run_underlying Try.underlying64, Result.andThen_ok, hc]
  refine Eq.trans (congrArg (fun r => Result.andThen r _) (?h : _ = Result.ok #[(0, 1), (1, 1), (2, 64)] w)) ?_
  case h => kernel_rfl
  simp only [Result.andThen_ok]
  have h4 : Instr.fill (fun i => (#[(0, 1), (1, 1), (2, 64)] : Array (Nat × Nat))[i]?) (Value.bool true :: .bool false :: cel c).toArray [] = some (Value.bool true :: .bool false :: cel c).toArray := by rw [Instr.fill]
  rw [h3.trans h4]
  rfl
theorem run_bldLs (c : Blk) : (Instr.build 64 #[(0, .bool true), (1, .bool true), (2, blk c)]).run Try.prog w = .ok (lcV ⟨true, true, c⟩) w := by
  have hz := run_zeroT zeroLc w
  have h0 := fill_one (place := fun i => (#[(0, 1), (1, 1), (2, 64)] : Array (Nat × Nat))[i]?) (i := 0) (off := 0) (size := 1) (v := .bool true) (pre := []) (mid := [.bool false]) (post := .bool false :: cel zeroB) (vs := [.bool true]) (rest := [(1, .bool true), (2, blk c)]) rfl rfl rfl rfl rfl
  have h1 := fill_one (place := fun i => (#[(0, 1), (1, 1), (2, 64)] : Array (Nat × Nat))[i]?) (i := 1) (off := 1) (size := 1) (v := .bool true) (pre := [.bool true]) (mid := [.bool false]) (post := cel zeroB) (vs := [.bool true]) (rest := [(2, blk c)]) rfl rfl rfl rfl rfl
  have h2 := fill_one (place := fun i => (#[(0, 1), (1, 1), (2, 64)] : Array (Nat × Nat))[i]?) (i := 2) (off := 2) (size := 64) (v := blk c) (pre := [.bool true, .bool true]) (mid := cel zeroB) (post := []) (vs := cel c) (rest := []) rfl rfl (cel_length c) rfl (cel_length zeroB)
  simp only [List.nil_append, List.append_nil, List.cons_append] at h0 h1 h2
  have h3 := h0.trans (h1.trans h2)
  have hz' : (zeroValue 64).run Try.prog w = .ok (.agg (.bool false :: .bool false :: cel zeroB).toArray) w := hz
  have hc : (Value.agg (.bool false :: .bool false :: cel zeroB).toArray).cells = (.bool false :: .bool false :: cel zeroB).toArray := rfl
  simp only [Instr.build, Sem.run_bind, hz', run_underlying Try.underlying64, Result.andThen_ok, hc]
  refine Eq.trans (congrArg (fun r => Result.andThen r _) (?h : _ = Result.ok #[(0, 1), (1, 1), (2, 64)] w)) ?_
  case h => kernel_rfl
  simp only [Result.andThen_ok]
  have h4 : Instr.fill (fun i => (#[(0, 1), (1, 1), (2, 64)] : Array (Nat × Nat))[i]?) (Value.bool true :: .bool true :: cel c).toArray [] = some (Value.bool true :: .bool true :: cel c).toArray := by rw [Instr.fill]
  rw [h3.trans h4]
  rfl
theorem run_bldL0 : (Instr.build 64 #[]).run Try.prog w = .ok (lcV lc0) w := by kernel_rfl
theorem exec_bldLk (ho : o.op = .build 64 #[(0, x), (2, y)]) (hx : ρ x = .bool true) (hy : ρ y = blk c) : (execOp ρ o).run Try.prog w = .ok (.value (lcV ⟨true, false, c⟩)) w := by
  unfold execOp
  simp only [ho, List.map_toArray, List.map_cons, List.map_nil, hx, hy, Sem.run_bind, run_bldLk, Result.andThen_ok, Sem.run_pure]
theorem exec_bldLs (ho : o.op = .build 64 #[(0, x), (1, z), (2, y)]) (hx : ρ x = .bool true) (hz : ρ z = .bool true) (hy : ρ y = blk c) : (execOp ρ o).run Try.prog w = .ok (.value (lcV ⟨true, true, c⟩)) w := by
  unfold execOp
  simp only [ho, List.map_toArray, List.map_cons, List.map_nil, hx, hy, hz, Sem.run_bind, run_bldLs, Result.andThen_ok, Sem.run_pure]
theorem exec_putLc {a : LC} (ho : o.op = .store 64 x y) (hx : ρ x = .pointer (some ⟨b, off, none⟩)) (hy : ρ y = lcV a) (ht : w.there b off 66) : (execOp ρ o).run Try.prog w = .ok .skip (w.setCells b off (lcC_ a)) :=
  exec_putT (by rw [lcC_len]; exact sizeLc) (lcC_one a) ho hx hy (by rw [lcC_len]; exact ht)
theorem faRn0 : (Instr.fieldAt 60 (.pointer (some ⟨b, 0, none⟩)) 0).run Try.prog w = .ok (.pointer (some ⟨b, 0, none⟩)) w := by kernel_rfl
theorem faRn1 : (Instr.fieldAt 60 (.pointer (some ⟨b, 0, none⟩)) 1).run Try.prog w = .ok (.pointer (some ⟨b, 1, none⟩)) w := by kernel_rfl
theorem faLc0 : (Instr.fieldAt 64 (.pointer (some ⟨b, off, none⟩)) 0).run Try.prog w = .ok (.pointer (some ⟨b, off, none⟩)) w := by kernel_rfl
theorem faLc1 : (Instr.fieldAt 64 (.pointer (some ⟨b, off, none⟩)) 1).run Try.prog w = .ok (.pointer (some ⟨b, off + 1, none⟩)) w := by kernel_rfl
theorem faLc2 : (Instr.fieldAt 64 (.pointer (some ⟨b, off, none⟩)) 2).run Try.prog w = .ok (.pointer (some ⟨b, off + 2, none⟩)) w := by kernel_rfl
theorem ldLs {ad : Addr} {A : Option Addr} {n c : Nat} (h : w.cell? ad = some (.slice A n c)) : (Instr.loadAt 57 (.pointer (some ad))).run Try.prog w = .ok (.slice A n c) w := by simp [go_sem, h]
theorem ldSq {ad : Addr} {A : Option Addr} {n c : Nat} (h : w.cell? ad = some (.slice A n c)) : (Instr.loadAt 58 (.pointer (some ad))).run Try.prog w = .ok (.slice A n c) w := by simp [go_sem, h]
theorem stSq {ad : Addr} {u : Value} {A : Option Addr} {n c : Nat} (h : w.cell? ad = some u) (hf : w.frozen? ad = false) : (Instr.storeAt 58 (.pointer (some ad)) (.slice A n c)).run Try.prog w = .ok () (w.setCell ad (.slice A n c)) := by simp [go_sem, h, hf]
theorem ldBo_ {ad : Addr} {a : Bool} (h : w.cell? ad = some (.bool a)) : (Instr.loadAt 4 (.pointer (some ad))).run Try.prog w = .ok (.bool a) w := by simp [go_sem, h]
theorem stBo_ {ad : Addr} {u : Value} {a : Bool} (h : w.cell? ad = some u) (hf : w.frozen? ad = false) : (Instr.storeAt 4 (.pointer (some ad)) (.bool a)).run Try.prog w = .ok () (w.setCell ad (.bool a)) := by simp [go_sem, h, hf]
theorem bldRl (A : Option Addr) (n c : Nat) : (Instr.build 60 #[(0, .slice A n c)]).run Try.prog w = .ok (.agg #[.slice A n c, .slice none 0 0]) w := by kernel_rfl
end
/-! ### The object -/
def isRn : Obj → Prop
  | .cells _ t _ => t = 60 ∨ t = 64 ∨ t = 34
  | _ => False
abbrev TurnRn := Turn isRn
def rnC (g N : Nat) (v : Value) : List Value := [.slice (some ⟨g, 0, none⟩) N N, v]
structure RNu (w : World) (B q g : Nat) (v : Value) (s : LnS) (L : List Int) : Prop where
  at_ : w.heap[q]? = some (.cells (rnC g s.l.length v).toArray 60 (0, 0))
  row : MadeE LcE w B (.slice (some ⟨g, 0, none⟩) s.l.length s.l.length) s.l
  sq : MadeE U6E w B v L
  low : B ≤ q
  ok : LnOk s
  fs : s.f = lstN L L.length
  nn : ∀ x ∈ L, 0 ≤ x
/-- The document's line lies at q: it is s; at most n numbers were set. -/
def RN (w : World) (B q n : Nat) (s : LnS) : Prop := ∃ g v L, RNu w B q g v s L ∧ L.length ≤ n
theorem grown_ty {α : Type} {E : Elt α} {w w' : World} {B q : Nat} {v : Value} {l : List α} {cs : Array Value} {t : TypeId} (h : w.heap[q]? = some (.cells cs t (0, 0))) (hm : MadeE E w B v l) (ht : t ≠ E.t) (hg : w.grownBy w' v.ownBlock) : w'.heap[q]? = some (.cells cs t (0, 0)) := by
  refine (hg.block q (blk_lt h) fun e => ?_).trans h
  rcases hm.2 with ⟨rfl, _⟩ | ⟨g, cap, cur, rfl, _, hb, _⟩
  · simp [Value.ownBlock] at e
  · simp [Value.ownBlock] at e
    subst e
    rw [hb] at h
    simp at h
    exact ht h.2.symm
theorem Turn.grownE {I : Obj → Prop} {α : Type} {E : Elt α} {w w1 w2 : World} {B : Nat} {v : Value} {l : List α} (h : Turn I B w w1) (hm : MadeE E w1 B v l) (hI : ∀ cs, I (.cells cs E.t (0, 0))) (hg : w1.grownBy w2 v.ownBlock) : Turn I B w w2 := by
  refine h.trans (Only.grown (Only.refl _ _) hg fun k hk => ?_)
  rcases hm.2 with ⟨rfl, _⟩ | ⟨g, cap, cur, rfl, hB, hb, _⟩
  · simp [Value.ownBlock] at hk
  · simp [Value.ownBlock] at hk
    subst hk
    exact .inl ⟨hB, fun o ho => by rw [hb] at ho; cases ho; exact hI _⟩
theorem Turn.setCells {I : Obj → Prop} {w w1 : World} {B b : Nat} {cs : Array Value} {t : TypeId} (h : Turn I B w w1) (hB : B ≤ b) (ho : w1.heap[b]? = some (.cells cs t (0, 0))) (hI : ∀ cs, I (.cells cs t (0, 0))) (o : Nat) (vs : List Value) : Turn I B w (w1.setCells b o vs) := by
  obtain ⟨h1, h2, h3, h4⟩ := heap_setCells b vs o w1
  refine h.trans ⟨h2, h3, h4, by rw [h1]; exact Nat.le_refl _, fun k hk hn => ?_⟩
  by_cases e : k = b
  · subst e
    exact absurd ⟨hB, fun o' ho' => by rw [ho] at ho'; cases ho'; exact hI _⟩ hn
  · exact blk_setCells b vs o w1 k e
section
variable {w w' : World} {B q g n : Nat} {v : Value} {s : LnS} {L : List Int} {k : Nat}
theorem RNu.keep (h : RNu w B q g v s L) (hk : ∀ (b : Nat) (o : Obj), w.heap[b]? = some o → isRn o → w'.heap[b]? = some o) : RNu w' B q g v s L :=
  ⟨hk _ _ h.at_ (.inl rfl), h.row.kept_all fun b cs hb => hk b _ hb (.inr (.inl rfl)), h.sq.kept_all fun b cs hb => hk b _ hb (.inr (.inr rfl)), h.low, h.ok, h.fs, h.nn⟩
theorem RN.keep (h : RN w B q n s) (hk : ∀ (b : Nat) (o : Obj), w.heap[b]? = some o → isRn o → w'.heap[b]? = some o) : RN w' B q n s := by
  obtain ⟨g, v, L, h, hn⟩ := h
  exact ⟨g, v, L, h.keep hk, hn⟩
theorem RNu.below (h : RNu w B q g v s L) (hb : Below w.heap.size w w') : RNu w' B q g v s L := h.keep fun b o ho _ => blk_keep ho hb
theorem RN.below (h : RN w B q n s) (hb : Below w.heap.size w w') : RN w' B q n s := h.keep fun b o ho _ => blk_keep ho hb
theorem RN.other {I : Obj → Prop} {B' : Nat} (h : RN w B q n s) (hb : Turn I B' w w') (hI : ∀ o, isRn o → ¬ I o) : RN w' B q n s := h.keep fun b o ho hp => hb.keep ho (hI o hp)
theorem RN.ok (h : RN w B q n s) : LnOk s := by obtain ⟨g, v, L, h, _⟩ := h; exact h.ok
theorem RN.more {n' : Nat} (h : RN w B q n s) (hn : n ≤ n') : RN w B q n' s := by obtain ⟨g, v, L, h, hl⟩ := h; exact ⟨g, v, L, h, by omega⟩
theorem RN.base {B' : Nat} (h : RN w B q n s) (hB : B' ≤ B) : RN w B' q n s := by
  obtain ⟨g, v, L, h, hl⟩ := h
  exact ⟨g, v, L, ⟨h.at_, h.row.base hB, h.sq.base hB, Nat.le_trans hB h.low, h.ok, h.fs, h.nn⟩, hl⟩
theorem RNu.c0 (h : RNu w B q g v s L) : w.cell? ⟨q, 0, none⟩ = some (.slice (some ⟨g, 0, none⟩) s.l.length s.l.length) := (rng_at h.at_) 0 _ rfl
theorem RNu.c1_ (h : RNu w B q g v s L) : w.cell? ⟨q, 1, none⟩ = some v := (rng_at h.at_) 1 _ rfl
theorem RNu.fz (h : RNu w B q g v s L) (j : Nat) : w.frozen? ⟨q, j, none⟩ = false := frozen_of_row w q j _ _ h.at_
theorem RNu.cl (h : RNu w B q g v s L) (hk : k < s.l.length) : w.rangeAt g (0 + k * LcE.n) (lcC_ (lnAt s k)) := by
  obtain ⟨b, off, e, _, hc⟩ := h.row.rd.2 k hk
  injection e with e
  injection e with e1 e2
  subst e1 e2
  exact hc
theorem RNu.kn (h : RNu w B q g v s L) (hk : k < s.l.length) : w.cell? ⟨g, 0 + k * LcE.n, none⟩ = some (.bool (lnAt s k).kn) := (h.cl hk) 0 _ rfl
theorem RNu.dt (h : RNu w B q g v s L) (hk : k < s.l.length) : w.cell? ⟨g, 0 + k * LcE.n + 1, none⟩ = some (.bool (lnAt s k).dt) := (h.cl hk) 1 _ rfl
theorem RNu.bk (h : RNu w B q g v s L) (hk : k < s.l.length) : w.rangeAt g (0 + k * LcE.n + 2) (cel (lnAt s k).b) :=
  rng_sub (ds := [.bool (lnAt s k).kn, .bool (lnAt s k).dt]) (es := cel (lnAt s k).b) (fs := []) (k := 2) (h.cl hk) (by simp [lcC_]) rfl
theorem RNu.there (h : RNu w B q g v s L) (hk : k < s.l.length) : w.there g (0 + k * LcE.n) 66 := by
  have := h.row.there hk (j := 0) (m := 66) (Nat.le_refl _)
  rw [Nat.add_zero] at this
  rwa [Nat.zero_add]
theorem RNu.gb (h : RNu w B q g v s L) : ∃ cs, w.heap[g]? = some (.cells cs 64 (0, 0)) ∧ B ≤ g := by
  obtain ⟨_, hB, post, hg, _⟩ := h.row.parts
  exact ⟨_, hg, hB⟩
/-- A part of a cell is laid anew. -/
theorem RNu.part (h : RNu w B q g v s L) (hk : k < s.l.length) {j : Nat} {vs : List Value} (a : LC) (ha : lcC_ a = (lcC_ (lnAt s k)).take j ++ vs ++ (lcC_ (lnAt s k)).drop (j + vs.length)) (hj : j + vs.length ≤ 66) (hn : a.kn = false → a = lc0) :
    RNu (w.setCells g (0 + k * LcE.n + j) vs) B q g v ⟨s.l.set k a, s.f⟩ L ∧ TurnRn B w (w.setCells g (0 + k * LcE.n + j) vs) := by
  rw [Nat.zero_add]
  obtain ⟨cs, hg, hB⟩ := h.gb
  have hr := h.row.put hk (j := j) (vs := vs) a ha hj
  have hot : ∀ (b : Nat) (cs' : Array Value) (t : TypeId), t ≠ 64 → w.heap[b]? = some (.cells cs' t (0, 0)) → (w.setCells g (k * LcE.n + j) vs).heap[b]? = some (.cells cs' t (0, 0)) := fun b cs' t ht hb => by
    rw [blk_setCells g vs _ w b (fun e => by subst e; rw [hg] at hb; simp at hb; exact ht hb.2.symm)]
    exact hb
  refine ⟨⟨?_, ?_, h.sq.kept_all fun b cs hb => hot b cs _ (by decide) hb, h.low, lnOk_set h.ok k hn h.ok.fb, h.fs, h.nn⟩, (Turn.refl _ _ _).setCells hB hg (fun _ => .inr (.inl rfl)) _ _⟩
  · show _ = some (Obj.cells (rnC g (s.l.set k a).length v).toArray _ _)
    rw [List.length_set]
    exact hot q _ _ (by decide) h.at_
  · show MadeE _ _ _ (.slice _ (s.l.set k a).length (s.l.set k a).length) _
    rw [List.length_set]
    exact hr
theorem RNu.put (h : RNu w B q g v s L) (hk : k < s.l.length) (a : LC) (hn : a.kn = false → a = lc0) :
    RNu (w.setCells g (0 + k * LcE.n) (lcC_ a)) B q g v ⟨s.l.set k a, s.f⟩ L ∧ TurnRn B w (w.setCells g (0 + k * LcE.n) (lcC_ a)) := by
  have := h.part hk (j := 0) (vs := lcC_ a) a (by rw [List.take_zero, List.nil_append, Nat.zero_add, List.drop_eq_nil_of_le (by rw [lcC_len, lcC_len]; exact Nat.le_refl _), List.append_nil]) (by rw [lcC_len]; exact Nat.le_refl _) hn
  rwa [Nat.add_zero] at this
/-- Its numbers are laid anew. -/
theorem RNu.nums (h : RNu w B q g v s L) {v' : Value} {L' : List Int} (hq : w'.heap[q]? = some (.cells (rnC g s.l.length v).toArray 60 (0, 0))) (hr : MadeE LcE w' B (.slice (some ⟨g, 0, none⟩) s.l.length s.l.length) s.l) (hm : MadeE U6E w' B v' L') (hn : ∀ x ∈ L', 0 ≤ x) (hf : lstN L' L'.length < 18446744073709551616) :
    RNu (w'.setCell ⟨q, 1, none⟩ v') B q g v' ⟨s.l, lstN L' L'.length⟩ L' := by
  have hot : ∀ (b : Nat) (cs' : Array Value) (t : TypeId), t ≠ 60 → w'.heap[b]? = some (.cells cs' t (0, 0)) → (w'.setCell ⟨q, 1, none⟩ v').heap[b]? = some (.cells cs' t (0, 0)) := fun b cs' t ht hb => by
    rw [heap_setCell_other w' ⟨q, 1, none⟩ b v' (fun e => by subst e; rw [hq] at hb; simp at hb; exact ht hb.2.symm)]
    exact hb
  refine ⟨?_, hr.kept_all fun b cs hb => hot b cs _ (by decide) hb, hm.kept_all fun b cs hb => hot b cs _ (by decide) hb, h.low, ⟨h.ok.lo, h.ok.hi, hf, h.ok.no⟩, rfl, hn⟩
  have := heap_setCell_same w' q 1 _ _ v' hq
  simpa [rnC] using this
end
section
variable {w : World} {B q g n : Nat} {v : Value} {s : LnS} {L : List Int}
theorem r_has (w : World) (m : Int) (h : RNu w B q g v s L) : Calls Try.prog 31 #[.pointer (some ⟨q, 0, none⟩), .int .i64 m] w fun e w' => e = .returned (.bool (lnR s m)) ∧ w = w' := by
  have HL := Lib.hid h
  clear h
  go_enter Try.func31, Try.ntmps31
  by_cases h0 : 0 ≤ m
  rotate_left 1
  · have H0 : Hid (decide (0 ≤ m) = false) := Lib.hid (decide_eq_false h0)
    have HR : Hid (lnR s m = false) := Lib.hid (by unfold lnR; rw [H0.out]; rfl)
    clear h0
    go_upto_region 1 with fail
    refine wp_region_lit ?_
    refine wpList_valn rfl (exec_mv rfl (ev rfl)) ?_
    simp only [Act.put, List.setIfInBounds_toArray, List.set_cons_succ, List.set_cons_zero]
    refine wpList_valn (v := .bool false) rfl (exec_geq false rfl (ev rfl) evk H0.out) ?_
    simp only [Act.put, List.setIfInBounds_toArray, List.set_cons_succ, List.set_cons_zero]
    refine wpList_skips 7 (v := .bool false) rfl (exec_mv rfl (ev rfl)) (by kernel_rfl) ?_
    simp only [skipAct, List.take_succ_cons, List.take_zero, List.drop_succ_cons, List.drop_zero, Act.put, List.setIfInBounds_toArray, List.set_cons_succ, List.set_cons_zero]
    refine wpList_valn (v := .bool false) rfl (exec_pf rfl (ev rfl) evk) ?_
    simp only [Act.put, List.setIfInBounds_toArray, List.set_cons_succ, List.set_cons_zero]
    refine wpList_valn (v := .bool false) rfl (exec_as rfl (ev rfl)) ?_
    simp only [Act.put, List.setIfInBounds_toArray, List.set_cons_succ, List.set_cons_zero]
    refine wpList_nil ?_
    go_wp2_with fail
    go_ret
    exact ⟨by rw [HR.out]; rfl, rfl⟩
  have H0 : Hid (decide (0 ≤ m) = true) := Lib.hid (decide_eq_true h0)
  obtain ⟨t, ht⟩ : ∃ t, decide (m < (s.l.length : Int)) = t := ⟨_, rfl⟩
  have HT := Lib.hid ht
  have HR : Hid (lnR s m = t) := Lib.hid (by unfold lnR; rw [H0.out, HT.out]; rfl)
  clear h0 ht
  go_upto_region 1 with fail
  refine wp_region_lit ?_
  refine wpList_valn rfl (exec_mv rfl (ev rfl)) ?_
  simp only [Act.put, List.setIfInBounds_toArray, List.set_cons_succ, List.set_cons_zero]
  refine wpList_valn (v := .bool true) rfl (exec_geq true rfl (ev rfl) evk H0.out) ?_
  simp only [Act.put, List.setIfInBounds_toArray, List.set_cons_succ, List.set_cons_zero]
  refine wpList_valn (v := .bool true) rfl (exec_mv rfl (ev rfl)) ?_
  simp only [Act.put, List.setIfInBounds_toArray, List.set_cons_succ, List.set_cons_zero]
  refine wpList_val (wanted_of rfl rfl rfl rfl) (exec_mv rfl (ev rfl)) ?_
  simp only [Act.put, List.setIfInBounds_toArray, List.set_cons_succ, List.set_cons_zero]
  refine wpList_val (wanted_of rfl rfl rfl rfl) (exec_mv rfl (ev rfl)) ?_
  simp only [Act.put, List.setIfInBounds_toArray, List.set_cons_succ, List.set_cons_zero]
  refine wpList_val (wanted_of rfl rfl rfl rfl) (exec_nil rfl (ev rfl)) ?_
  simp only [Act.put, List.setIfInBounds_toArray, List.set_cons_succ, List.set_cons_zero]
  refine wpList_val (wanted_of rfl rfl rfl rfl) (exec_faddr rfl (ev rfl) faRn0) ?_
  simp only [Act.put, List.setIfInBounds_toArray, List.set_cons_succ, List.set_cons_zero]
  refine wpList_val (wanted_of rfl rfl rfl rfl) (exec_ld rfl (ev rfl) (ldLs HL.out.c0)) ?_
  simp only [Act.put, List.setIfInBounds_toArray, List.set_cons_succ, List.set_cons_zero]
  refine wpList_val (wanted_of rfl rfl rfl rfl) (exec_lenE LcE rfl (ev rfl)) ?_
  simp only [Act.put, List.setIfInBounds_toArray, List.set_cons_succ, List.set_cons_zero]
  refine wpList_val (wanted_of rfl rfl rfl rfl) (exec_lss t rfl (ev rfl) (ev rfl) HT.out) ?_
  simp only [Act.put, List.setIfInBounds_toArray, List.set_cons_succ, List.set_cons_zero]
  refine wpList_valn rfl (exec_pt rfl (ev rfl) (ev rfl)) ?_
  simp only [Act.put, List.setIfInBounds_toArray, List.set_cons_succ, List.set_cons_zero]
  refine wpList_valn rfl (exec_as rfl (ev rfl)) ?_
  simp only [Act.put, List.setIfInBounds_toArray, List.set_cons_succ, List.set_cons_zero]
  refine wpList_nil ?_
  go_wp2_with fail
  go_ret
  exact ⟨by rw [HR.out]; rfl, rfl⟩
theorem r_has_v {m : Int} {t : Bool} (w : World) (h : RNu w B q g v s L) (ht : lnR s m = t) : Calls Try.prog 31 #[.pointer (some ⟨q, 0, none⟩), .int .i64 m] w fun e w' => e = .returned (.bool t) ∧ w = w' := by
  subst ht; exact r_has w m h
end
theorem there_set {w : World} {b o n b' o' : Nat} {vs : List Value} (h : w.there b o n) : (w.setCells b' o' vs).there b o n := World.there_setCells h b' o' vs
theorem there_drew {w : World} {b o n : Nat} (h : w.there b o n) : (World.drew w).there b o n := h
theorem flatLc0 : LcE.z.cells.toList = LcE.cel LcE.d := rfl
theorem RNu.drew {w : World} {B q g : Nat} {v : Value} {s : LnS} {L : List Int} (h : RNu w B q g v s L) : RNu w.drew B q g v s L := h.keep fun _ _ h _ => h
theorem RNu.c1 {w : World} {B q g n c : Nat} {A : Option Addr} {s : LnS} {L : List Int} (h : RNu w B q g (.slice A n c) s L) : w.cell? ⟨q, 1, none⟩ = some (.slice A n c) := h.c1_
/-- A number is appended. -/
theorem RNu.app {w : World} {B q g : Nat} {v : Value} {s : LnS} {L : List Int} (h : RNu w B q g v s L) (Q : Nat) (hQ : Q < 18446744073709551616) (hl : L.length ≤ 1000) (ty : TypeId) :
    ∃ A' c' w4, (Builtin.append_ #[58, 58] ty #[v, .slice (some ⟨w.heap.size, 0, none⟩) 1 1]).run Try.prog (w.alloc (.cells (U6E.cel (Q : Int)).toArray U6E.t)) = .ok (.slice A' (L.length + 1) c') w4 ∧
      w4.cell? ⟨q, 1, none⟩ = some v ∧ w4.frozen? ⟨q, 1, none⟩ = false ∧ RNu (w4.setCell ⟨q, 1, none⟩ (.slice A' (L.length + 1) c')) B q g (.slice A' (L.length + 1) c') ⟨s.l, minF s.f Q⟩ (L ++ [(Q : Int)]) ∧ TurnRn B w (w4.setCell ⟨q, 1, none⟩ (.slice A' (L.length + 1) c')) := by
  have hB : B ≤ w.heap.size := Nat.le_trans h.low (Nat.le_of_lt (blk_lt h.at_))
  have h1 := h.below ((Below.refl _ _).alloc (Nat.le_refl _) (.cells (U6E.cel (Q : Int)).toArray U6E.t))
  have hsz : (w.alloc (.cells (U6E.cel (Q : Int)).toArray U6E.t)).heap.size = w.heap.size + 1 := World.size_alloc ..
  obtain ⟨v', w4, hrun, hm, hg⟩ := run_appE U6E (w.alloc (.cells (U6E.cel (Q : Int)).toArray U6E.t)) ty B (w.heap.size + 1) 1 1 v L [(Q : Int)] (some ⟨w.heap.size, 0, none⟩) h1.sq (rdE_new (E := U6E) (l := [(Q : Int)]) w (U6E.cel (Q : Int)).toArray U6E.t rfl) (by omega) (by omega)
  obtain ⟨A', c', rfl, _, _⟩ := hm.form
  have hq := grown_ty h1.at_ h1.sq (by decide) hg
  have hr := h1.row.kept hg (h1.row.other h1.sq (by decide))
  have hn : ∀ x ∈ L ++ [(Q : Int)], 0 ≤ x := fun x hx => by
    rcases List.mem_append.1 hx with e | e
    · exact h.nn x e
    · simp at e; omega
  have hf : lstN (L ++ [(Q : Int)]) (L ++ [(Q : Int)]).length = minF s.f Q := by rw [lstN_snoc, ← h.fs]; rfl
  have hN := h1.nums hq hr hm hn (by rw [hf]; exact minF_lt h.ok.fb hQ)
  rw [hf] at hN
  rw [List.length_append, List.length_singleton] at *
  exact ⟨A', c', w4, hrun, (rng_at hq) 1 _ rfl, frozen_of_row w4 q 1 _ _ hq, hN, (((Turn.refl isRn B w).alloc _).grownE h1.sq (fun _ => .inr (.inr rfl)) hg).setCell (p := ⟨q, 1, none⟩) h.low hq (.inl rfl) _⟩
theorem rnew_ok (N : Nat) (w : World) (h1 : 1 ≤ N) (h2 : N ≤ 16) : Calls Try.prog 8 #[.int .i64 (N : Int)] w fun e w' => ∃ q, e = .returned (.tuple #[.pointer (some ⟨q, 0, none⟩), .int .i64 0]) ∧ RN w' w.heap.size q 0 (lnNew N) ∧ Below w.heap.size w w' := by
  have H0 : Hid (decide ((N : Int) < 1) = false) := Lib.hid (decide_eq_false (by omega))
  have H1 : Hid (decide ((16 : Int) < (N : Int)) = false) := Lib.hid (decide_eq_false (by omega))
  have HN := Lib.hid h2
  have HM := Lib.hid (made_zeros LcE flatLc0 w N w.heap.size (Nat.le_refl _) (by omega))
  have HO := Lib.hid (LnOk.new h1 h2)
  have HB : Hid (Below w.heap.size w (w.alloc (.cells (madeCells LcE.z.cells (N * LcE.n)) LcE.t))) := Lib.hid ((Below.refl _ _).alloc (Nat.le_refl _) _)
  have HS : Hid ((w.alloc (.cells (madeCells LcE.z.cells (N * LcE.n)) LcE.t)).heap.size = w.heap.size + 1) := Lib.hid (World.size_alloc ..)
  clear h1 h2
  go_enter Try.func8, Try.ntmps8
  go_upto_region 1 with fail
  refine wp_region_lit ?_
  refine wpList_valn rfl (exec_mv rfl (ev rfl)) ?_
  simp only [Act.put, List.setIfInBounds_toArray, List.set_cons_succ, List.set_cons_zero]
  refine wpList_valn (v := .bool false) rfl (exec_lss false rfl (ev rfl) evk H0.out) ?_
  simp only [Act.put, List.setIfInBounds_toArray, List.set_cons_succ, List.set_cons_zero]
  refine wpList_valn (v := .bool false) rfl (exec_mv rfl (ev rfl)) ?_
  simp only [Act.put, List.setIfInBounds_toArray, List.set_cons_succ, List.set_cons_zero]
  refine wpList_val (wanted_of rfl rfl rfl rfl) (exec_mv rfl (ev rfl)) ?_
  simp only [Act.put, List.setIfInBounds_toArray, List.set_cons_succ, List.set_cons_zero]
  refine wpList_val (v := .bool false) (wanted_of rfl rfl rfl rfl) (exec_gtr false rfl (ev rfl) evk H1.out) ?_
  simp only [Act.put, List.setIfInBounds_toArray, List.set_cons_succ, List.set_cons_zero]
  refine wpList_valn (v := .bool false) rfl (exec_pf rfl (ev rfl) (ev rfl)) ?_
  simp only [Act.put, List.setIfInBounds_toArray, List.set_cons_succ, List.set_cons_zero]
  refine wpList_nil ?_
  go_upto_region 3 with fail
  refine wp_region_lit ?_
  refine wpList_valn rfl (exec_mv rfl (ev rfl)) ?_
  simp only [Act.put, List.setIfInBounds_toArray, List.set_cons_succ, List.set_cons_zero]
  refine wpList_valn rfl (exec_makeE (E := LcE) rfl (ev rfl) (ev rfl) (by have := HN.out; omega)) ?_
  simp only [Act.put, List.setIfInBounds_toArray, List.set_cons_succ, List.set_cons_zero]
  refine wpList_valn rfl (exec_bld1 rfl (ev rfl) (bldRl _ _ _)) ?_
  simp only [Act.put, List.setIfInBounds_toArray, List.set_cons_succ, List.set_cons_zero]
  refine wpList_valn rfl (exec_boxT (cs := rnC w.heap.size N (.slice none 0 0)) rfl (ev rfl)) ?_
  simp only [Act.put, List.setIfInBounds_toArray, List.set_cons_succ, List.set_cons_zero]
  refine wpList_valn rfl (exec_as rfl (ev rfl)) ?_
  simp only [Act.put, List.setIfInBounds_toArray, List.set_cons_succ, List.set_cons_zero]
  refine wpList_valn rfl (exec_as rfl evk) ?_
  simp only [Act.put, List.setIfInBounds_toArray, List.set_cons_succ, List.set_cons_zero]
  refine wpList_nil ?_
  generalize hw1 : w.alloc (.cells (madeCells LcE.z.cells (N * LcE.n)) LcE.t) = w1 at *
  go_wp2_with fail
  go_ret2
  have hb2 := (Below.refl w1.heap.size w1).alloc (Nat.le_refl _) (.cells (rnC w.heap.size N (.slice none 0 0)).toArray 60)
  refine ⟨_, rfl, ⟨w.heap.size, .slice none 0 0, [], ⟨?_, ?_, MadeE.nil _ _, by rw [HS.out]; exact Nat.le_succ _, HO.out, rfl, fun x hx => by cases hx⟩, Nat.le_refl _⟩, HB.out.alloc (by rw [HS.out]; exact Nat.le_succ _) _⟩
  · show _ = some (Obj.cells (rnC w.heap.size (List.replicate N lc0).length (.slice none 0 0)).toArray _ _)
    rw [List.length_replicate]
    exact heap_alloc_new w1 _
  · show MadeE _ _ _ (.slice _ (List.replicate N lc0).length (List.replicate N lc0).length) _
    rw [List.length_replicate]
    exact HM.out.below hb2
theorem rnew_no (n : Int) (w : World) (h : ¬ (1 ≤ n ∧ n ≤ 16)) : Calls Try.prog 8 #[.int .i64 n] w fun e w' => e = .returned (.tuple #[.pointer none, .int .i64 2]) ∧ w = w' := by
  by_cases h0 : n < 1
  · have H0 : Hid (decide (n < (1 : Int)) = true) := Lib.hid (decide_eq_true h0)
    clear h h0
    go_enter Try.func8, Try.ntmps8
    go_upto_region 1 with fail
    refine wp_region_lit ?_
    refine wpList_valn rfl (exec_mv rfl (ev rfl)) ?_
    simp only [Act.put, List.setIfInBounds_toArray, List.set_cons_succ, List.set_cons_zero]
    refine wpList_valn (v := .bool true) rfl (exec_lss true rfl (ev rfl) evk H0.out) ?_
    simp only [Act.put, List.setIfInBounds_toArray, List.set_cons_succ, List.set_cons_zero]
    refine wpList_skips 2 (v := .bool true) rfl (exec_mv rfl (ev rfl)) (by kernel_rfl) ?_
    simp only [skipAct, List.take_succ_cons, List.take_zero, List.drop_succ_cons, List.drop_zero, Act.put, List.setIfInBounds_toArray, List.set_cons_succ, List.set_cons_zero]
    refine wpList_valn (v := .bool true) rfl (exec_pt rfl (ev rfl) evk) ?_
    simp only [Act.put, List.setIfInBounds_toArray, List.set_cons_succ, List.set_cons_zero]
    refine wpList_nil ?_
    go_wp2_with fail
    go_ret2
    exact ⟨rfl, rfl⟩
  have H0 : Hid (decide (n < (1 : Int)) = false) := Lib.hid (decide_eq_false h0)
  have H1 : Hid (decide ((16 : Int) < n) = true) := Lib.hid (decide_eq_true (by omega))
  clear h h0
  go_enter Try.func8, Try.ntmps8
  go_upto_region 1 with fail
  refine wp_region_lit ?_
  refine wpList_valn rfl (exec_mv rfl (ev rfl)) ?_
  simp only [Act.put, List.setIfInBounds_toArray, List.set_cons_succ, List.set_cons_zero]
  refine wpList_valn (v := .bool false) rfl (exec_lss false rfl (ev rfl) evk H0.out) ?_
  simp only [Act.put, List.setIfInBounds_toArray, List.set_cons_succ, List.set_cons_zero]
  refine wpList_valn (v := .bool false) rfl (exec_mv rfl (ev rfl)) ?_
  simp only [Act.put, List.setIfInBounds_toArray, List.set_cons_succ, List.set_cons_zero]
  refine wpList_val (wanted_of rfl rfl rfl rfl) (exec_mv rfl (ev rfl)) ?_
  simp only [Act.put, List.setIfInBounds_toArray, List.set_cons_succ, List.set_cons_zero]
  refine wpList_val (v := .bool true) (wanted_of rfl rfl rfl rfl) (exec_gtr true rfl (ev rfl) evk H1.out) ?_
  simp only [Act.put, List.setIfInBounds_toArray, List.set_cons_succ, List.set_cons_zero]
  refine wpList_valn (v := .bool true) rfl (exec_pf rfl (ev rfl) (ev rfl)) ?_
  simp only [Act.put, List.setIfInBounds_toArray, List.set_cons_succ, List.set_cons_zero]
  refine wpList_nil ?_
  go_wp2_with fail
  go_ret2
  exact ⟨rfl, rfl⟩
theorem r_learn (w : World) (m : Int) (b : Blk) {B q n : Nat} {s : LnS} (h : RN w B q n s) : Calls Try.prog 21 #[.pointer (some ⟨q, 0, none⟩), .int .i64 m, blk b] w fun e w' => e = .returned (.int .i64 (lnE s m)) ∧ RN w' B q n (lnLrn s m b) ∧ TurnRn B w w' := by
  obtain ⟨g, v, L, h, hn⟩ := h
  have HN := Lib.hid hn
  clear hn
  have HB1 : Hid (Below w.heap.size w (w.alloc (.cells (cel b).toArray 33))) := Lib.hid ((Below.refl _ _).alloc (Nat.le_refl _) _)
  have HL : Hid (RNu (w.alloc (.cells (cel b).toArray 33)) B q g v s L) := Lib.hid (h.below HB1.out)
  have HX : Hid ((w.alloc (.cells (cel b).toArray 33)).rangeAt w.heap.size 0 (cel b)) := Lib.hid (range_new w (cel b) _)
  clear h
  go_enter Try.func21, Try.ntmps21
  go_upto_region 0 with fail
  refine wp_region_lit ?_
  refine wpList_valn rfl (exec_box rfl (ev rfl)) ?_
  simp only [Act.put, List.setIfInBounds_toArray, List.set_cons_succ, List.set_cons_zero]
  refine wpList_valn rfl (exec_as rfl evk) ?_
  simp only [Act.put, List.setIfInBounds_toArray, List.set_cons_succ, List.set_cons_zero]
  refine wpList_nil ?_
  generalize w.alloc (.cells (cel b).toArray 33) = w1 at *
  cases hr : lnR s m
  · have HR := Lib.hid hr
    clear hr
    go_upto_region 1 with fail
    refine wp_region_lit ?_
    refine wpList_valn rfl (exec_mv rfl (ev rfl)) ?_
    simp only [Act.put, List.setIfInBounds_toArray, List.set_cons_succ, List.set_cons_zero]
    refine wpList_valn rfl (exec_mv rfl (ev rfl)) ?_
    simp only [Act.put, List.setIfInBounds_toArray, List.set_cons_succ, List.set_cons_zero]
    refine wpList_call rfl (exec_cl Try.call31 rfl (evc (ev rfl) (evc (ev rfl) evn))) ?_
    refine (r_has_v _ HL.out HR.out).mono ?_
    rintro e w' ⟨rfl, rfl⟩
    refine ⟨_, rfl, ?_⟩
    simp only [Act.put, List.setIfInBounds_toArray, List.set_cons_succ, List.set_cons_zero]
    refine wpList_valn (v := .bool true) rfl (exec_not false rfl (ev rfl)) ?_
    simp only [Act.put, List.setIfInBounds_toArray, List.set_cons_succ, List.set_cons_zero]
    refine wpList_nil ?_
    go_wp2_with fail
    go_ret
    exact ⟨by rw [lnE_no HR.out]; rfl, by rw [lnLrn_no HR.out]; exact ⟨g, v, L, HL.out, HN.out⟩, Turn.of_below HB1.out⟩
  obtain ⟨k, rfl, hk⟩ := lnR_get hr
  have HR := Lib.hid hr
  have HK := Lib.hid hk
  clear hr hk
  go_upto_region 1 with fail
  refine wp_region_lit ?_
  refine wpList_valn rfl (exec_mv rfl (ev rfl)) ?_
  simp only [Act.put, List.setIfInBounds_toArray, List.set_cons_succ, List.set_cons_zero]
  refine wpList_valn rfl (exec_mv rfl (ev rfl)) ?_
  simp only [Act.put, List.setIfInBounds_toArray, List.set_cons_succ, List.set_cons_zero]
  refine wpList_call rfl (exec_cl Try.call31 rfl (evc (ev rfl) (evc (ev rfl) evn))) ?_
  refine (r_has_v _ HL.out HR.out).mono ?_
  rintro e w' ⟨rfl, rfl⟩
  refine ⟨_, rfl, ?_⟩
  simp only [Act.put, List.setIfInBounds_toArray, List.set_cons_succ, List.set_cons_zero]
  refine wpList_valn (v := .bool false) rfl (exec_not true rfl (ev rfl)) ?_
  simp only [Act.put, List.setIfInBounds_toArray, List.set_cons_succ, List.set_cons_zero]
  refine wpList_nil ?_
  cases hkn : (lnAt s k).kn
  rotate_left 1
  · have HKN := Lib.hid hkn
    clear hkn
    go_upto_region 3 with fail
    refine wp_region_lit ?_
    refine wpList_valn rfl (exec_mv rfl (ev rfl)) ?_
    simp only [Act.put, List.setIfInBounds_toArray, List.set_cons_succ, List.set_cons_zero]
    refine wpList_valn rfl (exec_nil rfl (ev rfl)) ?_
    simp only [Act.put, List.setIfInBounds_toArray, List.set_cons_succ, List.set_cons_zero]
    refine wpList_valn rfl (exec_faddr rfl (ev rfl) faRn0) ?_
    simp only [Act.put, List.setIfInBounds_toArray, List.set_cons_succ, List.set_cons_zero]
    refine wpList_valn rfl (exec_ld rfl (ev rfl) (ldLs HL.out.c0)) ?_
    simp only [Act.put, List.setIfInBounds_toArray, List.set_cons_succ, List.set_cons_zero]
    refine wpList_valn rfl (exec_mv rfl (ev rfl)) ?_
    simp only [Act.put, List.setIfInBounds_toArray, List.set_cons_succ, List.set_cons_zero]
    refine wpList_valn rfl (exec_indexE (E := LcE) rfl (ev rfl) (ev rfl) HK.out) ?_
    simp only [Act.put, List.setIfInBounds_toArray, List.set_cons_succ, List.set_cons_zero]
    refine wpList_valn rfl (exec_faddr rfl (ev rfl) faLc0) ?_
    simp only [Act.put, List.setIfInBounds_toArray, List.set_cons_succ, List.set_cons_zero]
    refine wpList_valn (v := .bool true) rfl (exec_ld rfl (ev rfl) (ldBo_ (by rw [HL.out.kn HK.out, HKN.out]))) ?_
    simp only [Act.put, List.setIfInBounds_toArray, List.set_cons_succ, List.set_cons_zero]
    refine wpList_valn (v := .bool false) rfl (exec_not true rfl (ev rfl)) ?_
    simp only [Act.put, List.setIfInBounds_toArray, List.set_cons_succ, List.set_cons_zero]
    refine wpList_nil ?_
    go_wp2_with fail
    go_ret
    exact ⟨by rw [lnE_ok HK.out]; rfl, by rw [lnLrn_old HK.out HKN.out]; exact ⟨g, v, L, HL.out, HN.out⟩, Turn.of_below HB1.out⟩
  have HKN := Lib.hid hkn
  have HP : Hid (RNu ((World.drew w1).setCells g (0 + k * LcE.n) (lcC_ ⟨true, false, b⟩)) B q g v ⟨s.l.set k ⟨true, false, b⟩, s.f⟩ L ∧ TurnRn B (World.drew w1) ((World.drew w1).setCells g (0 + k * LcE.n) (lcC_ ⟨true, false, b⟩))) := Lib.hid (HL.out.drew.put HK.out ⟨true, false, b⟩ (fun e => by cases e))
  have HTH := Lib.hid (HL.out.drew.there HK.out)
  clear hkn
  go_upto_region 3 with fail
  refine wp_region_lit ?_
  refine wpList_valn rfl (exec_mv rfl (ev rfl)) ?_
  simp only [Act.put, List.setIfInBounds_toArray, List.set_cons_succ, List.set_cons_zero]
  refine wpList_valn rfl (exec_nil rfl (ev rfl)) ?_
  simp only [Act.put, List.setIfInBounds_toArray, List.set_cons_succ, List.set_cons_zero]
  refine wpList_valn rfl (exec_faddr rfl (ev rfl) faRn0) ?_
  simp only [Act.put, List.setIfInBounds_toArray, List.set_cons_succ, List.set_cons_zero]
  refine wpList_valn rfl (exec_ld rfl (ev rfl) (ldLs HL.out.c0)) ?_
  simp only [Act.put, List.setIfInBounds_toArray, List.set_cons_succ, List.set_cons_zero]
  refine wpList_valn rfl (exec_mv rfl (ev rfl)) ?_
  simp only [Act.put, List.setIfInBounds_toArray, List.set_cons_succ, List.set_cons_zero]
  refine wpList_valn rfl (exec_indexE (E := LcE) rfl (ev rfl) (ev rfl) HK.out) ?_
  simp only [Act.put, List.setIfInBounds_toArray, List.set_cons_succ, List.set_cons_zero]
  refine wpList_valn rfl (exec_faddr rfl (ev rfl) faLc0) ?_
  simp only [Act.put, List.setIfInBounds_toArray, List.set_cons_succ, List.set_cons_zero]
  refine wpList_valn (v := .bool false) rfl (exec_ld rfl (ev rfl) (ldBo_ (by rw [HL.out.kn HK.out, HKN.out]))) ?_
  simp only [Act.put, List.setIfInBounds_toArray, List.set_cons_succ, List.set_cons_zero]
  refine wpList_valn (v := .bool true) rfl (exec_not false rfl (ev rfl)) ?_
  simp only [Act.put, List.setIfInBounds_toArray, List.set_cons_succ, List.set_cons_zero]
  refine wpList_nil ?_
  go_upto_region 4 with fail
  refine wp_region_still_tail 8 (by kernel_rfl) (by kernel_rfl) ?_
  simp only [List.take_succ_cons, List.take_zero, List.drop_succ_cons, List.drop_zero]
  refine st_val rfl (exec_mv rfl (ev rfl)) ?_
  simp only [Act.put, List.setIfInBounds_toArray, List.set_cons_succ, List.set_cons_zero]
  refine st_val rfl (exec_nil rfl (ev rfl)) ?_
  simp only [Act.put, List.setIfInBounds_toArray, List.set_cons_succ, List.set_cons_zero]
  refine st_val rfl (exec_faddr rfl (ev rfl) faRn0) ?_
  simp only [Act.put, List.setIfInBounds_toArray, List.set_cons_succ, List.set_cons_zero]
  refine st_val rfl (exec_ld rfl (ev rfl) (ldLs HL.out.c0)) ?_
  simp only [Act.put, List.setIfInBounds_toArray, List.set_cons_succ, List.set_cons_zero]
  refine st_val rfl (exec_mv rfl (ev rfl)) ?_
  simp only [Act.put, List.setIfInBounds_toArray, List.set_cons_succ, List.set_cons_zero]
  refine st_val rfl (exec_load rfl (ev rfl) HX.out) ?_
  simp only [Act.put, List.setIfInBounds_toArray, List.set_cons_succ, List.set_cons_zero]
  refine st_val rfl (exec_bldLk rfl evk (ev rfl)) ?_
  simp only [Act.put, List.setIfInBounds_toArray, List.set_cons_succ, List.set_cons_zero]
  refine st_val rfl (exec_indexE (E := LcE) rfl (ev rfl) (ev rfl) HK.out) ?_
  simp only [Act.put, List.setIfInBounds_toArray, List.set_cons_succ, List.set_cons_zero]
  refine wpStill_nil ?_
  change wpList _ _ _ _ _ (World.drew _)
  refine wpList_nuln rfl (exec_putLc rfl (ev rfl) (ev rfl) HTH.out) ?_
  simp only [Act.put, List.setIfInBounds_toArray, List.set_cons_succ, List.set_cons_zero]
  generalize (World.drew w1).setCells g (0 + k * LcE.n) (lcC_ ⟨true, false, b⟩) = w2 at *
  refine wpList_nil ?_
  go_wp2_with fail
  go_ret
  exact ⟨by rw [lnE_ok HK.out]; rfl, by rw [lnLrn_new HK.out HKN.out]; exact ⟨g, v, L, HP.out.1, HN.out⟩, ((Turn.of_below HB1.out).drew).trans HP.out.2⟩
theorem r_set (w : World) (m : Int) (b : Blk) (Q : Nat) {B q n : Nat} {s : LnS} (h : RN w B q n s) (hQ : Q < 18446744073709551616) (hn0 : n ≤ 1000) : Calls Try.prog 22 #[.pointer (some ⟨q, 0, none⟩), .int .i64 m, blk b, .int .u64 (Q : Int)] w fun e w' => e = .returned (.int .i64 (lnSE s m Q)) ∧ RN w' B q (n + 1) (lnSet s m b Q) ∧ TurnRn B w w' := by
  obtain ⟨g, v, L, h, hn⟩ := h
  have HN : Hid (L.length ≤ n + 1) := Lib.hid (by omega)
  have HN1 : Hid (L.length ≤ n) := Lib.hid hn
  have HL0 : Hid (L.length ≤ 1000) := Lib.hid (by omega)
  have HQ := Lib.hid hQ
  obtain ⟨A, c, rfl, _, _⟩ := h.sq.form
  clear hn hQ hn0
  have HB1 : Hid (Below w.heap.size w (w.alloc (.cells (cel b).toArray 33))) := Lib.hid ((Below.refl _ _).alloc (Nat.le_refl _) _)
  have HL : Hid (RNu (w.alloc (.cells (cel b).toArray 33)) B q g (.slice A L.length c) s L) := Lib.hid (h.below HB1.out)
  have HX : Hid ((w.alloc (.cells (cel b).toArray 33)).rangeAt w.heap.size 0 (cel b)) := Lib.hid (range_new w (cel b) _)
  clear h
  go_enter Try.func22, Try.ntmps22
  go_upto_region 0 with fail
  refine wp_region_lit ?_
  refine wpList_valn rfl (exec_box rfl (ev rfl)) ?_
  simp only [Act.put, List.setIfInBounds_toArray, List.set_cons_succ, List.set_cons_zero]
  refine wpList_valn rfl (exec_as rfl evk) ?_
  simp only [Act.put, List.setIfInBounds_toArray, List.set_cons_succ, List.set_cons_zero]
  refine wpList_nil ?_
  generalize w.alloc (.cells (cel b).toArray 33) = w1 at *
  cases hr : lnR s m
  · have HR := Lib.hid hr
    clear hr
    go_upto_region 1 with fail
    refine wp_region_lit ?_
    refine wpList_valn rfl (exec_mv rfl (ev rfl)) ?_
    simp only [Act.put, List.setIfInBounds_toArray, List.set_cons_succ, List.set_cons_zero]
    refine wpList_valn rfl (exec_mv rfl (ev rfl)) ?_
    simp only [Act.put, List.setIfInBounds_toArray, List.set_cons_succ, List.set_cons_zero]
    refine wpList_call rfl (exec_cl Try.call31 rfl (evc (ev rfl) (evc (ev rfl) evn))) ?_
    refine (r_has_v _ HL.out HR.out).mono ?_
    rintro e w' ⟨rfl, rfl⟩
    refine ⟨_, rfl, ?_⟩
    simp only [Act.put, List.setIfInBounds_toArray, List.set_cons_succ, List.set_cons_zero]
    refine wpList_valn (v := .bool true) rfl (exec_not false rfl (ev rfl)) ?_
    simp only [Act.put, List.setIfInBounds_toArray, List.set_cons_succ, List.set_cons_zero]
    refine wpList_skips 2 (v := .bool true) rfl (exec_mv rfl (ev rfl)) (by kernel_rfl) ?_
    simp only [skipAct, List.take_succ_cons, List.take_zero, List.drop_succ_cons, List.drop_zero, Act.put, List.setIfInBounds_toArray, List.set_cons_succ, List.set_cons_zero]
    refine wpList_valn (v := .bool true) rfl (exec_pt rfl (ev rfl) evk) ?_
    simp only [Act.put, List.setIfInBounds_toArray, List.set_cons_succ, List.set_cons_zero]
    refine wpList_nil ?_
    go_wp2_with fail
    go_ret
    exact ⟨by rw [lnSE_no HR.out]; rfl, by rw [lnSet_no HR.out]; exact ⟨g, _, _, HL.out, HN.out⟩, Turn.of_below HB1.out⟩
  have HR := Lib.hid hr
  by_cases hq0 : Q = 0
  · subst hq0
    have HE : Hid (((((0 : Nat) : Int)) == 0) = true) := Lib.hid rfl
    clear hr
    go_upto_region 1 with fail
    refine wp_region_lit ?_
    refine wpList_valn rfl (exec_mv rfl (ev rfl)) ?_
    simp only [Act.put, List.setIfInBounds_toArray, List.set_cons_succ, List.set_cons_zero]
    refine wpList_valn rfl (exec_mv rfl (ev rfl)) ?_
    simp only [Act.put, List.setIfInBounds_toArray, List.set_cons_succ, List.set_cons_zero]
    refine wpList_call rfl (exec_cl Try.call31 rfl (evc (ev rfl) (evc (ev rfl) evn))) ?_
    refine (r_has_v _ HL.out HR.out).mono ?_
    rintro e w' ⟨rfl, rfl⟩
    refine ⟨_, rfl, ?_⟩
    simp only [Act.put, List.setIfInBounds_toArray, List.set_cons_succ, List.set_cons_zero]
    refine wpList_valn (v := .bool false) rfl (exec_not true rfl (ev rfl)) ?_
    simp only [Act.put, List.setIfInBounds_toArray, List.set_cons_succ, List.set_cons_zero]
    refine wpList_valn (v := .bool false) rfl (exec_mv rfl (ev rfl)) ?_
    simp only [Act.put, List.setIfInBounds_toArray, List.set_cons_succ, List.set_cons_zero]
    refine wpList_val (wanted_of rfl rfl rfl rfl) (exec_mv rfl (ev rfl)) ?_
    simp only [Act.put, List.setIfInBounds_toArray, List.set_cons_succ, List.set_cons_zero]
    refine wpList_val (v := .bool true) (wanted_of rfl rfl rfl rfl) (exec_eqInt true rfl (ev rfl) evk HE.out) ?_
    simp only [Act.put, List.setIfInBounds_toArray, List.set_cons_succ, List.set_cons_zero]
    refine wpList_valn (v := .bool true) rfl (exec_pf rfl (ev rfl) (ev rfl)) ?_
    simp only [Act.put, List.setIfInBounds_toArray, List.set_cons_succ, List.set_cons_zero]
    refine wpList_nil ?_
    go_wp2_with fail
    go_ret
    exact ⟨by rw [lnSE_0]; rfl, by rw [lnSet_0]; exact ⟨g, _, _, HL.out, HN.out⟩, Turn.of_below HB1.out⟩
  obtain ⟨k, rfl, hk⟩ := lnR_get hr
  have HK := Lib.hid hk
  have HZ := Lib.hid hq0
  have HE : Hid (((Q : Int) == 0) = false) := Lib.hid (beq_eq_false_iff_ne.2 (by omega))
  have HP : Hid (RNu ((World.drew w1).setCells g (0 + k * LcE.n) (lcC_ ⟨true, true, b⟩)) B q g (.slice A L.length c) ⟨s.l.set k ⟨true, true, b⟩, s.f⟩ L ∧ TurnRn B (World.drew w1) ((World.drew w1).setCells g (0 + k * LcE.n) (lcC_ ⟨true, true, b⟩))) := Lib.hid (HL.out.drew.put HK.out ⟨true, true, b⟩ (fun e => by cases e))
  have HTH := Lib.hid (HL.out.drew.there HK.out)
  clear hr hk hq0
  go_upto_region 1 with fail
  refine wp_region_lit ?_
  refine wpList_valn rfl (exec_mv rfl (ev rfl)) ?_
  simp only [Act.put, List.setIfInBounds_toArray, List.set_cons_succ, List.set_cons_zero]
  refine wpList_valn rfl (exec_mv rfl (ev rfl)) ?_
  simp only [Act.put, List.setIfInBounds_toArray, List.set_cons_succ, List.set_cons_zero]
  refine wpList_call rfl (exec_cl Try.call31 rfl (evc (ev rfl) (evc (ev rfl) evn))) ?_
  refine (r_has_v _ HL.out HR.out).mono ?_
  rintro e w' ⟨rfl, rfl⟩
  refine ⟨_, rfl, ?_⟩
  simp only [Act.put, List.setIfInBounds_toArray, List.set_cons_succ, List.set_cons_zero]
  refine wpList_valn (v := .bool false) rfl (exec_not true rfl (ev rfl)) ?_
  simp only [Act.put, List.setIfInBounds_toArray, List.set_cons_succ, List.set_cons_zero]
  refine wpList_valn (v := .bool false) rfl (exec_mv rfl (ev rfl)) ?_
  simp only [Act.put, List.setIfInBounds_toArray, List.set_cons_succ, List.set_cons_zero]
  refine wpList_val (wanted_of rfl rfl rfl rfl) (exec_mv rfl (ev rfl)) ?_
  simp only [Act.put, List.setIfInBounds_toArray, List.set_cons_succ, List.set_cons_zero]
  refine wpList_val (v := .bool false) (wanted_of rfl rfl rfl rfl) (exec_eqInt false rfl (ev rfl) evk HE.out) ?_
  simp only [Act.put, List.setIfInBounds_toArray, List.set_cons_succ, List.set_cons_zero]
  refine wpList_valn (v := .bool false) rfl (exec_pf rfl (ev rfl) (ev rfl)) ?_
  simp only [Act.put, List.setIfInBounds_toArray, List.set_cons_succ, List.set_cons_zero]
  refine wpList_nil ?_
  go_upto_region 3 with fail
  refine wp_region_still_tail 8 (by kernel_rfl) (by kernel_rfl) ?_
  simp only [List.take_succ_cons, List.take_zero, List.drop_succ_cons, List.drop_zero]
  refine st_val rfl (exec_mv rfl (ev rfl)) ?_
  simp only [Act.put, List.setIfInBounds_toArray, List.set_cons_succ, List.set_cons_zero]
  refine st_val rfl (exec_nil rfl (ev rfl)) ?_
  simp only [Act.put, List.setIfInBounds_toArray, List.set_cons_succ, List.set_cons_zero]
  refine st_val rfl (exec_faddr rfl (ev rfl) faRn0) ?_
  simp only [Act.put, List.setIfInBounds_toArray, List.set_cons_succ, List.set_cons_zero]
  refine st_val rfl (exec_ld rfl (ev rfl) (ldLs HL.out.c0)) ?_
  simp only [Act.put, List.setIfInBounds_toArray, List.set_cons_succ, List.set_cons_zero]
  refine st_val rfl (exec_mv rfl (ev rfl)) ?_
  simp only [Act.put, List.setIfInBounds_toArray, List.set_cons_succ, List.set_cons_zero]
  refine st_val rfl (exec_load rfl (ev rfl) HX.out) ?_
  simp only [Act.put, List.setIfInBounds_toArray, List.set_cons_succ, List.set_cons_zero]
  refine st_val rfl (exec_bldLs rfl evk evk (ev rfl)) ?_
  simp only [Act.put, List.setIfInBounds_toArray, List.set_cons_succ, List.set_cons_zero]
  refine st_val rfl (exec_indexE (E := LcE) rfl (ev rfl) (ev rfl) HK.out) ?_
  simp only [Act.put, List.setIfInBounds_toArray, List.set_cons_succ, List.set_cons_zero]
  refine wpStill_nil ?_
  change wpList _ _ _ _ _ (World.drew _)
  refine wpList_nuln rfl (exec_putLc rfl (ev rfl) (ev rfl) HTH.out) ?_
  simp only [Act.put, List.setIfInBounds_toArray, List.set_cons_succ, List.set_cons_zero]
  generalize (World.drew w1).setCells g (0 + k * LcE.n) (lcC_ ⟨true, true, b⟩) = w2 at *
  refine wpList_nil ?_
  obtain ⟨A', c', w4, hrun, hc, hf, hR, hT⟩ := HP.out.1.app Q HQ.out HL0.out 58
  have HRUN := Lib.hid hrun
  have HC1 := Lib.hid hc
  have HF1 := Lib.hid hf
  have HR2 := Lib.hid hR
  have HT2 := Lib.hid hT
  clear hrun hc hf hR hT
  go_upto_region 4 with fail
  refine wp_region_lit ?_
  refine wpList_valn rfl (exec_mv rfl (ev rfl)) ?_
  simp only [Act.put, List.setIfInBounds_toArray, List.set_cons_succ, List.set_cons_zero]
  refine wpList_valn rfl (exec_mv rfl (ev rfl)) ?_
  simp only [Act.put, List.setIfInBounds_toArray, List.set_cons_succ, List.set_cons_zero]
  refine wpList_valn rfl (exec_nil rfl (ev rfl)) ?_
  simp only [Act.put, List.setIfInBounds_toArray, List.set_cons_succ, List.set_cons_zero]
  refine wpList_valn rfl (exec_faddr rfl (ev rfl) faRn1) ?_
  simp only [Act.put, List.setIfInBounds_toArray, List.set_cons_succ, List.set_cons_zero]
  refine wpList_valn rfl (exec_ld rfl (ev rfl) (ldSq HP.out.1.c1)) ?_
  simp only [Act.put, List.setIfInBounds_toArray, List.set_cons_succ, List.set_cons_zero]
  refine wpList_valn rfl (exec_mv rfl (ev rfl)) ?_
  simp only [Act.put, List.setIfInBounds_toArray, List.set_cons_succ, List.set_cons_zero]
  refine wpList_valn rfl (exec_mk1E (E := U6E) (a := (Q : Int)) rfl (ev rfl) rfl (by decide)) ?_
  simp only [Act.put, List.setIfInBounds_toArray, List.set_cons_succ, List.set_cons_zero]
  refine wpList_valn rfl (exec_appE (E := U6E) rfl (ev rfl) (ev rfl) HRUN.out) ?_
  simp only [Act.put, List.setIfInBounds_toArray, List.set_cons_succ, List.set_cons_zero]
  refine wpList_valn rfl (exec_nil rfl (ev rfl)) ?_
  simp only [Act.put, List.setIfInBounds_toArray, List.set_cons_succ, List.set_cons_zero]
  refine wpList_valn rfl (exec_faddr rfl (ev rfl) faRn1) ?_
  simp only [Act.put, List.setIfInBounds_toArray, List.set_cons_succ, List.set_cons_zero]
  refine wpList_nuln rfl (exec_st rfl (ev rfl) (ev rfl) (stSq HC1.out HF1.out)) ?_
  simp only [Act.put, List.setIfInBounds_toArray, List.set_cons_succ, List.set_cons_zero]
  generalize w4.setCell ⟨q, 1, none⟩ (.slice A' (L.length + 1) c') = w5 at *
  refine wpList_nil ?_
  go_wp2_with fail
  go_ret
  exact ⟨by rw [lnSE_ok HK.out HZ.out]; rfl, by rw [lnSet_ok HK.out HZ.out]; exact ⟨g, _, _, HR2.out, by rw [List.length_append, List.length_singleton]; have := HN1.out; omega⟩, (((Turn.of_below HB1.out).drew).trans HP.out.2).trans HT2.out⟩
theorem r_forget (w : World) (m : Int) {B q n : Nat} {s : LnS} (h : RN w B q n s) : Calls Try.prog 23 #[.pointer (some ⟨q, 0, none⟩), .int .i64 m] w fun e w' => e = .returned (.int .i64 (lnE s m)) ∧ RN w' B q n (lnFrg s m) ∧ TurnRn B w w' := by
  obtain ⟨g, v, L, h, hn⟩ := h
  have HN := Lib.hid hn
  have HL := Lib.hid h
  clear hn h
  go_enter Try.func23, Try.ntmps23
  cases hr : lnR s m
  · have HR := Lib.hid hr
    clear hr
    go_upto_region 1 with fail
    refine wp_region_lit ?_
    refine wpList_valn rfl (exec_mv rfl (ev rfl)) ?_
    simp only [Act.put, List.setIfInBounds_toArray, List.set_cons_succ, List.set_cons_zero]
    refine wpList_valn rfl (exec_mv rfl (ev rfl)) ?_
    simp only [Act.put, List.setIfInBounds_toArray, List.set_cons_succ, List.set_cons_zero]
    refine wpList_call rfl (exec_cl Try.call31 rfl (evc (ev rfl) (evc (ev rfl) evn))) ?_
    refine (r_has_v _ HL.out HR.out).mono ?_
    rintro e w' ⟨rfl, rfl⟩
    refine ⟨_, rfl, ?_⟩
    simp only [Act.put, List.setIfInBounds_toArray, List.set_cons_succ, List.set_cons_zero]
    refine wpList_valn (v := .bool true) rfl (exec_not false rfl (ev rfl)) ?_
    simp only [Act.put, List.setIfInBounds_toArray, List.set_cons_succ, List.set_cons_zero]
    refine wpList_nil ?_
    go_wp2_with fail
    go_ret
    exact ⟨by rw [lnE_no HR.out]; rfl, by rw [lnFrg_no HR.out]; exact ⟨g, v, L, HL.out, HN.out⟩, Turn.refl _ _ _⟩
  obtain ⟨k, rfl, hk⟩ := lnR_get hr
  have HR := Lib.hid hr
  have HK := Lib.hid hk
  have HP : Hid (RNu (w.setCells g (0 + k * LcE.n) (lcC_ lc0)) B q g v ⟨s.l.set k lc0, s.f⟩ L ∧ TurnRn B w (w.setCells g (0 + k * LcE.n) (lcC_ lc0))) := Lib.hid (HL.out.put HK.out lc0 (fun _ => rfl))
  have HTH := Lib.hid (HL.out.there HK.out)
  clear hr hk
  go_upto_region 1 with fail
  refine wp_region_lit ?_
  refine wpList_valn rfl (exec_mv rfl (ev rfl)) ?_
  simp only [Act.put, List.setIfInBounds_toArray, List.set_cons_succ, List.set_cons_zero]
  refine wpList_valn rfl (exec_mv rfl (ev rfl)) ?_
  simp only [Act.put, List.setIfInBounds_toArray, List.set_cons_succ, List.set_cons_zero]
  refine wpList_call rfl (exec_cl Try.call31 rfl (evc (ev rfl) (evc (ev rfl) evn))) ?_
  refine (r_has_v _ HL.out HR.out).mono ?_
  rintro e w' ⟨rfl, rfl⟩
  refine ⟨_, rfl, ?_⟩
  simp only [Act.put, List.setIfInBounds_toArray, List.set_cons_succ, List.set_cons_zero]
  refine wpList_valn (v := .bool false) rfl (exec_not true rfl (ev rfl)) ?_
  simp only [Act.put, List.setIfInBounds_toArray, List.set_cons_succ, List.set_cons_zero]
  refine wpList_nil ?_
  go_upto_region 3 with fail
  refine wp_region_lit ?_
  refine wpList_valn rfl (exec_mv rfl (ev rfl)) ?_
  simp only [Act.put, List.setIfInBounds_toArray, List.set_cons_succ, List.set_cons_zero]
  refine wpList_valn rfl (exec_nil rfl (ev rfl)) ?_
  simp only [Act.put, List.setIfInBounds_toArray, List.set_cons_succ, List.set_cons_zero]
  refine wpList_valn rfl (exec_faddr rfl (ev rfl) faRn0) ?_
  simp only [Act.put, List.setIfInBounds_toArray, List.set_cons_succ, List.set_cons_zero]
  refine wpList_valn rfl (exec_ld rfl (ev rfl) (ldLs HL.out.c0)) ?_
  simp only [Act.put, List.setIfInBounds_toArray, List.set_cons_succ, List.set_cons_zero]
  refine wpList_valn rfl (exec_mv rfl (ev rfl)) ?_
  simp only [Act.put, List.setIfInBounds_toArray, List.set_cons_succ, List.set_cons_zero]
  refine wpList_valn rfl (exec_bld0 rfl run_bldL0) ?_
  simp only [Act.put, List.setIfInBounds_toArray, List.set_cons_succ, List.set_cons_zero]
  refine wpList_valn rfl (exec_indexE (E := LcE) rfl (ev rfl) (ev rfl) HK.out) ?_
  simp only [Act.put, List.setIfInBounds_toArray, List.set_cons_succ, List.set_cons_zero]
  refine wpList_nuln rfl (exec_putLc rfl (ev rfl) (ev rfl) HTH.out) ?_
  simp only [Act.put, List.setIfInBounds_toArray, List.set_cons_succ, List.set_cons_zero]
  generalize w.setCells g (0 + k * LcE.n) (lcC_ lc0) = w2 at *
  refine wpList_nil ?_
  go_wp2_with fail
  go_ret
  exact ⟨by rw [lnE_ok HK.out]; rfl, by rw [lnFrg_ok HK.out]; exact ⟨g, v, L, HP.out.1, HN.out⟩, HP.out.2⟩
theorem r_get (w : World) (m : Int) {B q n : Nat} {s : LnS} (h : RN w B q n s) : Calls Try.prog 25 #[.pointer (some ⟨q, 0, none⟩), .int .i64 m] w fun e w' => e = .returned (.tuple #[blk (lnG s m).b, .bool (lnG s m).kn]) ∧ Below w.heap.size w w' := by
  obtain ⟨g, v, L, h, hn⟩ := h
  have HB1 : Hid (Below w.heap.size w (w.alloc (.cells (cel zeroB).toArray 33))) := Lib.hid ((Below.refl _ _).alloc (Nat.le_refl _) _)
  have HL : Hid (RNu (w.alloc (.cells (cel zeroB).toArray 33)) B q g v s L) := Lib.hid (h.below HB1.out)
  have HT := Lib.hid (there_new w zeroB 33)
  have HNI : Hid (∀ o, (w.alloc (.cells (cel zeroB).toArray 33)).heap[w.heap.size]? = some o → ¬ isRn o) := Lib.hid (fun o ho hI => by
    rw [heap_alloc_new] at ho
    cases ho
    exact absurd (show 33 = 60 ∨ 33 = 64 ∨ 33 = 34 from hI) (by decide))
  clear h hn
  go_enter Try.func25, Try.ntmps25
  go_upto_region 0 with fail
  refine wp_region_lit ?_
  refine wpList_valn rfl (exec_alloc rfl) ?_
  simp only [Act.put, List.setIfInBounds_toArray, List.set_cons_succ, List.set_cons_zero]
  refine wpList_valn (v := .bool false) rfl (exec_as rfl evk) ?_
  simp only [Act.put, List.setIfInBounds_toArray, List.set_cons_succ, List.set_cons_zero]
  refine wpList_nil ?_
  generalize w.alloc (.cells (cel zeroB).toArray 33) = w1 at *
  cases hr : lnR s m
  · have HR := Lib.hid hr
    clear hr
    go_upto_region 1 with fail
    refine wp_region_lit ?_
    refine wpList_valn rfl (exec_mv rfl (ev rfl)) ?_
    simp only [Act.put, List.setIfInBounds_toArray, List.set_cons_succ, List.set_cons_zero]
    refine wpList_valn rfl (exec_mv rfl (ev rfl)) ?_
    simp only [Act.put, List.setIfInBounds_toArray, List.set_cons_succ, List.set_cons_zero]
    refine wpList_call rfl (exec_cl Try.call31 rfl (evc (ev rfl) (evc (ev rfl) evn))) ?_
    refine (r_has_v _ HL.out HR.out).mono ?_
    rintro e w' ⟨rfl, rfl⟩
    refine ⟨_, rfl, ?_⟩
    simp only [Act.put, List.setIfInBounds_toArray, List.set_cons_succ, List.set_cons_zero]
    refine wpList_valn (v := .bool true) rfl (exec_not false rfl (ev rfl)) ?_
    simp only [Act.put, List.setIfInBounds_toArray, List.set_cons_succ, List.set_cons_zero]
    refine wpList_nil ?_
    go_upto_region 2 with fail
    refine wp_region_lit ?_
    refine wpList_valn rfl (exec_build (c := zeroB) (parts := []) rfl rfl) ?_
    simp only [Act.put, List.setIfInBounds_toArray, List.set_cons_succ, List.set_cons_zero]
    refine wpList_nuln rfl (exec_store rfl (ev rfl) (ev rfl) HT.out) ?_
    simp only [Act.put, List.setIfInBounds_toArray, List.set_cons_succ, List.set_cons_zero]
    refine wpList_valn (v := .bool false) rfl (exec_as rfl evk) ?_
    simp only [Act.put, List.setIfInBounds_toArray, List.set_cons_succ, List.set_cons_zero]
    refine wpList_nil ?_
    go_wp2_with fail
    exact bodyPost_ret (res_blk2 rfl _ _ _ rfl (World.rangeAt_setCells_same _ _ _ _ (by rw [cel_length]; exact HT.out))) rfl ⟨by rw [lnG_no HR.out]; rfl, below_setCells HB1.out (Nat.le_refl _) _⟩
  obtain ⟨k, rfl, hk⟩ := lnR_get hr
  have HR := Lib.hid hr
  have HK := Lib.hid hk
  clear hr hk
  go_upto_region 1 with fail
  refine wp_region_lit ?_
  refine wpList_valn rfl (exec_mv rfl (ev rfl)) ?_
  simp only [Act.put, List.setIfInBounds_toArray, List.set_cons_succ, List.set_cons_zero]
  refine wpList_valn rfl (exec_mv rfl (ev rfl)) ?_
  simp only [Act.put, List.setIfInBounds_toArray, List.set_cons_succ, List.set_cons_zero]
  refine wpList_call rfl (exec_cl Try.call31 rfl (evc (ev rfl) (evc (ev rfl) evn))) ?_
  refine (r_has_v _ HL.out HR.out).mono ?_
  rintro e w' ⟨rfl, rfl⟩
  refine ⟨_, rfl, ?_⟩
  simp only [Act.put, List.setIfInBounds_toArray, List.set_cons_succ, List.set_cons_zero]
  refine wpList_valn (v := .bool false) rfl (exec_not true rfl (ev rfl)) ?_
  simp only [Act.put, List.setIfInBounds_toArray, List.set_cons_succ, List.set_cons_zero]
  refine wpList_nil ?_
  have HS1 : Hid (RNu (World.drew w1) B q g v s L ∧ (World.drew w1).there w.heap.size 0 64) := Lib.hid ⟨HL.out.drew, there_drew HT.out⟩
  have HW2 : Hid (RNu ((World.drew w1).setCells w.heap.size 0 (cel (lnAt s k).b)) B q g v s L) := Lib.hid (HL.out.keep fun b o ho hI => by
    rw [blk_setCells w.heap.size _ _ _ b (fun e => by subst e; exact absurd hI (HNI.out _ ho))]
    exact ho)
  have HT2 : Hid (((World.drew w1).setCells w.heap.size 0 (cel (lnAt s k).b)).there w.heap.size 0 64) := Lib.hid (there_set (there_drew HT.out))
  have HR2 : Hid (((World.drew w1).setCells w.heap.size 0 (cel (lnAt s k).b)).rangeAt w.heap.size 0 (cel (lnAt s k).b)) := Lib.hid (World.rangeAt_setCells_same _ _ _ _ (by rw [cel_length]; exact there_drew HT.out))
  have HB2 : Hid (Below w.heap.size w ((World.drew w1).setCells w.heap.size 0 (cel (lnAt s k).b))) := Lib.hid (below_setCells HB1.out.drew (Nat.le_refl _) _)
  go_upto_region 3 with fail
  refine wp_region_held (S := fun w' => RNu w' B q g v s L ∧ w'.there w.heap.size 0 64) (by kernel_rfl) ?_
  change wpAnyH _ _ _ _ _ 18 _ _ w1.drew
  refine held_val 0 rfl (by kernel_rfl) (by kernel_rfl) (by kernel_rfl) rfl (fun w' hw => exec_mv rfl (ev rfl)) (fun _ _ _ h => h) HS1.out ?_
  simp only [Act.put, List.setIfInBounds_toArray, List.set_cons_succ, List.set_cons_zero]
  refine held_val 1 rfl (by kernel_rfl) (by kernel_rfl) (by kernel_rfl) rfl (fun w' hw => exec_nil rfl (ev rfl)) (fun _ _ _ h => h) HS1.out ?_
  simp only [Act.put, List.setIfInBounds_toArray, List.set_cons_succ, List.set_cons_zero]
  refine held_val 2 rfl (by kernel_rfl) (by kernel_rfl) (by kernel_rfl) rfl (fun w' hw => exec_faddr rfl (ev rfl) faRn0) (fun _ _ _ h => h) HS1.out ?_
  simp only [Act.put, List.setIfInBounds_toArray, List.set_cons_succ, List.set_cons_zero]
  refine held_val 3 rfl (by kernel_rfl) (by kernel_rfl) (by kernel_rfl) rfl (fun w' hw => exec_ld rfl (ev rfl) (ldLs hw.1.c0)) (fun _ _ _ h => h) HS1.out ?_
  simp only [Act.put, List.setIfInBounds_toArray, List.set_cons_succ, List.set_cons_zero]
  refine held_val 4 rfl (by kernel_rfl) (by kernel_rfl) (by kernel_rfl) rfl (fun w' hw => exec_mv rfl (ev rfl)) (fun _ _ _ h => h) HS1.out ?_
  simp only [Act.put, List.setIfInBounds_toArray, List.set_cons_succ, List.set_cons_zero]
  refine held_val 5 rfl (by kernel_rfl) (by kernel_rfl) (by kernel_rfl) rfl (fun w' hw => exec_indexE (E := LcE) rfl (ev rfl) (ev rfl) HK.out) (fun _ _ _ h => h) HS1.out ?_
  simp only [Act.put, List.setIfInBounds_toArray, List.set_cons_succ, List.set_cons_zero]
  refine held_val 6 rfl (by kernel_rfl) (by kernel_rfl) (by kernel_rfl) rfl (fun w' hw => exec_faddr rfl (ev rfl) faLc2) (fun _ _ _ h => h) HS1.out ?_
  simp only [Act.put, List.setIfInBounds_toArray, List.set_cons_succ, List.set_cons_zero]
  refine held_val 7 rfl (by kernel_rfl) (by kernel_rfl) (by kernel_rfl) rfl (fun w' hw => exec_load rfl (ev rfl) (hw.1.bk HK.out)) (fun _ _ _ h => h) HS1.out ?_
  simp only [Act.put, List.setIfInBounds_toArray, List.set_cons_succ, List.set_cons_zero]
  refine held_val 8 rfl (by kernel_rfl) (by kernel_rfl) (by kernel_rfl) rfl (fun w' hw => exec_mv rfl (ev rfl)) (fun _ _ _ h => h) HS1.out ?_
  simp only [Act.put, List.setIfInBounds_toArray, List.set_cons_succ, List.set_cons_zero]
  refine held_val 9 rfl (by kernel_rfl) (by kernel_rfl) (by kernel_rfl) rfl (fun w' hw => exec_nil rfl (ev rfl)) (fun _ _ _ h => h) HS1.out ?_
  simp only [Act.put, List.setIfInBounds_toArray, List.set_cons_succ, List.set_cons_zero]
  refine held_val 10 rfl (by kernel_rfl) (by kernel_rfl) (by kernel_rfl) rfl (fun w' hw => exec_faddr rfl (ev rfl) faRn0) (fun _ _ _ h => h) HS1.out ?_
  simp only [Act.put, List.setIfInBounds_toArray, List.set_cons_succ, List.set_cons_zero]
  refine held_val 11 rfl (by kernel_rfl) (by kernel_rfl) (by kernel_rfl) rfl (fun w' hw => exec_ld rfl (ev rfl) (ldLs hw.1.c0)) (fun _ _ _ h => h) HS1.out ?_
  simp only [Act.put, List.setIfInBounds_toArray, List.set_cons_succ, List.set_cons_zero]
  refine held_val 12 rfl (by kernel_rfl) (by kernel_rfl) (by kernel_rfl) rfl (fun w' hw => exec_mv rfl (ev rfl)) (fun _ _ _ h => h) HS1.out ?_
  simp only [Act.put, List.setIfInBounds_toArray, List.set_cons_succ, List.set_cons_zero]
  refine held_val 13 rfl (by kernel_rfl) (by kernel_rfl) (by kernel_rfl) rfl (fun w' hw => exec_indexE (E := LcE) rfl (ev rfl) (ev rfl) HK.out) (fun _ _ _ h => h) HS1.out ?_
  simp only [Act.put, List.setIfInBounds_toArray, List.set_cons_succ, List.set_cons_zero]
  refine held_val 14 rfl (by kernel_rfl) (by kernel_rfl) (by kernel_rfl) rfl (fun w' hw => exec_faddr rfl (ev rfl) faLc0) (fun _ _ _ h => h) HS1.out ?_
  simp only [Act.put, List.setIfInBounds_toArray, List.set_cons_succ, List.set_cons_zero]
  refine held_val 15 rfl (by kernel_rfl) (by kernel_rfl) (by kernel_rfl) rfl (fun w' hw => exec_ld rfl (ev rfl) (ldBo_ (hw.1.kn HK.out))) (fun _ _ _ h => h) HS1.out ?_
  simp only [Act.put, List.setIfInBounds_toArray, List.set_cons_succ, List.set_cons_zero]
  refine held_nul 16 rfl (by kernel_rfl) rfl (exec_store rfl (ev rfl) (ev rfl) (there_drew HT.out)) ⟨HW2.out, HT2.out⟩ ?_
  simp only [Act.put]
  generalize (World.drew w1).setCells w.heap.size 0 (cel (lnAt s k).b) = w2 at *
  refine held_val 17 rfl (by kernel_rfl) (by kernel_rfl) (by kernel_rfl) rfl (fun w' hw => exec_as rfl (ev rfl)) (fun _ _ _ h => h) ⟨HW2.out, HT2.out⟩ ?_
  simp only [Act.put, List.setIfInBounds_toArray, List.set_cons_succ, List.set_cons_zero]
  refine wpAnyH_done (by kernel_rfl) ?_ _
  go_wp2_with fail
  exact bodyPost_ret (res_blk2 rfl _ _ _ rfl HR2.out) rfl ⟨by rw [lnG_ok HK.out]; rfl, HB2.out⟩
theorem i64k_ {a : Int} (h : -9223372036854775808 ≤ a ∧ a ≤ 9223372036854775807) : IntKind.i64.wrap a = a := IntWalk.i64_in _ ⟨by omega, by omega⟩
theorem RdE.u6 {w : World} {B n k : Nat} {A : Option Addr} {l : List Int} (h : RdE U6E w B A n l) (hk : k < n) : ∃ b off, A = some ⟨b, off, none⟩ ∧ b < B ∧ w.cell? ⟨b, off + k * U6E.n, none⟩ = some (.int .u64 (l.getD k 0)) := by
  obtain ⟨b, off, e, hb, hc⟩ := h.2 k hk
  exact ⟨b, off, e, hb, hc 0 _ rfl⟩
theorem r_dirty (w : World) {B q n : Nat} {s : LnS} (h : RN w B q n s) : Calls Try.prog 27 #[.pointer (some ⟨q, 0, none⟩)] w fun e w' => ∃ v, e = .returned v ∧ MadeE IntE w' w.heap.size v (lnD s) ∧ Below w.heap.size w w' := by
  obtain ⟨g, v, L, h, hn⟩ := h
  have HH := Lib.hid h
  have HN : Hid (s.l.length ≤ 16) := Lib.hid h.ok.hi
  clear h hn
  go_enter Try.func27, Try.ntmps27
  go_wp2_with fail
  go_loopw [3, 4] (fun z c wr => ∃ i : Nat, c = .int .i64 i ∧ i ≤ s.l.length ∧ MadeE IntE wr w.heap.size z (drtN s.l i) ∧ Below w.heap.size w wr) (fun _ c _ => s.l.length - (intOf c).toNat)
  case atStart => exact ⟨0, by go_num, Nat.zero_le _, MadeE.nil _ _, Below.refl _ _⟩
  case round =>
    obtain ⟨i, rfl, hi, hm, hb⟩ := hrel
    have HM := Lib.hid hm
    have HW := Lib.hid hb
    have HL := Lib.hid (HH.out.below hb)
    have HBS : Hid (w.heap.size ≤ wr.heap.size) := Lib.hid hb.size
    by_cases hlt : i < s.l.length
    · have HI := Lib.hid hlt
      have HT : Hid (decide ((i : Int) < (s.l.length : Int)) = true) := Lib.hid (decide_eq_true (by omega))
      have HA : Hid (IntKind.i64.wrap ((i : Int) + 1) = ((i + 1 : Nat) : Int)) := Lib.hid (by have := HN.out; rw [i64k_ ⟨by omega, by omega⟩]; omega)
      clear hm hb hi hlt
      go_upto_region 3 with fail
      refine wp_region_lit ?_
      refine wpList_valn rfl (exec_mv rfl (ev rfl)) ?_
      simp only [Act.put, List.setIfInBounds_toArray, List.set_cons_succ, List.set_cons_zero]
      refine wpList_valn rfl (exec_mv rfl (ev rfl)) ?_
      simp only [Act.put, List.setIfInBounds_toArray, List.set_cons_succ, List.set_cons_zero]
      refine wpList_valn rfl (exec_nil rfl (ev rfl)) ?_
      simp only [Act.put, List.setIfInBounds_toArray, List.set_cons_succ, List.set_cons_zero]
      refine wpList_valn rfl (exec_faddr rfl (ev rfl) faRn0) ?_
      simp only [Act.put, List.setIfInBounds_toArray, List.set_cons_succ, List.set_cons_zero]
      refine wpList_valn rfl (exec_ld rfl (ev rfl) (ldLs HL.out.c0)) ?_
      simp only [Act.put, List.setIfInBounds_toArray, List.set_cons_succ, List.set_cons_zero]
      refine wpList_valn rfl (exec_lenE LcE rfl (ev rfl)) ?_
      simp only [Act.put, List.setIfInBounds_toArray, List.set_cons_succ, List.set_cons_zero]
      refine wpList_valn (v := .bool true) rfl (exec_lss true rfl (ev rfl) (ev rfl) HT.out) ?_
      simp only [Act.put, List.setIfInBounds_toArray, List.set_cons_succ, List.set_cons_zero]
      refine wpList_nil ?_
      cases hd : (lnAt s i).dt
      · have HD := Lib.hid hd
        have HST : Hid (drtN s.l (i + 1) = drtN s.l i) := Lib.hid (by rw [drtN, show (s.l.getD i lc0).dt = false from HD.out]; simp)
        clear hd
        go_upto_region 5 with fail
        refine wp_region_lit ?_
        refine wpList_valn rfl (exec_mv rfl (ev rfl)) ?_
        simp only [Act.put, List.setIfInBounds_toArray, List.set_cons_succ, List.set_cons_zero]
        refine wpList_valn rfl (exec_nil rfl (ev rfl)) ?_
        simp only [Act.put, List.setIfInBounds_toArray, List.set_cons_succ, List.set_cons_zero]
        refine wpList_valn rfl (exec_faddr rfl (ev rfl) faRn0) ?_
        simp only [Act.put, List.setIfInBounds_toArray, List.set_cons_succ, List.set_cons_zero]
        refine wpList_valn rfl (exec_ld rfl (ev rfl) (ldLs HL.out.c0)) ?_
        simp only [Act.put, List.setIfInBounds_toArray, List.set_cons_succ, List.set_cons_zero]
        refine wpList_valn rfl (exec_mv rfl (ev rfl)) ?_
        simp only [Act.put, List.setIfInBounds_toArray, List.set_cons_succ, List.set_cons_zero]
        refine wpList_valn rfl (exec_indexE (E := LcE) rfl (ev rfl) (ev rfl) HI.out) ?_
        simp only [Act.put, List.setIfInBounds_toArray, List.set_cons_succ, List.set_cons_zero]
        refine wpList_valn rfl (exec_faddr rfl (ev rfl) faLc1) ?_
        simp only [Act.put, List.setIfInBounds_toArray, List.set_cons_succ, List.set_cons_zero]
        refine wpList_valn (v := .bool false) rfl (exec_ld rfl (ev rfl) (ldBo_ (by rw [HL.out.dt HI.out, HD.out]))) ?_
        simp only [Act.put, List.setIfInBounds_toArray, List.set_cons_succ, List.set_cons_zero]
        refine wpList_nil ?_
        go_upto_region 4 with fail
        refine wp_region_lit ?_
        refine wpList_valn rfl (exec_mv rfl (ev rfl)) ?_
        simp only [Act.put, List.setIfInBounds_toArray, List.set_cons_succ, List.set_cons_zero]
        refine wpList_valn rfl (exec_add rfl (ev rfl) evk HA.out) ?_
        simp only [Act.put, List.setIfInBounds_toArray, List.set_cons_succ, List.set_cons_zero]
        refine wpList_valn rfl (exec_as rfl (ev rfl)) ?_
        simp only [Act.put, List.setIfInBounds_toArray, List.set_cons_succ, List.set_cons_zero]
        refine wpList_nil ?_
        go_wp2_with fail
        go_roundw
        case rel => exact ⟨i + 1, by go_num, HI.out, by rw [HST.out]; exact HM.out, HW.out⟩
        case measure => have := HI.out; simp [intOf]; omega
      have HD := Lib.hid hd
      have HST : Hid (drtN s.l (i + 1) = drtN s.l i ++ [(i : Int)]) := Lib.hid (by rw [drtN, show (s.l.getD i lc0).dt = true from HD.out]; rfl)
      have hsz : (wr.alloc (.cells #[.int .i64 (i : Int)] 3)).heap.size = wr.heap.size + 1 := World.size_alloc ..
      obtain ⟨v2, w2, hrun, hm2, hg2⟩ := run_appE IntE (wr.alloc (.cells #[.int .i64 (i : Int)] 3)) 43 w.heap.size (wr.heap.size + 1) 1 1 u3 (drtN s.l i) [(i : Int)] (some ⟨wr.heap.size, 0, none⟩) (MadeE.below HM.out ((Below.refl _ _).alloc (Nat.le_refl _) _)) (rdE_new (E := IntE) (l := [(i : Int)]) wr #[.int .i64 (i : Int)] 3 rfl) (by have := HBS.out; omega) (by have := drt_len s.l i; have := HI.out; have := HN.out; simp; omega)
      have HRUN := Lib.hid hrun
      have HM2 : Hid (MadeE IntE w2 w.heap.size v2 (drtN s.l (i + 1))) := Lib.hid (by rw [HST.out]; exact hm2)
      have HW2 : Hid (Below w.heap.size w w2) := Lib.hid ((HW.out.trans ((Below.refl _ _).alloc HBS.out _)).grown hg2 (by have := HBS.out; omega) (fun j' hj' => HM.out.lt_own j' hj'))
      clear hd hsz hrun hm2 hg2
      go_upto_region 5 with fail
      refine wp_region_lit ?_
      refine wpList_valn rfl (exec_mv rfl (ev rfl)) ?_
      simp only [Act.put, List.setIfInBounds_toArray, List.set_cons_succ, List.set_cons_zero]
      refine wpList_valn rfl (exec_nil rfl (ev rfl)) ?_
      simp only [Act.put, List.setIfInBounds_toArray, List.set_cons_succ, List.set_cons_zero]
      refine wpList_valn rfl (exec_faddr rfl (ev rfl) faRn0) ?_
      simp only [Act.put, List.setIfInBounds_toArray, List.set_cons_succ, List.set_cons_zero]
      refine wpList_valn rfl (exec_ld rfl (ev rfl) (ldLs HL.out.c0)) ?_
      simp only [Act.put, List.setIfInBounds_toArray, List.set_cons_succ, List.set_cons_zero]
      refine wpList_valn rfl (exec_mv rfl (ev rfl)) ?_
      simp only [Act.put, List.setIfInBounds_toArray, List.set_cons_succ, List.set_cons_zero]
      refine wpList_valn rfl (exec_indexE (E := LcE) rfl (ev rfl) (ev rfl) HI.out) ?_
      simp only [Act.put, List.setIfInBounds_toArray, List.set_cons_succ, List.set_cons_zero]
      refine wpList_valn rfl (exec_faddr rfl (ev rfl) faLc1) ?_
      simp only [Act.put, List.setIfInBounds_toArray, List.set_cons_succ, List.set_cons_zero]
      refine wpList_valn (v := .bool true) rfl (exec_ld rfl (ev rfl) (ldBo_ (by rw [HL.out.dt HI.out, HD.out]))) ?_
      simp only [Act.put, List.setIfInBounds_toArray, List.set_cons_succ, List.set_cons_zero]
      refine wpList_nil ?_
      go_upto_region 6 with fail
      refine wp_region_lit ?_
      refine wpList_valn rfl (exec_mv rfl (ev rfl)) ?_
      simp only [Act.put, List.setIfInBounds_toArray, List.set_cons_succ, List.set_cons_zero]
      refine wpList_valn rfl (exec_mv rfl (ev rfl)) ?_
      simp only [Act.put, List.setIfInBounds_toArray, List.set_cons_succ, List.set_cons_zero]
      refine wpList_valn rfl (exec_mk1E (E := IntE) (a := (i : Int)) rfl (ev rfl) rfl (by decide)) ?_
      simp only [Act.put, List.setIfInBounds_toArray, List.set_cons_succ, List.set_cons_zero]
      refine wpList_valn rfl (exec_appE (E := IntE) rfl (ev rfl) (ev rfl) HRUN.out) ?_
      simp only [Act.put, List.setIfInBounds_toArray, List.set_cons_succ, List.set_cons_zero]
      refine wpList_valn rfl (exec_as rfl (ev rfl)) ?_
      simp only [Act.put, List.setIfInBounds_toArray, List.set_cons_succ, List.set_cons_zero]
      refine wpList_nil ?_
      go_upto_region 4 with fail
      refine wp_region_lit ?_
      refine wpList_valn rfl (exec_mv rfl (ev rfl)) ?_
      simp only [Act.put, List.setIfInBounds_toArray, List.set_cons_succ, List.set_cons_zero]
      refine wpList_valn rfl (exec_add rfl (ev rfl) evk HA.out) ?_
      simp only [Act.put, List.setIfInBounds_toArray, List.set_cons_succ, List.set_cons_zero]
      refine wpList_valn rfl (exec_as rfl (ev rfl)) ?_
      simp only [Act.put, List.setIfInBounds_toArray, List.set_cons_succ, List.set_cons_zero]
      refine wpList_nil ?_
      go_wp2_with fail
      go_roundw
      case rel => exact ⟨i + 1, by go_num, HI.out, HM2.out, HW2.out⟩
      case measure => have := HI.out; simp [intOf]; omega
    have hin : i = s.l.length := by omega
    subst hin
    have HT : Hid (decide ((s.l.length : Int) < (s.l.length : Int)) = false) := Lib.hid (decide_eq_false (by omega))
    clear hlt hi hm hb
    go_upto_region 3 with fail
    refine wp_region_lit ?_
    refine wpList_valn rfl (exec_mv rfl (ev rfl)) ?_
    simp only [Act.put, List.setIfInBounds_toArray, List.set_cons_succ, List.set_cons_zero]
    refine wpList_valn rfl (exec_mv rfl (ev rfl)) ?_
    simp only [Act.put, List.setIfInBounds_toArray, List.set_cons_succ, List.set_cons_zero]
    refine wpList_valn rfl (exec_nil rfl (ev rfl)) ?_
    simp only [Act.put, List.setIfInBounds_toArray, List.set_cons_succ, List.set_cons_zero]
    refine wpList_valn rfl (exec_faddr rfl (ev rfl) faRn0) ?_
    simp only [Act.put, List.setIfInBounds_toArray, List.set_cons_succ, List.set_cons_zero]
    refine wpList_valn rfl (exec_ld rfl (ev rfl) (ldLs HL.out.c0)) ?_
    simp only [Act.put, List.setIfInBounds_toArray, List.set_cons_succ, List.set_cons_zero]
    refine wpList_valn rfl (exec_lenE LcE rfl (ev rfl)) ?_
    simp only [Act.put, List.setIfInBounds_toArray, List.set_cons_succ, List.set_cons_zero]
    refine wpList_valn (v := .bool false) rfl (exec_lss false rfl (ev rfl) (ev rfl) HT.out) ?_
    simp only [Act.put, List.setIfInBounds_toArray, List.set_cons_succ, List.set_cons_zero]
    refine wpList_nil ?_
    go_wp2_with fail
    go_ret
    exact ⟨_, rfl, HM.out, HW.out⟩
theorem r_first (w : World) {B q n : Nat} {s : LnS} (h : RN w B q n s) (hn0 : n ≤ 1000) : Calls Try.prog 26 #[.pointer (some ⟨q, 0, none⟩)] w fun e w' => e = .returned (.int .u64 (s.f : Int)) ∧ w = w' := by
  obtain ⟨g, v, L, h, hn⟩ := h
  obtain ⟨A, c, rfl, _, _⟩ := h.sq.form
  have HL := Lib.hid h
  have HN : Hid (L.length ≤ 1000) := Lib.hid (by omega)
  have HRD := Lib.hid h.sq.rd
  have HF : Hid (s.f = lstN L L.length) := Lib.hid h.fs
  have HNN : Hid (∀ x ∈ L, 0 ≤ x) := Lib.hid h.nn
  clear h hn hn0
  go_enter Try.func26, Try.ntmps26
  go_wp2_with fail
  go_loopw [3, 4] (fun z c wr => ∃ i : Nat, c = .int .i64 i ∧ i ≤ L.length ∧ z = .int .u64 (lstN L i : Nat) ∧ w = wr) (fun _ c _ => L.length - (intOf c).toNat)
  case atStart => exact ⟨0, by go_num, Nat.zero_le _, rfl, rfl⟩
  case round =>
    obtain ⟨i, rfl, hi, rfl, rfl⟩ := hrel
    by_cases hlt : i < L.length
    · have HI := Lib.hid hlt
      have HT : Hid (decide ((i : Int) < (L.length : Int)) = true) := Lib.hid (decide_eq_true (by omega))
      have HA : Hid (IntKind.i64.wrap ((i : Int) + 1) = ((i + 1 : Nat) : Int)) := Lib.hid (by have := HN.out; rw [i64k_ ⟨by omega, by omega⟩]; omega)
      obtain ⟨b, off, rfl, _, hc⟩ := HRD.out.u6 hlt
      obtain ⟨x, hx, hx2⟩ : ∃ x : Nat, L.getD i 0 = (x : Int) ∧ (L.getD i 0).toNat = x := by
        have h0 : 0 ≤ L.getD i 0 := HNN.out _ (by rw [List.getD, List.getElem?_eq_getElem hlt]; exact List.getElem_mem hlt)
        exact ⟨(L.getD i 0).toNat, by omega, rfl⟩
      rw [hx] at hc
      have HC := Lib.hid hc
      have HST : Hid (lstN L (i + 1) = minF (lstN L i) x) := Lib.hid (by rw [lstN, hx2])
      clear hc hx hx2 hi hlt
      go_upto_region 3 with fail
      refine wp_region_lit ?_
      refine wpList_valn rfl (exec_mv rfl (ev rfl)) ?_
      simp only [Act.put, List.setIfInBounds_toArray, List.set_cons_succ, List.set_cons_zero]
      refine wpList_valn rfl (exec_mv rfl (ev rfl)) ?_
      simp only [Act.put, List.setIfInBounds_toArray, List.set_cons_succ, List.set_cons_zero]
      refine wpList_valn rfl (exec_nil rfl (ev rfl)) ?_
      simp only [Act.put, List.setIfInBounds_toArray, List.set_cons_succ, List.set_cons_zero]
      refine wpList_valn rfl (exec_faddr rfl (ev rfl) faRn1) ?_
      simp only [Act.put, List.setIfInBounds_toArray, List.set_cons_succ, List.set_cons_zero]
      refine wpList_valn rfl (exec_ld rfl (ev rfl) (ldSq HL.out.c1)) ?_
      simp only [Act.put, List.setIfInBounds_toArray, List.set_cons_succ, List.set_cons_zero]
      refine wpList_valn rfl (exec_lenE U6E rfl (ev rfl)) ?_
      simp only [Act.put, List.setIfInBounds_toArray, List.set_cons_succ, List.set_cons_zero]
      refine wpList_valn (v := .bool true) rfl (exec_lss true rfl (ev rfl) (ev rfl) HT.out) ?_
      simp only [Act.put, List.setIfInBounds_toArray, List.set_cons_succ, List.set_cons_zero]
      refine wpList_nil ?_
      by_cases hz : lstN L i = 0
      · have HZ : Hid (((lstN L i : Int) == 0) = true) := Lib.hid (by rw [hz]; rfl)
        have HM : Hid (lstN L (i + 1) = x) := Lib.hid (by rw [HST.out]; exact if_pos (.inl hz))
        clear hz
        go_upto_region 5 with fail
        refine wp_region_lit ?_
        refine wpList_valn rfl (exec_mv rfl (ev rfl)) ?_
        simp only [Act.put, List.setIfInBounds_toArray, List.set_cons_succ, List.set_cons_zero]
        refine wpList_valn (v := .bool true) rfl (exec_eqInt true rfl (ev rfl) evk HZ.out) ?_
        simp only [Act.put, List.setIfInBounds_toArray, List.set_cons_succ, List.set_cons_zero]
        refine wpList_skips 9 (v := .bool true) rfl (exec_mv rfl (ev rfl)) (by kernel_rfl) ?_
        simp only [skipAct, List.take_succ_cons, List.take_zero, List.drop_succ_cons, List.drop_zero, Act.put, List.setIfInBounds_toArray, List.set_cons_succ, List.set_cons_zero]
        refine wpList_valn (v := .bool true) rfl (exec_pt rfl (ev rfl) evk) ?_
        simp only [Act.put, List.setIfInBounds_toArray, List.set_cons_succ, List.set_cons_zero]
        refine wpList_nil ?_
        go_upto_region 6 with fail
        refine wp_region_lit ?_
        refine wpList_valn rfl (exec_mv rfl (ev rfl)) ?_
        simp only [Act.put, List.setIfInBounds_toArray, List.set_cons_succ, List.set_cons_zero]
        refine wpList_valn rfl (exec_nil rfl (ev rfl)) ?_
        simp only [Act.put, List.setIfInBounds_toArray, List.set_cons_succ, List.set_cons_zero]
        refine wpList_valn rfl (exec_faddr rfl (ev rfl) faRn1) ?_
        simp only [Act.put, List.setIfInBounds_toArray, List.set_cons_succ, List.set_cons_zero]
        refine wpList_valn rfl (exec_ld rfl (ev rfl) (ldSq HL.out.c1)) ?_
        simp only [Act.put, List.setIfInBounds_toArray, List.set_cons_succ, List.set_cons_zero]
        refine wpList_valn rfl (exec_mv rfl (ev rfl)) ?_
        simp only [Act.put, List.setIfInBounds_toArray, List.set_cons_succ, List.set_cons_zero]
        refine wpList_valn rfl (exec_indexE (E := U6E) rfl (ev rfl) (ev rfl) HI.out) ?_
        simp only [Act.put, List.setIfInBounds_toArray, List.set_cons_succ, List.set_cons_zero]
        refine wpList_valn rfl (exec_ld rfl (ev rfl) (ldU64 HC.out)) ?_
        simp only [Act.put, List.setIfInBounds_toArray, List.set_cons_succ, List.set_cons_zero]
        refine wpList_valn rfl (exec_as rfl (ev rfl)) ?_
        simp only [Act.put, List.setIfInBounds_toArray, List.set_cons_succ, List.set_cons_zero]
        refine wpList_nil ?_
        go_upto_region 4 with fail
        refine wp_region_lit ?_
        refine wpList_valn rfl (exec_mv rfl (ev rfl)) ?_
        simp only [Act.put, List.setIfInBounds_toArray, List.set_cons_succ, List.set_cons_zero]
        refine wpList_valn rfl (exec_add rfl (ev rfl) evk HA.out) ?_
        simp only [Act.put, List.setIfInBounds_toArray, List.set_cons_succ, List.set_cons_zero]
        refine wpList_valn rfl (exec_as rfl (ev rfl)) ?_
        simp only [Act.put, List.setIfInBounds_toArray, List.set_cons_succ, List.set_cons_zero]
        refine wpList_nil ?_
        go_wp2_with fail
        go_roundw
        case rel => exact ⟨i + 1, by go_num, HI.out, by rw [HM.out], by first | rfl | trivial⟩
        case measure => have := HI.out; simp [intOf]; omega
      have HZ : Hid (((lstN L i : Int) == 0) = false) := Lib.hid (beq_eq_false_iff_ne.2 (by omega))
      by_cases hq : x < lstN L i
      · have HQ : Hid (decide ((x : Int) < (lstN L i : Int)) = true) := Lib.hid (decide_eq_true (by omega))
        have HM : Hid (lstN L (i + 1) = x) := Lib.hid (by rw [HST.out]; exact if_pos (.inr hq))
        clear hz hq
        go_upto_region 5 with fail
        refine wp_region_lit ?_
        refine wpList_valn rfl (exec_mv rfl (ev rfl)) ?_
        simp only [Act.put, List.setIfInBounds_toArray, List.set_cons_succ, List.set_cons_zero]
        refine wpList_valn (v := .bool false) rfl (exec_eqInt false rfl (ev rfl) evk HZ.out) ?_
        simp only [Act.put, List.setIfInBounds_toArray, List.set_cons_succ, List.set_cons_zero]
        refine wpList_valn (v := .bool false) rfl (exec_mv rfl (ev rfl)) ?_
        simp only [Act.put, List.setIfInBounds_toArray, List.set_cons_succ, List.set_cons_zero]
        refine wpList_val (wanted_of rfl rfl rfl rfl) (exec_mv rfl (ev rfl)) ?_
        simp only [Act.put, List.setIfInBounds_toArray, List.set_cons_succ, List.set_cons_zero]
        refine wpList_val (wanted_of rfl rfl rfl rfl) (exec_nil rfl (ev rfl)) ?_
        simp only [Act.put, List.setIfInBounds_toArray, List.set_cons_succ, List.set_cons_zero]
        refine wpList_val (wanted_of rfl rfl rfl rfl) (exec_faddr rfl (ev rfl) faRn1) ?_
        simp only [Act.put, List.setIfInBounds_toArray, List.set_cons_succ, List.set_cons_zero]
        refine wpList_val (wanted_of rfl rfl rfl rfl) (exec_ld rfl (ev rfl) (ldSq HL.out.c1)) ?_
        simp only [Act.put, List.setIfInBounds_toArray, List.set_cons_succ, List.set_cons_zero]
        refine wpList_val (wanted_of rfl rfl rfl rfl) (exec_mv rfl (ev rfl)) ?_
        simp only [Act.put, List.setIfInBounds_toArray, List.set_cons_succ, List.set_cons_zero]
        refine wpList_val (wanted_of rfl rfl rfl rfl) (exec_indexE (E := U6E) rfl (ev rfl) (ev rfl) HI.out) ?_
        simp only [Act.put, List.setIfInBounds_toArray, List.set_cons_succ, List.set_cons_zero]
        refine wpList_val (wanted_of rfl rfl rfl rfl) (exec_ld rfl (ev rfl) (ldU64 HC.out)) ?_
        simp only [Act.put, List.setIfInBounds_toArray, List.set_cons_succ, List.set_cons_zero]
        refine wpList_val (wanted_of rfl rfl rfl rfl) (exec_mv rfl (ev rfl)) ?_
        simp only [Act.put, List.setIfInBounds_toArray, List.set_cons_succ, List.set_cons_zero]
        refine wpList_val (v := .bool true) (wanted_of rfl rfl rfl rfl) (exec_lss true rfl (ev rfl) (ev rfl) HQ.out) ?_
        simp only [Act.put, List.setIfInBounds_toArray, List.set_cons_succ, List.set_cons_zero]
        refine wpList_valn (v := .bool true) rfl (exec_pf rfl (ev rfl) (ev rfl)) ?_
        simp only [Act.put, List.setIfInBounds_toArray, List.set_cons_succ, List.set_cons_zero]
        refine wpList_nil ?_
        go_upto_region 6 with fail
        refine wp_region_lit ?_
        refine wpList_valn rfl (exec_mv rfl (ev rfl)) ?_
        simp only [Act.put, List.setIfInBounds_toArray, List.set_cons_succ, List.set_cons_zero]
        refine wpList_valn rfl (exec_nil rfl (ev rfl)) ?_
        simp only [Act.put, List.setIfInBounds_toArray, List.set_cons_succ, List.set_cons_zero]
        refine wpList_valn rfl (exec_faddr rfl (ev rfl) faRn1) ?_
        simp only [Act.put, List.setIfInBounds_toArray, List.set_cons_succ, List.set_cons_zero]
        refine wpList_valn rfl (exec_ld rfl (ev rfl) (ldSq HL.out.c1)) ?_
        simp only [Act.put, List.setIfInBounds_toArray, List.set_cons_succ, List.set_cons_zero]
        refine wpList_valn rfl (exec_mv rfl (ev rfl)) ?_
        simp only [Act.put, List.setIfInBounds_toArray, List.set_cons_succ, List.set_cons_zero]
        refine wpList_valn rfl (exec_indexE (E := U6E) rfl (ev rfl) (ev rfl) HI.out) ?_
        simp only [Act.put, List.setIfInBounds_toArray, List.set_cons_succ, List.set_cons_zero]
        refine wpList_valn rfl (exec_ld rfl (ev rfl) (ldU64 HC.out)) ?_
        simp only [Act.put, List.setIfInBounds_toArray, List.set_cons_succ, List.set_cons_zero]
        refine wpList_valn rfl (exec_as rfl (ev rfl)) ?_
        simp only [Act.put, List.setIfInBounds_toArray, List.set_cons_succ, List.set_cons_zero]
        refine wpList_nil ?_
        go_upto_region 4 with fail
        refine wp_region_lit ?_
        refine wpList_valn rfl (exec_mv rfl (ev rfl)) ?_
        simp only [Act.put, List.setIfInBounds_toArray, List.set_cons_succ, List.set_cons_zero]
        refine wpList_valn rfl (exec_add rfl (ev rfl) evk HA.out) ?_
        simp only [Act.put, List.setIfInBounds_toArray, List.set_cons_succ, List.set_cons_zero]
        refine wpList_valn rfl (exec_as rfl (ev rfl)) ?_
        simp only [Act.put, List.setIfInBounds_toArray, List.set_cons_succ, List.set_cons_zero]
        refine wpList_nil ?_
        go_wp2_with fail
        go_roundw
        case rel => exact ⟨i + 1, by go_num, HI.out, by rw [HM.out], by first | rfl | trivial⟩
        case measure => have := HI.out; simp [intOf]; omega
      have HQ : Hid (decide ((x : Int) < (lstN L i : Int)) = false) := Lib.hid (decide_eq_false (by omega))
      have HM : Hid (lstN L (i + 1) = lstN L i) := Lib.hid (by rw [HST.out]; exact if_neg (by omega))
      clear hz hq
      go_upto_region 5 with fail
      refine wp_region_lit ?_
      refine wpList_valn rfl (exec_mv rfl (ev rfl)) ?_
      simp only [Act.put, List.setIfInBounds_toArray, List.set_cons_succ, List.set_cons_zero]
      refine wpList_valn (v := .bool false) rfl (exec_eqInt false rfl (ev rfl) evk HZ.out) ?_
      simp only [Act.put, List.setIfInBounds_toArray, List.set_cons_succ, List.set_cons_zero]
      refine wpList_valn (v := .bool false) rfl (exec_mv rfl (ev rfl)) ?_
      simp only [Act.put, List.setIfInBounds_toArray, List.set_cons_succ, List.set_cons_zero]
      refine wpList_val (wanted_of rfl rfl rfl rfl) (exec_mv rfl (ev rfl)) ?_
      simp only [Act.put, List.setIfInBounds_toArray, List.set_cons_succ, List.set_cons_zero]
      refine wpList_val (wanted_of rfl rfl rfl rfl) (exec_nil rfl (ev rfl)) ?_
      simp only [Act.put, List.setIfInBounds_toArray, List.set_cons_succ, List.set_cons_zero]
      refine wpList_val (wanted_of rfl rfl rfl rfl) (exec_faddr rfl (ev rfl) faRn1) ?_
      simp only [Act.put, List.setIfInBounds_toArray, List.set_cons_succ, List.set_cons_zero]
      refine wpList_val (wanted_of rfl rfl rfl rfl) (exec_ld rfl (ev rfl) (ldSq HL.out.c1)) ?_
      simp only [Act.put, List.setIfInBounds_toArray, List.set_cons_succ, List.set_cons_zero]
      refine wpList_val (wanted_of rfl rfl rfl rfl) (exec_mv rfl (ev rfl)) ?_
      simp only [Act.put, List.setIfInBounds_toArray, List.set_cons_succ, List.set_cons_zero]
      refine wpList_val (wanted_of rfl rfl rfl rfl) (exec_indexE (E := U6E) rfl (ev rfl) (ev rfl) HI.out) ?_
      simp only [Act.put, List.setIfInBounds_toArray, List.set_cons_succ, List.set_cons_zero]
      refine wpList_val (wanted_of rfl rfl rfl rfl) (exec_ld rfl (ev rfl) (ldU64 HC.out)) ?_
      simp only [Act.put, List.setIfInBounds_toArray, List.set_cons_succ, List.set_cons_zero]
      refine wpList_val (wanted_of rfl rfl rfl rfl) (exec_mv rfl (ev rfl)) ?_
      simp only [Act.put, List.setIfInBounds_toArray, List.set_cons_succ, List.set_cons_zero]
      refine wpList_val (v := .bool false) (wanted_of rfl rfl rfl rfl) (exec_lss false rfl (ev rfl) (ev rfl) HQ.out) ?_
      simp only [Act.put, List.setIfInBounds_toArray, List.set_cons_succ, List.set_cons_zero]
      refine wpList_valn (v := .bool false) rfl (exec_pf rfl (ev rfl) (ev rfl)) ?_
      simp only [Act.put, List.setIfInBounds_toArray, List.set_cons_succ, List.set_cons_zero]
      refine wpList_nil ?_
      go_upto_region 4 with fail
      refine wp_region_lit ?_
      refine wpList_valn rfl (exec_mv rfl (ev rfl)) ?_
      simp only [Act.put, List.setIfInBounds_toArray, List.set_cons_succ, List.set_cons_zero]
      refine wpList_valn rfl (exec_add rfl (ev rfl) evk HA.out) ?_
      simp only [Act.put, List.setIfInBounds_toArray, List.set_cons_succ, List.set_cons_zero]
      refine wpList_valn rfl (exec_as rfl (ev rfl)) ?_
      simp only [Act.put, List.setIfInBounds_toArray, List.set_cons_succ, List.set_cons_zero]
      refine wpList_nil ?_
      go_wp2_with fail
      go_roundw
      case rel => exact ⟨i + 1, by go_num, HI.out, by rw [HM.out], by first | rfl | trivial⟩
      case measure => have := HI.out; simp [intOf]; omega
    have hin : i = L.length := by omega
    subst hin
    have HT : Hid (decide ((L.length : Int) < (L.length : Int)) = false) := Lib.hid (decide_eq_false (by omega))
    clear hlt hi
    go_upto_region 3 with fail
    refine wp_region_lit ?_
    refine wpList_valn rfl (exec_mv rfl (ev rfl)) ?_
    simp only [Act.put, List.setIfInBounds_toArray, List.set_cons_succ, List.set_cons_zero]
    refine wpList_valn rfl (exec_mv rfl (ev rfl)) ?_
    simp only [Act.put, List.setIfInBounds_toArray, List.set_cons_succ, List.set_cons_zero]
    refine wpList_valn rfl (exec_nil rfl (ev rfl)) ?_
    simp only [Act.put, List.setIfInBounds_toArray, List.set_cons_succ, List.set_cons_zero]
    refine wpList_valn rfl (exec_faddr rfl (ev rfl) faRn1) ?_
    simp only [Act.put, List.setIfInBounds_toArray, List.set_cons_succ, List.set_cons_zero]
    refine wpList_valn rfl (exec_ld rfl (ev rfl) (ldSq HL.out.c1)) ?_
    simp only [Act.put, List.setIfInBounds_toArray, List.set_cons_succ, List.set_cons_zero]
    refine wpList_valn rfl (exec_lenE U6E rfl (ev rfl)) ?_
    simp only [Act.put, List.setIfInBounds_toArray, List.set_cons_succ, List.set_cons_zero]
    refine wpList_valn (v := .bool false) rfl (exec_lss false rfl (ev rfl) (ev rfl) HT.out) ?_
    simp only [Act.put, List.setIfInBounds_toArray, List.set_cons_succ, List.set_cons_zero]
    refine wpList_nil ?_
    go_wp2_with fail
    go_ret
    exact ⟨by rw [HF.out]; rfl, rfl⟩
theorem r_clean (w : World) {B q n : Nat} {s : LnS} (h : RN w B q n s) : Calls Try.prog 24 #[.pointer (some ⟨q, 0, none⟩)] w fun e w' => e = .returned (.tuple #[]) ∧ RN w' B q n (lnCln s) ∧ TurnRn B w w' := by
  obtain ⟨g, v, L, h, hn⟩ := h
  obtain ⟨A, c_, rfl, _, _⟩ := h.sq.form
  have HH := Lib.hid h
  have HN : Hid (s.l.length ≤ 16) := Lib.hid h.ok.hi
  have HCL : Hid (∀ i, (clnN s i).l.length = s.l.length) := Lib.hid (fun _ => clnN_len)
  clear h hn
  go_enter Try.func24, Try.ntmps24
  go_wp2_with fail
  go_loopw [2] (fun c wr => ∃ i : Nat, c = .int .i64 i ∧ i ≤ s.l.length ∧ RNu wr B q g (.slice A L.length c_) (clnN s i) L ∧ TurnRn B w wr) (fun c _ => s.l.length - (intOf c).toNat)
  case atStart => exact ⟨0, by go_num, Nat.zero_le _, by rw [clnN_0]; exact HH.out, Turn.refl _ _ _⟩
  case round =>
    obtain ⟨i, rfl, hi, hr, ht⟩ := hrel
    have HR := Lib.hid hr
    have HTT := Lib.hid ht
    have HC0 : Hid (wr.cell? ⟨q, 0, none⟩ = some (.slice (some ⟨g, 0, none⟩) s.l.length s.l.length)) := Lib.hid (by have := hr.c0; rwa [clnN_len] at this)
    by_cases hlt : i < s.l.length
    · have HI := Lib.hid hlt
      have HT : Hid (decide ((i : Int) < (s.l.length : Int)) = true) := Lib.hid (decide_eq_true (by omega))
      have HA : Hid (IntKind.i64.wrap ((i : Int) + 1) = ((i + 1 : Nat) : Int)) := Lib.hid (by have := HN.out; rw [i64k_ ⟨by omega, by omega⟩]; omega)
      have hk : i < (clnN s i).l.length := by rw [clnN_len]; exact hlt
      have hp := hr.part hk (j := 1) (vs := [.bool false]) (lcC (lnAt (clnN s i) i)) (by simp [lcC_, lcC]) (by simp) (fun e => by rw [hr.ok.no i hk e]; rfl)
      rw [clnN_at hlt, clnN_step hlt] at hp
      have HP : Hid (RNu (wr.setCell ⟨g, 0 + i * LcE.n + 1, none⟩ (.bool false)) B q g (.slice A L.length c_) (clnN s (i + 1)) L ∧ TurnRn B wr (wr.setCell ⟨g, 0 + i * LcE.n + 1, none⟩ (.bool false))) := Lib.hid hp
      have HD := Lib.hid (hr.dt hk)
      have HF := Lib.hid (hr.there hk 1 (by omega)).2
      clear hr ht hi hlt hk hp
      go_upto_region 1 with fail
      refine wp_region_lit ?_
      refine wpList_valn rfl (exec_mv rfl (ev rfl)) ?_
      simp only [Act.put, List.setIfInBounds_toArray, List.set_cons_succ, List.set_cons_zero]
      refine wpList_valn rfl (exec_mv rfl (ev rfl)) ?_
      simp only [Act.put, List.setIfInBounds_toArray, List.set_cons_succ, List.set_cons_zero]
      refine wpList_valn rfl (exec_nil rfl (ev rfl)) ?_
      simp only [Act.put, List.setIfInBounds_toArray, List.set_cons_succ, List.set_cons_zero]
      refine wpList_valn rfl (exec_faddr rfl (ev rfl) faRn0) ?_
      simp only [Act.put, List.setIfInBounds_toArray, List.set_cons_succ, List.set_cons_zero]
      refine wpList_valn rfl (exec_ld rfl (ev rfl) (ldLs HC0.out)) ?_
      simp only [Act.put, List.setIfInBounds_toArray, List.set_cons_succ, List.set_cons_zero]
      refine wpList_valn rfl (exec_lenE LcE rfl (ev rfl)) ?_
      simp only [Act.put, List.setIfInBounds_toArray, List.set_cons_succ, List.set_cons_zero]
      refine wpList_valn (v := .bool true) rfl (exec_lss true rfl (ev rfl) (ev rfl) HT.out) ?_
      simp only [Act.put, List.setIfInBounds_toArray, List.set_cons_succ, List.set_cons_zero]
      refine wpList_nil ?_
      go_upto_region 3 with fail
      refine wp_region_lit ?_
      refine wpList_valn rfl (exec_mv rfl (ev rfl)) ?_
      simp only [Act.put, List.setIfInBounds_toArray, List.set_cons_succ, List.set_cons_zero]
      refine wpList_valn rfl (exec_nil rfl (ev rfl)) ?_
      simp only [Act.put, List.setIfInBounds_toArray, List.set_cons_succ, List.set_cons_zero]
      refine wpList_valn rfl (exec_faddr rfl (ev rfl) faRn0) ?_
      simp only [Act.put, List.setIfInBounds_toArray, List.set_cons_succ, List.set_cons_zero]
      refine wpList_valn rfl (exec_ld rfl (ev rfl) (ldLs HC0.out)) ?_
      simp only [Act.put, List.setIfInBounds_toArray, List.set_cons_succ, List.set_cons_zero]
      refine wpList_valn rfl (exec_mv rfl (ev rfl)) ?_
      simp only [Act.put, List.setIfInBounds_toArray, List.set_cons_succ, List.set_cons_zero]
      refine wpList_valn rfl (exec_indexE (E := LcE) rfl (ev rfl) (ev rfl) HI.out) ?_
      simp only [Act.put, List.setIfInBounds_toArray, List.set_cons_succ, List.set_cons_zero]
      refine wpList_valn rfl (exec_faddr rfl (ev rfl) faLc1) ?_
      simp only [Act.put, List.setIfInBounds_toArray, List.set_cons_succ, List.set_cons_zero]
      refine wpList_nuln rfl (exec_st rfl (ev rfl) evk (stBo_ HD.out HF.out)) ?_
      simp only [Act.put, List.setIfInBounds_toArray, List.set_cons_succ, List.set_cons_zero]
      generalize wr.setCell ⟨g, 0 + i * LcE.n + 1, none⟩ (.bool false) = w2 at *
      refine wpList_nil ?_
      go_upto_region 2 with fail
      refine wp_region_lit ?_
      refine wpList_valn rfl (exec_mv rfl (ev rfl)) ?_
      simp only [Act.put, List.setIfInBounds_toArray, List.set_cons_succ, List.set_cons_zero]
      refine wpList_valn rfl (exec_add rfl (ev rfl) evk HA.out) ?_
      simp only [Act.put, List.setIfInBounds_toArray, List.set_cons_succ, List.set_cons_zero]
      refine wpList_valn rfl (exec_as rfl (ev rfl)) ?_
      simp only [Act.put, List.setIfInBounds_toArray, List.set_cons_succ, List.set_cons_zero]
      refine wpList_nil ?_
      go_wp2_with fail
      go_roundw
      case rel => exact ⟨i + 1, by go_num, HI.out, HP.out.1, HTT.out.trans HP.out.2⟩
      case measure => have := HI.out; simp [intOf]; omega
    have hin : i = s.l.length := by omega
    subst hin
    have HT : Hid (decide ((s.l.length : Int) < (s.l.length : Int)) = false) := Lib.hid (decide_eq_false (by omega))
    have HC1 := Lib.hid hr.c1
    have HF1 := Lib.hid (hr.fz 1)
    have HS : Hid ((⟨(clnN s s.l.length).l, lstN [] ([] : List Int).length⟩ : LnS) = lnCln s) := Lib.hid (by rw [clnN_all]; rfl)
    have HNW : Hid (RNu (wr.setCell ⟨q, 1, none⟩ (.slice none 0 0)) B q g (.slice none 0 0) (lnCln s) [] ∧ TurnRn B wr (wr.setCell ⟨q, 1, none⟩ (.slice none 0 0))) := Lib.hid (by
      have := hr.nums (v' := .slice none 0 0) (L' := []) hr.at_ hr.row (MadeE.nil _ _) (fun x hx => by cases hx) (by simp [lstN])
      rw [HS.out] at this
      exact ⟨this, (Turn.refl _ _ _).setCell (p := ⟨q, 1, none⟩) hr.low hr.at_ (.inl rfl) _⟩)
    clear hlt hi hr ht
    go_upto_region 1 with fail
    refine wp_region_lit ?_
    refine wpList_valn rfl (exec_mv rfl (ev rfl)) ?_
    simp only [Act.put, List.setIfInBounds_toArray, List.set_cons_succ, List.set_cons_zero]
    refine wpList_valn rfl (exec_mv rfl (ev rfl)) ?_
    simp only [Act.put, List.setIfInBounds_toArray, List.set_cons_succ, List.set_cons_zero]
    refine wpList_valn rfl (exec_nil rfl (ev rfl)) ?_
    simp only [Act.put, List.setIfInBounds_toArray, List.set_cons_succ, List.set_cons_zero]
    refine wpList_valn rfl (exec_faddr rfl (ev rfl) faRn0) ?_
    simp only [Act.put, List.setIfInBounds_toArray, List.set_cons_succ, List.set_cons_zero]
    refine wpList_valn rfl (exec_ld rfl (ev rfl) (ldLs HC0.out)) ?_
    simp only [Act.put, List.setIfInBounds_toArray, List.set_cons_succ, List.set_cons_zero]
    refine wpList_valn rfl (exec_lenE LcE rfl (ev rfl)) ?_
    simp only [Act.put, List.setIfInBounds_toArray, List.set_cons_succ, List.set_cons_zero]
    refine wpList_valn (v := .bool false) rfl (exec_lss false rfl (ev rfl) (ev rfl) HT.out) ?_
    simp only [Act.put, List.setIfInBounds_toArray, List.set_cons_succ, List.set_cons_zero]
    refine wpList_nil ?_
    go_upto_region 4 with fail
    refine wp_region_lit ?_
    refine wpList_valn rfl (exec_mv rfl (ev rfl)) ?_
    simp only [Act.put, List.setIfInBounds_toArray, List.set_cons_succ, List.set_cons_zero]
    refine wpList_valn rfl (exec_nil rfl (ev rfl)) ?_
    simp only [Act.put, List.setIfInBounds_toArray, List.set_cons_succ, List.set_cons_zero]
    refine wpList_valn rfl (exec_faddr rfl (ev rfl) faRn1) ?_
    simp only [Act.put, List.setIfInBounds_toArray, List.set_cons_succ, List.set_cons_zero]
    refine wpList_nuln rfl (exec_st rfl (ev rfl) evk (stSq HC1.out HF1.out)) ?_
    simp only [Act.put, List.setIfInBounds_toArray, List.set_cons_succ, List.set_cons_zero]
    generalize wr.setCell ⟨q, 1, none⟩ (.slice none 0 0) = w2 at *
    refine wpList_nil ?_
    go_wp2_with fail
    exact bodyPost_end (results_none rfl _ _ _) rfl ⟨rfl, ⟨g, _, _, HNW.out.1, Nat.zero_le _⟩, HTT.out.trans HNW.out.2⟩
end Go.Proofs.Ytmhcpiafhbnclaa
