import Derived.Test.YtdmhelalbemlcaaSnaa
import Derived.Test.YtdmhelalbemlcaaSnab
import Derived.Laws.MakeOwn
import Derived.Deep.DeepCutAuto
import Derived.LaidEqlPtr
import Derived.OrdersHeld
import Derived.Test.YtdmhelalbemlcaaSnZ
namespace Go.Proofs.Ytdmhelalbemlcaa
open Go.RowKit
set_option linter.unusedVariables false
set_option maxRecDepth 100000
def celG (x : Ros) : List Value := [.int .i64 x.m, .int .i64 x.s, .int .i64 x.r]
def celR (x : Ros) : List Value := .int .i64 x.m :: .int .i64 x.s :: .int .i64 x.r :: (vals x.st.toList ++ [.int .i64 x.cur, .bool x.gone])
def ros (x : Ros) : Value := .agg (celR x).toArray
def geo (x : Ros) : Value := .agg (celG x).toArray
theorem sizeG : (Try.prog.info? 23).map (·.size) = some 3 := by kernel_rfl
section
variable {ρ : Operand → Value} {o : Oper} {x y : Operand} {w : World} {b off : Nat}
theorem bR {c : Ros} (ho : o.op = .load 23 x) (hx : ρ x = .pointer (some ⟨b, off, none⟩)) (hc : w.rangeAt b off (celG c)) : (execOp ρ o).run Try.prog w = .ok (.value (geo c)) w :=
  aT Try.underlying23 rfl sizeG ho hx hc
end
section
variable {w : World} {b off : Nat}
theorem faG1 {b : Nat} : (Instr.fieldAt 23 (.pointer (some ⟨b, 0, none⟩)) 1).run Try.prog w = .ok (.pointer (some ⟨b, 1, none⟩)) w := by kernel_rfl
end
structure ShPr where
  P : World → (Nat → Prop) → Nat → Nat → ShS → Prop
  lt : ∀ {w S p K s}, P w S p K s → ∀ b, S b → b < w.heap.size
  only : ∀ {w w' S F p K s}, P w S p K s → Only F w w' → (∀ b, S b → ¬ F b) → P w' S p K s
  more : ∀ {w S p K K' s}, P w S p K s → K ≤ K' → P w S p K' s
  ok : ∀ {w S p K s}, P w S p K s → ShOk s
  new_ok : ∀ {N T room : Nat} {r : Int} (w : World), geoB (gx N T r) = true → 1 ≤ room → room ≤ 64 → Calls Try.prog 4 #[geo (gx N T r), .int .i64 (room : Int)] w fun e w' => ∃ p S, e = .returned (.tuple #[.pointer (some ⟨p, 0, none⟩), .int .i64 0]) ∧ P w' S p 0 (shNew N T room) ∧ Below w.heap.size w w' ∧ ∀ b, S b → w.heap.size ≤ b
  new_no : ∀ (x : Ros) (room : Int) (w : World), ¬ (geoB x = true ∧ 1 ≤ room ∧ room ≤ 64) → Calls Try.prog 4 #[geo x, .int .i64 room] w fun e w' => e = .returned (.tuple #[.pointer none, .int .i64 2]) ∧ Below w.heap.size w w'
  put : ∀ {w S t K s} {Q nc cc : Nat} {A : Option Addr} {c : List PutC}, P w S t K s → Q < 18446744073709551616 → K + nc ≤ 1000000 → RdE aV w w.heap.size A nc (c.map aP) → c.length = nc → nc ≤ cc → cc ≤ maxLen → (∀ x, A = some x → 0 < nc → ¬ S x.block) → Calls Try.prog 11 #[.pointer (some ⟨t, 0, none⟩), .int .u64 (Q : Int), .slice A nc cc] w fun e w' => e = .returned (.int .i64 (putQ s Q c)) ∧ ∃ S', P w' S' t (K + nc) (putS s Q c) ∧ Only S w w' ∧ Grow w S S'
  clean : ∀ {w S t K s} (n : Int), P w S t K s → Calls Try.prog 15 #[.pointer (some ⟨t, 0, none⟩), .int .i64 n] w fun e w' => e = .returned (.int .i64 (shE s n)) ∧ ∃ S', P w' S' t K (shCln s n) ∧ Only S w w' ∧ Grow w S S'
  fits : ∀ {w S t K s A cl} {l : List Int}, P w S t K s → RdE aH w w.heap.size A l.length l → (∀ x ∈ l, (Lit.int .i64 x).wf = true) → l.length ≤ cl → cl ≤ maxLen → l.length ≤ 17592186043904 → Calls Try.prog 28 #[.pointer (some ⟨t, 0, none⟩), .slice A l.length cl] w fun e w' => e = .returned (.bool (s.fits l)) ∧ Below w.heap.size w w'
  aW : ∀ {w S t K s}, P w S t K s → Calls Try.prog 13 #[.pointer (some ⟨t, 0, none⟩)] w fun e w' => ∃ v, e = .returned v ∧ ax aH w' w.heap.size v s.aW ∧ Below w.heap.size w w'
  stripes : ∀ {w S t K s}, P w S t K s → Calls Try.prog 19 #[.pointer (some ⟨t, 0, none⟩)] w fun e w' => ∃ v, e = .returned v ∧ ax aH w' w.heap.size v s.strs ∧ Below w.heap.size w w'
  first : ∀ {w S t K s}, P w S t K s → K ≤ 1000000 → Calls Try.prog 14 #[.pointer (some ⟨t, 0, none⟩)] w fun e w' => e = .returned (.int .u64 (s.first : Int)) ∧ Below w.heap.size w w'
  No : World → Value → Prop
  zc : List Value
  no_nil : ∀ w : World, No w (.pointer none)
  bld0 : ∀ w : World, (Instr.build 39 #[]).run Try.prog w = .ok (.agg zc.toArray) w
  no_zero : ∀ w : World, No (w.alloc (.cells zc.toArray 39)) (.pointer (some ⟨w.heap.size, 0, none⟩))
  no_below : ∀ {w w' : World} {v : Value}, No w v → Below w.heap.size w w' → No w' v
  no_put : ∀ (w : World) (v : Value) (Q : Nat), No w v → Calls Try.prog 11 #[v, .int .u64 (Q : Int), .slice none 0 0] w fun e w' => e = .returned (.int .i64 1) ∧ Below w.heap.size w w'
  no_clean : ∀ (w : World) (v : Value) (n : Int), No w v → Calls Try.prog 15 #[v, .int .i64 n] w fun e w' => e = .returned (.int .i64 1) ∧ Below w.heap.size w w'
  no_fits : ∀ (w : World) (v : Value), No w v → Calls Try.prog 28 #[v, .slice none 0 0] w fun e w' => e = .returned (.bool false) ∧ Below w.heap.size w w'
  no_dirty : ∀ (w : World) (v : Value), No w v → Calls Try.prog 13 #[v] w fun e w' => (∃ A c, e = .returned (.slice A 0 c)) ∧ Below w.heap.size w w'
  no_stripes : ∀ (w : World) (v : Value), No w v → Calls Try.prog 19 #[v] w fun e w' => (∃ A c, e = .returned (.slice A 0 c)) ∧ Below w.heap.size w w'
  no_first : ∀ (w : World) (v : Value), No w v → Calls Try.prog 14 #[v] w fun e w' => e = .returned (.int .u64 0) ∧ Below w.heap.size w w'
theorem ShPr.below (D : ShPr) {w w' : World} {S : Nat → Prop} {p K : Nat} {s : ShS} (h : D.P w S p K s) (k : Below w.heap.size w w') : D.P w' S p K s := D.only h (Only.of_below (fun _ => False) k) fun _ _ e => e
set_option linter.unusedSimpArgs false
theorem run_bldG40 (a b : Int) (w : World) : (Instr.build 23 #[(0, .int .i64 a), (1, .int .i64 b), (2, .int .i64 40)]).run Try.prog w = .ok (.agg #[.int .i64 a, .int .i64 b, .int .i64 40]) w := by kernel_rfl
theorem exec_bldG40 {ρ : Operand → Value} {o : Oper} {x y z : Operand} {w : World} {a b : Int} (ho : o.op = .build 23 #[(0, x), (1, y), (2, z)]) (hx : ρ x = .int .i64 a) (hy : ρ y = .int .i64 b) (hz : ρ z = .int .i64 40) : (execOp ρ o).run Try.prog w = .ok (.value (.agg #[.int .i64 a, .int .i64 b, .int .i64 40])) w := by
  unfold execOp
  simp only [ho, hx, hy, hz, List.map_toArray, List.map_cons, List.map_nil, Sem.run_bind, run_bldG40, Result.andThen_ok, Sem.run_pure]
theorem zeroG3 : (Try.prog.info? 23).map (fun i => i.zero) = some (some (.agg ([.int .i64 0, .int .i64 0, .int .i64 0] : List Value).toArray)) := by kernel_rfl
section
variable {ρ : Operand → Value} {o : Oper} {x y : Operand} {w : World} {a : Int}
theorem exec_rem8 {t r : TypeId} {b c : Int} (ho : o.op = .binOp .rem t x y r) (hx : ρ x = .int .u8 a) (hy : ρ y = .int .u8 b) (h0 : b ≠ 0) (h : a.tmod b = c) : (execOp ρ o).run Try.prog w = .ok (.value (.int .u8 c)) w := by
  unfold execOp
  simp [ho, hx, hy, eqGuard, binOp, Op.intDiv, h, h0]
theorem run_cv8 (h : IntKind.i64.wrap a = a) : (convert 5 3 (.int .u8 a)).run Try.prog w = .ok (.int .i64 a) w := by
  simp [convert, go_sem, h]
theorem exec_cv8 (ho : o.op = .convert 5 3 x) (hx : ρ x = .int .u8 a) (h : IntKind.i64.wrap a = a) : (execOp ρ o).run Try.prog w = .ok (.value (.int .i64 a)) w := by
  unfold execOp
  simp only [ho, hx, Sem.run_bind, run_cv8 h, Result.andThen_ok, Sem.run_pure]
end
theorem i64q_ {a : Int} (h : -9223372036854775808 ≤ a ∧ a ≤ 9223372036854775807) : IntKind.i64.wrap a = a := IntWalk.i64_in _ ⟨by omega, by omega⟩
theorem flatE_zeros {α : Type} (E : Elt α) (hz : E.z.cells.toList = E.cel E.d) (n : Nat) : (aO E (List.replicate n E.d)).toArray = madeCells E.z.cells (n * E.n) := by
  have hp := E.pos
  apply Array.ext
  · rw [size_madeCells, List.size_toArray, aJ, List.length_replicate]
  · intro j h1 h2
    rw [size_madeCells] at h2
    have hjn : j / E.n < n := Nat.div_lt_of_lt_mul (by rw [Nat.mul_comm]; exact h2)
    have hr : j % E.n < E.n := Nat.mod_lt _ hp
    have hk : j / E.n < (List.replicate n E.d).length := by rw [List.length_replicate]; exact hjn
    have := flatE_at E (List.replicate n E.d) hk hr
    rw [Nat.div_add_mod'] at this
    have hd0 : (List.replicate n E.d).getD (j / E.n) E.d = E.d := by
      rw [List.getD, List.getElem?_replicate]
      split <;> rfl
    rw [hd0, List.getElem?_eq_getElem (by simpa using h1), List.getElem?_eq_getElem (by rw [E.len]; exact hr)] at this
    injection this with this
    have e1 : (aO E (List.replicate n E.d)).toArray[j] = (aO E (List.replicate n E.d))[j]'(by simpa using h1) := by simp
    rw [e1, this]
    simp only [madeCells, Array.getElem_map, Array.getElem_range, E.zc]
    have hs : j % E.n < E.z.cells.size := by rw [E.zc]; exact hr
    rw [getElem!_pos E.z.cells (j % E.n) hs]
    have e2 : E.z.cells[j % E.n] = E.z.cells.toList[j % E.n]'(by simpa using hs) := by simp
    rw [e2]
    simp only [hz]
theorem exec_makeE {α : Type} {E : Elt α} {ρ : Operand → Value} {o : Oper} {x y : Operand} {w : World} {n : Nat} (ho : o.op = .makeSlice E.s x y) (hx : ρ x = .int .i64 (n : Int)) (hy : ρ y = .int .i64 (n : Int)) (hn : n ≤ 1000000) :
    (execOp ρ o).run Try.prog w = .ok (.value (.slice (some ⟨w.heap.size, 0, none⟩) n n)) (w.alloc (.cells (madeCells E.z.cells (n * E.n)) E.t)) := by
  obtain ⟨i0, hi, hz0, hz1, hz2⟩ := info_parts E.info
  have hb : (i0.bytes : Int) * n ≤ 281474976710656 := by
    have h1 := Nat.mul_le_mul E.small hn
    rw [hz2]
    have h2 : E.by_ * n ≤ 4096000000 := by simpa using h1
    have : ((E.by_ * n : Nat) : Int) ≤ 4096000000 := by omega
    rw [Int.natCast_mul] at this
    omega
  have hr := run_make (P := Try.prog) w E.s E.t i0 E.z E.und hi hz0 .i64 .i64 n n (by omega) (Int.le_refl _) hb (by omega)
  rw [hz1] at hr
  simp only [Int.toNat_natCast] at hr
  unfold execOp
  simp only [ho, hx, hy, Sem.run_bind, hr, Result.andThen_ok, Sem.run_pure]
theorem made_zeros {α : Type} (E : Elt α) (hz : E.z.cells.toList = E.cel E.d) (w : World) (n B : Nat) (hB : B ≤ w.heap.size) (hn : n ≤ 1000000) : ax E (w.alloc (.cells (madeCells E.z.cells (n * E.n)) E.t)) B (.slice (some ⟨w.heap.size, 0, none⟩) n n) (List.replicate n E.d) := by
  refine ax.of_block (heap_alloc_new w _) ?_ hB (by simp) (by unfold maxLen; omega)
  rw [← flatE_zeros E hz n]
def Turn (I : Obj → Prop) (B : Nat) (w w' : World) : Prop := Only (fun b => B ≤ b ∧ ∀ o, w.heap[b]? = some o → I o) w w'
section
variable {α : Type} {E : Elt α} {ρ : Operand → Value} {o : Oper} {x y : Operand} {w : World} {A : Option Addr} {n c k B b off : Nat} {l : List α}
theorem br (E : Elt α) (ho : o.op = .call { callee := .builtin .len, args := #[x], argTypes := #[E.s] }) (hx : ρ x = .slice A n c) : (execOp ρ o).run Try.prog w = .ok (.value (.int .i64 (n : Int))) w := by
  simp [execOp, ho, resolve, invoke, builtin, hx, Builtin.len_, run_underlying E.und, Result.andThen]
  rfl
theorem exec_bld1 {t : TypeId} {p v : Value} (ho : o.op = .build t #[(0, x)]) (hx : ρ x = p) (h : (Instr.build t #[(0, p)]).run Try.prog w = .ok v w) : (execOp ρ o).run Try.prog w = .ok (.value v) w := by
  unfold execOp
  simp [ho, hx, h, Result.andThen]
end
section
variable {ρ : Operand → Value} {o : Oper} {x y : Operand} {w : World} {t r : TypeId} {v : Value} {a1 a2 : Addr}
theorem eqGuard_ptr (op : BinOp) (t : TypeId) (x y : Operand) (a b : Option Addr) : (eqGuard op t x y (.pointer a) (.pointer b)).run Try.prog w = .ok () w := by
  cases op <;> simp [eqGuard]
theorem exec_binP {op : BinOp} {m n : Option Addr} (ho : o.op = .binOp op t x y r) (hx : ρ x = .pointer m) (hy : ρ y = .pointer n) (h : (binOp op t (.pointer m) (.pointer n)).run Try.prog w = .ok v w) : (execOp ρ o).run Try.prog w = .ok (.value v) w := by
  unfold execOp
  simp only [ho, hx, hy, Sem.run_bind, eqGuard_ptr, h, Result.andThen_ok, Sem.run_pure]
theorem equalIn_ptr {te : TypeId} (hp : Try.prog.underlying t = some (.pointer te)) {j : TypeInfo} (hte : Try.prog.info? te = some j) (hsz : j.size ≠ 0) {ca cb : Array Value} {ta tb : TypeId} (ha : w.heap[a1.block]? = some (.cells ca ta (0, 0))) (hb : w.heap[a2.block]? = some (.cells cb tb (0, 0))) (d : Nat) :
    (Op.equalIn (d + 1) t (.pointer (some a1)) (.pointer (some a2))).run Try.prog w = .ok (decide (a1 = a2)) w := by
  by_cases h : a1 = a2
  · subst h
    simp [Op.equalIn, run_underlying hp, sizeOf, typeInfo, hte, run_sameAddr_same]
  · simp [Op.equalIn, run_underlying hp, sizeOf, typeInfo, hte, hsz, run_sameAddr_other w h ha hb, h]
theorem equalIn_nil {te : TypeId} (hp : Try.prog.underlying t = some (.pointer te)) (m : Option Addr) (d : Nat) : (Op.equalIn (d + 1) t (.pointer m) (.pointer none)).run Try.prog w = .ok (decide (m = none)) w := by
  cases m <;> simp [Op.equalIn, run_underlying hp]
theorem bj {te : TypeId} {m : Option Addr} (c : Bool) (hp : Try.prog.underlying t = some (.pointer te)) (ho : o.op = .binOp .eql t x y r) (hx : ρ x = .pointer m) (hy : ρ y = .pointer none) (h : decide (m = none) = c) : (execOp ρ o).run Try.prog w = .ok (.value (.bool c)) w := by
  subst h
  refine exec_binP ho hx hy ?_
  simp only [binOp]
  simp [Op.equal, Op.maxDepth, equalIn_nil hp m 9999]
theorem bb {te : TypeId} {m : Option Addr} (c : Bool) (hp : Try.prog.underlying t = some (.pointer te)) (ho : o.op = .binOp .neq t x y r) (hx : ρ x = .pointer m) (hy : ρ y = .pointer none) (h : (!decide (m = none)) = c) : (execOp ρ o).run Try.prog w = .ok (.value (.bool c)) w := by
  subst h
  refine exec_binP ho hx hy ?_
  simp only [binOp]
  simp [Op.equal, Op.maxDepth, equalIn_nil hp m 9999]
theorem exec_nePt {te : TypeId} (c : Bool) (hp : Try.prog.underlying t = some (.pointer te)) {j : TypeInfo} (hte : Try.prog.info? te = some j) (hsz : j.size ≠ 0) (ho : o.op = .binOp .neq t x y r) (hx : ρ x = .pointer (some a1)) (hy : ρ y = .pointer (some a2))
    {ca cb : Array Value} {ta tb : TypeId} (ha : w.heap[a1.block]? = some (.cells ca ta (0, 0))) (hb : w.heap[a2.block]? = some (.cells cb tb (0, 0))) (h : (!decide (a1 = a2)) = c) : (execOp ρ o).run Try.prog w = .ok (.value (.bool c)) w := by
  subst h
  refine exec_binP ho hx hy ?_
  simp only [binOp]
  simp [Op.equal, Op.maxDepth, equalIn_ptr hp hte hsz ha hb 9999]
end
def unw (ops : Array Oper) : List Oper → Act → Bool
  | [], _ => true
  | r :: rs, a => !(Region.wanted r (yielded ops a.tmps)) && unw ops rs (a.put r.dst undef)
def bO : List Oper → Act → Act
  | [], a => a
  | r :: rs, a => bO rs (a.put r.dst undef)
section
variable {P : Program} {ops : Array Oper} {rest l : List Oper} {o : Oper} {a : Act} {w w' : World} {Q : Exit → Act → World → Prop} {v : Value}
theorem wpList_unw : ∀ (rs : List Oper) (a : Act), unw ops rs a = true → wpList P ops Q rest (bO rs a) w → wpList P ops Q (rs ++ rest) a w
  | [], _, _, h => h
  | r :: rs, a, hu, h => by
    simp only [unw, Bool.and_eq_true, Bool.not_eq_true'] at hu
    refine wpList_step fun K hK => ?_
    rw [if_neg (by rw [hu.1]; exact Bool.false_ne_true)]
    exact hK _ _ (wpList_unw rs _ hu.2 h)
theorem bu (n : Nat) (hw : Region.wanted o (yielded ops a.tmps) = true) (h : (execOp a.eval o).run P w = .ok (.value v) w') (hu : unw ops (l.take n) (a.put o.dst v) = true) (hr : wpList P ops Q (l.drop n) (bO (l.take n) (a.put o.dst v)) w') : wpList P ops Q (o :: l) a w :=
  ak hw h (by have := wpList_unw (P := P) (Q := Q) (l.take n) _ hu hr; rwa [List.take_append_drop] at this)
end
def lcC_ (c : LC) : List Value := .bool c.kn :: .bool c.dt :: cel c.b
theorem lcC_len (c : LC) : (lcC_ c).length = 66 := by simp [lcC_, bz]
theorem lcC_one (c : LC) : ∀ v ∈ lcC_ c, v.oneCell' = true := by
  intro v hv
  simp only [lcC_, List.mem_cons] at hv
  rcases hv with rfl | rfl | hv
  · rfl
  · rfl
  · exact cel_one c.b v hv
def lcV (c : LC) : Value := .agg (lcC_ c).toArray
def LcE : Elt LC where
  s := 137
  t := 142
  n := 66
  by_ := 66
  cel := lcC_
  d := lc0
  z := lcV lc0
  pos := by omega
  small := by omega
  len := lcC_len
  one := lcC_one
  und := Try.underlying137
  info := by kernel_rfl
  zc := by show (Value.cells (.agg _)).size = 66; simp [Value.cells, lcC_len]
def U6E : Elt Int where
  s := 138
  t := 46
  n := 1
  by_ := 8
  cel x := [.int .u64 x]
  d := 0
  z := .int .u64 0
  pos := by omega
  small := by omega
  len _ := rfl
  one x v hv := by simp at hv; subst hv; rfl
  und := Try.underlying138
  info := by kernel_rfl
  zc := rfl
section
variable {ρ : Operand → Value} {o : Oper} {x y z : Operand} {w : World} {b off : Nat} {c : Blk}
theorem stBo_ {ad : Addr} {u : Value} {a : Bool} (h : w.cell? ad = some u) (hf : w.frozen? ad = false) : (Instr.storeAt 4 (.pointer (some ad)) (.bool a)).run Try.prog w = .ok () (w.setCell ad (.bool a)) := by simp [go_sem, h, hf]
end
def isRn : Obj → Prop
  | .cells _ t _ => t = 140 ∨ t = 142 ∨ t = 46
  | _ => False
def rnC (g N : Nat) (v : Value) : List Value := [.slice (some ⟨g, 0, none⟩) N N, v]
structure RNu (w : World) (B q g : Nat) (v : Value) (s : LnS) (L : List Int) : Prop where
  at_ : w.heap[q]? = some (.cells (rnC g s.l.length v).toArray 140 (0, 0))
  row : ax LcE w B (.slice (some ⟨g, 0, none⟩) s.l.length s.l.length) s.l
  sq : ax U6E w B v L
  low : B ≤ q
  ok : LnOk s
  fs : s.f = lstN L L.length
  nn : ∀ x ∈ L, 0 ≤ x
def ftR (q g : Nat) (v : Value) (b : Nat) : Prop := b = q ∨ b = g ∨ v.ownBlock = some b
def RNf (w : World) (F : Nat → Prop) (B q n : Nat) (s : LnS) : Prop := ∃ g v L, RNu w B q g v s L ∧ L.length ≤ n ∧ F = ftR q g v
def lpO : Option Nat → Value
  | none => .pointer none
  | some b => .pointer (some ⟨b, 0, none⟩)
def LpE : Elt (Option Nat) where
  s := 40
  t := 135
  n := 1
  by_ := 8
  cel x := [lpO x]
  d := none
  z := .pointer none
  pos := by omega
  small := by omega
  len _ := rfl
  one x v hv := by simp only [List.mem_singleton] at hv; subst hv; cases x <;> rfl
  und := Try.underlying40
  info := by kernel_rfl
  zc := rfl
theorem flatLp0 : LpE.z.cells.toList = LpE.cel LpE.d := rfl
def rsC (N T : Nat) (r : Int) (room : Nat) (vO : Value) (gl : Nat) : List Value := [.int .i64 (N : Int), .int .i64 (T : Int), .int .i64 r, .int .i64 (room : Int), vO, .slice (some ⟨gl, 0, none⟩) T T]
def LnAt (w : World) (F : Nat → Prop) (K : Nat) : Option Nat → Option LnS → Prop
  | none, none => ∀ b, ¬ F b
  | some q, some x => ∃ m, m ≤ K ∧ RNf w F 0 q m x
  | _, _ => False
structure RSu (w : World) (q : Nat) (vO : Value) (gl : Nat) (ps : List (Option Nat)) (Fl : Nat → Nat → Prop) (K : Nat) (r : Int) (s : ShS) : Prop where
  at_ : w.heap[q]? = some (.cells (rsC s.N s.T r s.room vO gl).toArray 43 (0, 0))
  ord : ax aH w 0 vO s.strs
  row : ax LpE w 0 (.slice (some ⟨gl, 0, none⟩) s.T s.T) ps
  ln : ∀ n, n < s.T → LnAt w (Fl n) K (ps.getD n none) (s.ln n)
  ap : ∀ i j, i < s.T → j < s.T → i ≠ j → ∀ b, Fl i b → ¬ Fl j b
  kd : ∀ n, n < s.T → ∀ b, Fl n b → b ≠ q ∧ vO.ownBlock ≠ some b ∧ b ≠ gl
  rg : 40 ≤ r ∧ r ≤ 256
def ftS (q : Nat) (vO : Value) (gl : Nat) (Fl : Nat → Nat → Prop) (T : Nat) (b : Nat) : Prop := b = q ∨ vO.ownBlock = some b ∨ b = gl ∨ ∃ n, n < T ∧ Fl n b
def RSf (w : World) (F : Nat → Prop) (q K : Nat) (s : ShS) : Prop := ∃ vO gl ps Fl r, RSu w q vO gl ps Fl K r s ∧ ShOk s ∧ F = ftS q vO gl Fl s.T
set_option maxHeartbeats 400000 in
theorem ints_any (A B : Option Addr) (n m c d N : Nat) (a b : List Int) (w : World) (ha : RdE aH w N A n a) (hb : RdE aH w N B m b) (hN : N ≤ w.heap.size) (hn : n ≤ maxLen) :
    Calls Try.prog 12 #[.slice A n c, .slice B m d] w fun e w' => e = .returned (.bool (sameI a b)) ∧ Below w.heap.size w w' := by
  unfold maxLen at hn
  by_cases hnm : n = m
  · subst hnm
    go_enter Try.func12, Try.ntmps12
    go_wp2
    go_loopw [5] (fun i wr => ∃ k : Nat, k ≤ n ∧ i = .int .i64 k ∧ (∀ j, j < k → a.getD j 0 = b.getD j 0) ∧ Below w.heap.size w wr) (fun i _ => n - (intOf i).toNat)
    case atStart => exact ⟨0, Nat.zero_le _, rfl, fun j hj => absurd hj (by omega), Below.refl _ _⟩
    case round =>
      obtain ⟨k, hk, rfl, hj, hbl⟩ := hrel
      by_cases hlt : k < n
      · obtain ⟨bA, oA, rfl, hA, cA⟩ := (ha.below (hbl.mono hN)).int hlt
        obtain ⟨bB, oB, rfl, hB, cB⟩ := (hb.below (hbl.mono hN)).int hlt
        have hidj := Lib.hid hj
        clear hj
        generalize hx : a.getD k 0 = x at *
        generalize hy : b.getD k 0 = y at *
        have HX := Lib.hid hx
        have HY := Lib.hid hy
        clear hx hy
        go_wp2
        go_quiet (fail)
        go_wp2
        · have hd : (x != y) = true := by assumption
          go_ret
          refine ⟨?_, bdn hbl _⟩
          have : sameI a b = false := by
            simp only [sameI, beq_eq_false_iff_ne]
            rintro rfl
            have := HX.out.symm.trans HY.out
            simp [this] at hd
          rw [this]; rfl
        · have hd : (x != y) = false := by assumption
          go_roundw
          case rel =>
            refine ⟨k + 1, by omega, by go_num, ?_, bdn hbl _⟩
            intro j hj
            by_cases h : j = k
            · subst h
              rw [HX.out, HY.out]
              simpa using hd
            · exact hidj.out j (by omega)
          case measure => simp [intOf]; omega
      · go_wp2
        go_ret
        refine ⟨?_, hbl⟩
        have : sameI a b = true := by
          simp only [sameI, beq_iff_eq]
          exact ext_ints (by rw [ha.1, hb.1]) fun j h => hj j (by have := ha.1; omega)
        rw [this]; rfl
  · have hne : ((n : Int) != (m : Int)) = true := by simp; omega
    go_enter Try.func12, Try.ntmps12
    go_wp2
    go_ret
    refine ⟨?_, Below.refl _ _⟩
    have : sameI a b = false := by
      have h1 := ha.1
      have h2 := hb.1
      simp only [sameI, beq_eq_false_iff_ne]
      rintro rfl
      omega
    rw [this]; rfl
theorem l_geo20 (a N : Nat) (w : World) (ha : a < 256) (hN : 3 + a % 4 = N) : Calls Try.prog 10 #[.int .u8 (a : Int)] w fun e w' => e = .returned (geo (neR N 8)) ∧ Below w.heap.size w w' := by
  have HB1 : Hid (Below w.heap.size w (w.alloc (.cells ([.int .i64 (N : Int), .int .i64 8, .int .i64 40] : List Value).toArray 23))) := Lib.hid ((Below.refl _ _).alloc (Nat.le_refl _) _)
  have HR := Lib.hid (range_new w [.int .i64 (N : Int), .int .i64 8, .int .i64 40] 23)
  have HRA : Hid ((a : Int).tmod 4 = ((a % 4 : Nat) : Int)) := Lib.hid rfl
  have HCA : Hid (IntKind.i64.wrap ((a % 4 : Nat) : Int) = ((a % 4 : Nat) : Int)) := Lib.hid (i64q_ (by omega))
  have HAA : Hid (IntKind.i64.wrap (3 + ((a % 4 : Nat) : Int)) = (N : Int)) := Lib.hid (by rw [i64q_ (by omega)]; omega)
  clear ha hN
  go_enter Try.func10, Try.ntmps10
  go_upto_region 0 with fail
  refine wp_region_lit ?_
  refine af rfl (bV (cs := [.int .i64 0, .int .i64 0, .int .i64 0]) zeroG3 rfl) ?_
  simp only [Act.put, aa, ac, ae]
  refine wpList_nil ?_
  go_upto_region 1 with fail
  refine wp_region_lit ?_
  refine af rfl (ah rfl (ev rfl)) ?_
  simp only [Act.put, aa, ac, ae]
  refine af rfl (exec_rem8 rfl (ev rfl) evk (by decide) HRA.out) ?_
  simp only [Act.put, aa, ac, ae]
  refine af rfl (exec_cv8 rfl (ev rfl) HCA.out) ?_
  simp only [Act.put, aa, ac, ae]
  refine af rfl (bf rfl evk (ev rfl) HAA.out) ?_
  simp only [Act.put, aa, ac, ae]
  refine af rfl (exec_bldG40 rfl (ev rfl) evk evk) ?_
  simp only [Act.put, aa, ac, ae]
  refine aA rfl (exec_filT (cs := [.int .i64 (N : Int), .int .i64 8, .int .i64 40]) (ds := [.int .i64 0, .int .i64 0, .int .i64 0]) (by kernel_rfl) rfl (by intro v hv; simp only [List.mem_cons, List.not_mem_nil, or_false] at hv; rcases hv with rfl | rfl | rfl <;> rfl) rfl (ev rfl) (ev rfl)) ?_
  simp only [Act.put, aa, ac, ae]
  refine wpList_nil ?_
  go_wp2_with fail
  exact bodyPost_ret (res_rng rfl _ _ _ rfl HR.out Try.underlying23 rfl (by kernel_rfl)) rfl ⟨rfl, HB1.out⟩
def lp_ (n : Int) : PutC := ⟨n, 0, zeroB⟩
def ls0 : ShS := shNew 3 8 2
def ls1 : ShS := putS ls0 1 [lp_ 0]
def ls2 : ShS := putS ls1 2 [lp_ 1]
def ls3 : ShS := putS ls2 3 [lp_ 2]
def ls4 : ShS := putS ls3 0 []
theorem lq1 : putQ ls0 1 [lp_ 0] = 0 := by decide +kernel
theorem lq2 : putQ ls1 2 [lp_ 1] = 0 := by decide +kernel
theorem lq3 : putQ ls2 3 [lp_ 2] = 10 := by decide +kernel
theorem lq4 : putQ ls3 0 [] = 2 := by decide +kernel
theorem ld4 : ls4.aW = [0, 1] := by decide +kernel
theorem lf4 : ls4.first = 1 := by decide +kernel
theorem le4 : shE ls4 0 = 0 := by decide +kernel
theorem lf5 : (shCln ls4 0).first = 2 := by decide +kernel
theorem bldC0 (w : World) : (Instr.build 52 #[]).run Try.prog w = .ok (clV (aP (lp_ 0))) w := by kernel_rfl
theorem bldP0 (n : Int) (w : World) : (Instr.build 48 #[(0, .int .i64 n)]).run Try.prog w = .ok (plV n 0) w := by kernel_rfl
theorem exec_bldP0 {ρ : Operand → Value} {o : Oper} {x : Operand} {w : World} {n : Int} (ho : o.op = .build 48 #[(0, x)]) (hx : ρ x = .int .i64 n) : (execOp ρ o).run Try.prog w = .ok (.value (plV n 0)) w := by
  unfold execOp
  simp [ho, hx, bldP0, Result.andThen]
theorem bldC1 (n : Int) (w : World) : (Instr.build 52 #[(0, plV n 0)]).run Try.prog w = .ok (clV (aP (lp_ n))) w := by kernel_rfl
theorem exec_bldC1 {ρ : Operand → Value} {o : Oper} {x : Operand} {w : World} {n : Int} (ho : o.op = .build 52 #[(0, x)]) (hx : ρ x = plV n 0) : (execOp ρ o).run Try.prog w = .ok (.value (clV (aP (lp_ n)))) w := by
  unfold execOp
  simp [ho, hx, bldC1, Result.andThen]
theorem bld01 (w : World) : (Instr.buildSlice 41 2 #[(0, .int .i64 0), (1, .int .i64 1)]).run Try.prog w = .ok (.slice (some ⟨w.heap.size, 0, none⟩) 2 2) (w.alloc (.cells #[.int .i64 0, .int .i64 1] 3)) := by kernel_rfl
theorem exec_bld01 {ρ : Operand → Value} {o : Oper} {x y : Operand} {w : World} (ho : o.op = .buildSlice 41 2 #[(0, x), (1, y)]) (hx : ρ x = .int .i64 0) (hy : ρ y = .int .i64 1) : (execOp ρ o).run Try.prog w = .ok (.value (.slice (some ⟨w.heap.size, 0, none⟩) 2 2)) (w.alloc (.cells #[.int .i64 0, .int .i64 1] 3)) := by
  unfold execOp
  simp only [ho, hx, hy, List.map_toArray, List.map_cons, List.map_nil, Sem.run_bind, bld01, Result.andThen_ok, Sem.run_pure]
def LvS (D : ShPr) (w0 : World) (t K : Nat) (s : ShS) (w : World) : Prop := ∃ S, D.P w S t K s ∧ (∀ b, S b → w0.heap.size ≤ b) ∧ Below w0.heap.size w0 w
section
variable {D : ShPr} {w0 w w' : World} {t K Q : Nat} {s : ShS}
theorem LvS.bel (a : LvS D w0 t K s w) : Below w0.heap.size w0 w := by obtain ⟨S, h1, h2, h3⟩ := a; exact h3
theorem LvS.below (a : LvS D w0 t K s w) (k : Below w.heap.size w w') : LvS D w0 t K s w' := by
  obtain ⟨S, h1, h2, h3⟩ := a
  exact ⟨S, D.below h1 k, h2, h3.trans (k.mono h3.size)⟩
theorem LvS.put (a : LvS D w0 t K s w) (pc : PutC) (hQ : Q < 18446744073709551616) (hK : K + 1 ≤ 1000000) : Calls Try.prog 11 #[.pointer (some ⟨t, 0, none⟩), .int .u64 (Q : Int), .slice (some ⟨w.heap.size, 0, none⟩) 1 1] (w.alloc (.cells (aV.cel (aP pc)).toArray aV.t)) fun e w' => e = .returned (.int .i64 (putQ s Q [pc])) ∧ LvS D w0 t (K + 1) (putS s Q [pc]) w' := by
  obtain ⟨S, h1, h2, h3⟩ := a
  have hb := (Below.refl w.heap.size w).alloc (Nat.le_refl _) (.cells (aV.cel (aP pc)).toArray aV.t)
  have hsz : (w.alloc (.cells (aV.cel (aP pc)).toArray aV.t)).heap.size = w.heap.size + 1 := World.size_alloc ..
  have hr : RdE aV (w.alloc (.cells (aV.cel (aP pc)).toArray aV.t)) (w.alloc (.cells (aV.cel (aP pc)).toArray aV.t)).heap.size (some ⟨w.heap.size, 0, none⟩) 1 ([pc].map aP) := by rw [hsz]; exact rdC_new1 w (aP pc)
  refine (D.put (D.below h1 hb) hQ hK hr rfl (Nat.le_refl _) (by unfold maxLen; decide) (fun x e _ hs => ?_)).mono ?_
  · injection e with e
    subst e
    have := D.lt h1 _ hs
    simp at this
  · rintro e w' ⟨k0, S', k1, k2, k3⟩
    have h4 := h3.alloc h3.size (.cells (aV.cel (aP pc)).toArray aV.t)
    refine ⟨k0, S', k1, fun b hb => ?_, h4.trans (k2.below h2 h4.size)⟩
    rcases k3 b hb with y | y
    · exact h2 b y
    · exact Nat.le_trans h4.size y
theorem LvS.put0 (a : LvS D w0 t K s w) (hQ : Q < 18446744073709551616) (hK : K ≤ 1000000) : Calls Try.prog 11 #[.pointer (some ⟨t, 0, none⟩), .int .u64 (Q : Int), .slice none 0 0] w fun e w' => e = .returned (.int .i64 (putQ s Q [])) ∧ LvS D w0 t K (putS s Q []) w' := by
  obtain ⟨S, h1, h2, h3⟩ := a
  refine (D.put (nc := 0) (c := []) h1 hQ hK (RdE.nil _ _ _) rfl (Nat.le_refl _) (Nat.zero_le _) (fun x e h hs => by omega)).mono ?_
  rintro e w' ⟨k0, S', k1, k2, k3⟩
  refine ⟨k0, S', k1, fun b hb => ?_, h3.trans (k2.below h2 h3.size)⟩
  rcases k3 b hb with y | y
  · exact h2 b y
  · exact Nat.le_trans h3.size y
theorem LvS.clean (n : Int) (a : LvS D w0 t K s w) : Calls Try.prog 15 #[.pointer (some ⟨t, 0, none⟩), .int .i64 n] w fun e w' => e = .returned (.int .i64 (shE s n)) ∧ LvS D w0 t K (shCln s n) w' := by
  obtain ⟨S, h1, h2, h3⟩ := a
  refine (D.clean n h1).mono ?_
  rintro e w' ⟨k0, S', k1, k2, k3⟩
  refine ⟨k0, S', k1, fun b hb => ?_, h3.trans (k2.below h2 h3.size)⟩
  rcases k3 b hb with y | y
  · exact h2 b y
  · exact Nat.le_trans h3.size y
theorem LvS.aW (a : LvS D w0 t K s w) : Calls Try.prog 13 #[.pointer (some ⟨t, 0, none⟩)] w fun e w' => ∃ v, e = .returned v ∧ ax aH w' w.heap.size v s.aW ∧ Below w.heap.size w w' := by
  obtain ⟨S, h1, _⟩ := a; exact D.aW h1
theorem LvS.first (a : LvS D w0 t K s w) (hK : K ≤ 1000000) : Calls Try.prog 14 #[.pointer (some ⟨t, 0, none⟩)] w fun e w' => e = .returned (.int .u64 (s.first : Int)) ∧ Below w.heap.size w w' := by
  obtain ⟨S, h1, _⟩ := a; exact D.first h1 hK
end
set_option maxHeartbeats 4000000 in
theorem shlives (D : ShPr) (w : World) : Calls Try.prog 6 #[] w fun e w' => e = .returned (.bool true) ∧ Below w.heap.size w w' := by
  go_enter Try.func6, Try.ntmps6
  go_upto_region 1 with fail
  refine wp_region_lit ?_
  refine aj rfl (ar Try.call10 rfl (evc evk evn)) ?_
  refine (l_geo20 0 3 w (by omega) rfl).mono ?_
  rintro e w1 ⟨rfl, b1⟩
  have B1 := Lib.hid b1
  clear b1
  refine ⟨_, rfl, ?_⟩
  simp only [Act.put, aa, ac, ae]
  refine aj rfl (ar Try.call4 rfl (evc (ev rfl) (evc evk evn))) ?_
  refine (D.new_ok (N := 3) (T := 8) (room := 2) (r := 40) w1 (by decide) (by omega) (by omega)).mono ?_
  rintro e w2 ⟨t, S, rfl, p2, b2, s2⟩
  have HL0 : Hid (LvS D w t 0 ls0 w2) := Lib.hid ⟨S, p2, fun b hb => Nat.le_trans B1.out.size (s2 b hb), B1.out.trans (b2.mono B1.out.size)⟩
  clear p2 b2 s2
  refine ⟨_, rfl, ?_⟩
  simp only [Act.put, aa, ac, ae]
  refine af rfl (ah rfl (ev rfl)) ?_
  simp only [Act.put, aa, ac, ae]
  refine af rfl (az rfl (ev rfl) rfl) ?_
  simp only [Act.put, aa, ac, ae]
  refine af rfl (az rfl (ev rfl) rfl) ?_
  simp only [Act.put, aa, ac, ae]
  refine af rfl (al rfl (ev rfl)) ?_
  simp only [Act.put, aa, ac, ae]
  refine af rfl (al rfl (ev rfl)) ?_
  simp only [Act.put, aa, ac, ae]
  refine wpList_nil ?_
  go_upto_region 2 with fail
  refine wp_region_lit ?_
  refine af rfl (ah rfl (ev rfl)) ?_
  simp only [Act.put, aa, ac, ae]
  refine af (v := .bool false) rfl (aE false rfl (ev rfl) evk rfl) ?_
  simp only [Act.put, aa, ac, ae]
  refine af (v := .bool false) rfl (ah rfl (ev rfl)) ?_
  simp only [Act.put, aa, ac, ae]
  refine ak (am rfl rfl rfl rfl) (ah rfl (ev rfl)) ?_
  simp only [Act.put, aa, ac, ae]
  refine ak (v := .bool false) (am rfl rfl rfl rfl) (bj false Try.underlying24 rfl (ev rfl) evk rfl) ?_
  simp only [Act.put, aa, ac, ae]
  refine af (v := .bool false) rfl (bw rfl (ev rfl) (ev rfl)) ?_
  simp only [Act.put, aa, ac, ae]
  refine wpList_nil ?_
  go_upto_region 4 with fail
  refine wp_region_lit ?_
  refine af rfl (ah rfl (ev rfl)) ?_
  simp only [Act.put, aa, ac, ae]
  refine af rfl (exec_bld0 rfl (bldC0 _)) ?_
  simp only [Act.put, aa, ac, ae]
  refine af rfl (exec_mk1E (E := aV) (a := aP (lp_ 0)) rfl (ev rfl) rfl (by decide)) ?_
  simp only [Act.put, aa, ac, ae]
  refine aj rfl (ar Try.call11 rfl (evc (ev rfl) (evc evk (evc (ev rfl) evn)))) ?_
  refine (HL0.out.put (Q := 1) (lp_ 0) (by omega) (by omega)).mono ?_
  rintro e w3 ⟨rfl, h⟩
  rw [show putQ ls0 1 [lp_ 0] = 0 from lq1]
  have HL1 : Hid (LvS D w t 1 ls1 w3) := Lib.hid h
  clear h
  refine ⟨_, rfl, ?_⟩
  simp only [Act.put, aa, ac, ae]
  refine af rfl (al rfl (ev rfl)) ?_
  simp only [Act.put, aa, ac, ae]
  refine wpList_nil ?_
  go_upto_region 5 with fail
  refine wp_region_lit ?_
  refine af rfl (ah rfl (ev rfl)) ?_
  simp only [Act.put, aa, ac, ae]
  refine af rfl (exec_bldP0 (n := 1) rfl evk) ?_
  simp only [Act.put, aa, ac, ae]
  refine af rfl (exec_bldC1 (n := 1) rfl (ev rfl)) ?_
  simp only [Act.put, aa, ac, ae]
  refine af rfl (exec_mk1E (E := aV) (a := aP (lp_ 1)) rfl (ev rfl) rfl (by decide)) ?_
  simp only [Act.put, aa, ac, ae]
  refine aj rfl (ar Try.call11 rfl (evc (ev rfl) (evc evk (evc (ev rfl) evn)))) ?_
  refine (HL1.out.put (Q := 2) (lp_ 1) (by omega) (by omega)).mono ?_
  rintro e w4 ⟨rfl, h⟩
  rw [lq2]
  have HL2 : Hid (LvS D w t 2 ls2 w4) := Lib.hid h
  clear h
  refine ⟨_, rfl, ?_⟩
  simp only [Act.put, aa, ac, ae]
  refine af rfl (al rfl (ev rfl)) ?_
  simp only [Act.put, aa, ac, ae]
  refine wpList_nil ?_
  go_upto_region 6 with fail
  refine wp_region_lit ?_
  refine af rfl (ah rfl (ev rfl)) ?_
  simp only [Act.put, aa, ac, ae]
  refine af rfl (exec_bldP0 (n := 2) rfl evk) ?_
  simp only [Act.put, aa, ac, ae]
  refine af rfl (exec_bldC1 (n := 2) rfl (ev rfl)) ?_
  simp only [Act.put, aa, ac, ae]
  refine af rfl (exec_mk1E (E := aV) (a := aP (lp_ 2)) rfl (ev rfl) rfl (by decide)) ?_
  simp only [Act.put, aa, ac, ae]
  refine aj rfl (ar Try.call11 rfl (evc (ev rfl) (evc evk (evc (ev rfl) evn)))) ?_
  refine (HL2.out.put (Q := 3) (lp_ 2) (by omega) (by omega)).mono ?_
  rintro e w5 ⟨rfl, h⟩
  rw [lq3]
  have HL3 : Hid (LvS D w t 3 ls3 w5) := Lib.hid h
  clear h
  refine ⟨_, rfl, ?_⟩
  simp only [Act.put, aa, ac, ae]
  refine af rfl (al rfl (ev rfl)) ?_
  simp only [Act.put, aa, ac, ae]
  refine wpList_nil ?_
  go_upto_region 7 with fail
  refine wp_region_lit ?_
  refine af rfl (ah rfl (ev rfl)) ?_
  simp only [Act.put, aa, ac, ae]
  refine aj rfl (ar Try.call11 rfl (evc (ev rfl) (evc evk (evc evk evn)))) ?_
  refine (HL3.out.put0 (Q := 0) (by omega) (by omega)).mono ?_
  rintro e w6 ⟨rfl, h⟩
  rw [lq4]
  have HL4 : Hid (LvS D w t 3 ls4 w6) := Lib.hid h
  clear h
  refine ⟨_, rfl, ?_⟩
  simp only [Act.put, aa, ac, ae]
  refine af (v := .bool true) rfl (ay true rfl (ev rfl) evk rfl) ?_
  simp only [Act.put, aa, ac, ae]
  refine af (v := .bool true) rfl (ah rfl (ev rfl)) ?_
  simp only [Act.put, aa, ac, ae]
  refine ak (am rfl rfl rfl rfl) (ah rfl (ev rfl)) ?_
  simp only [Act.put, aa, ac, ae]
  refine ak (v := .bool true) (am rfl rfl rfl rfl) (ay true rfl (ev rfl) evk rfl) ?_
  simp only [Act.put, aa, ac, ae]
  refine af (v := .bool true) rfl (aY rfl (ev rfl) (ev rfl)) ?_
  simp only [Act.put, aa, ac, ae]
  refine af (v := .bool true) rfl (ah rfl (ev rfl)) ?_
  simp only [Act.put, aa, ac, ae]
  refine ak (am rfl rfl rfl rfl) (ah rfl (ev rfl)) ?_
  simp only [Act.put, aa, ac, ae]
  refine ak (v := .bool true) (am rfl rfl rfl rfl) (ay true rfl (ev rfl) evk rfl) ?_
  simp only [Act.put, aa, ac, ae]
  refine af (v := .bool true) rfl (aY rfl (ev rfl) (ev rfl)) ?_
  simp only [Act.put, aa, ac, ae]
  refine af (v := .bool true) rfl (ah rfl (ev rfl)) ?_
  simp only [Act.put, aa, ac, ae]
  refine ak (am rfl rfl rfl rfl) (ah rfl (ev rfl)) ?_
  simp only [Act.put, aa, ac, ae]
  refine ak (v := .bool true) (am rfl rfl rfl rfl) (ay true rfl (ev rfl) evk rfl) ?_
  simp only [Act.put, aa, ac, ae]
  refine af (v := .bool true) rfl (aY rfl (ev rfl) (ev rfl)) ?_
  simp only [Act.put, aa, ac, ae]
  refine af (v := .bool true) rfl (ah rfl (ev rfl)) ?_
  simp only [Act.put, aa, ac, ae]
  refine ak (am rfl rfl rfl rfl) (ah rfl (ev rfl)) ?_
  simp only [Act.put, aa, ac, ae]
  refine aj (am rfl rfl rfl rfl) (ar Try.call13 rfl (evc (ev rfl) evn)) ?_
  refine HL4.out.aW.mono ?_
  rintro e w7 ⟨v7, rfl, hm7, b7⟩
  rw [ld4] at hm7
  obtain ⟨A7, c7, rfl, h71, h72⟩ := hm7.form
  have HR := Lib.hid hm7.rd
  have HL7 := Lib.hid (HL4.out.below b7)
  clear hm7 b7 h71 h72
  refine ⟨_, rfl, ?_⟩
  simp only [Act.put, aa, ac, ae]
  refine ak (am rfl rfl rfl rfl) (exec_bld01 rfl evk evk) ?_
  simp only [Act.put, aa, ac, ae]
  refine aj (am rfl rfl rfl rfl) (ar Try.call12 rfl (evc (ev rfl) (evc (ev rfl) evn))) ?_
  refine (ints_any _ _ _ _ _ _ (w7.heap.size + 1) [0, 1] [0, 1] _ (HR.out.up _) (rdE_new (E := aH) (l := [0, 1]) w7 #[.int .i64 0, .int .i64 1] 3 rfl) (by rw [World.size_alloc]; exact Nat.le_refl _) (by unfold maxLen; decide)).mono ?_
  rintro e w8 ⟨rfl, b8⟩
  have hb8 := ((Below.refl w7.heap.size w7).alloc (Nat.le_refl _) (.cells #[.int .i64 0, .int .i64 1] 3)).trans (b8.mono (by rw [World.size_alloc]; omega))
  have HL8 := Lib.hid (HL7.out.below hb8)
  clear b8 hb8
  rw [show sameI [0, 1] [0, 1] = true from rfl]
  refine ⟨_, rfl, ?_⟩
  simp only [Act.put, aa, ac, ae]
  refine af (v := .bool true) rfl (aY rfl (ev rfl) (ev rfl)) ?_
  simp only [Act.put, aa, ac, ae]
  refine af (v := .bool true) rfl (ah rfl (ev rfl)) ?_
  simp only [Act.put, aa, ac, ae]
  refine ak (am rfl rfl rfl rfl) (ah rfl (ev rfl)) ?_
  simp only [Act.put, aa, ac, ae]
  refine aj (am rfl rfl rfl rfl) (ar Try.call14 rfl (evc (ev rfl) evn)) ?_
  refine (HL8.out.first (by omega)).mono ?_
  rintro e w9 ⟨rfl, b9⟩
  rw [lf4]
  have HL9 := Lib.hid (HL8.out.below b9)
  clear b9
  refine ⟨_, rfl, ?_⟩
  simp only [Act.put, aa, ac, ae]
  refine ak (v := .bool true) (am rfl rfl rfl rfl) (ay true rfl (ev rfl) evk rfl) ?_
  simp only [Act.put, aa, ac, ae]
  refine af (v := .bool true) rfl (aY rfl (ev rfl) (ev rfl)) ?_
  simp only [Act.put, aa, ac, ae]
  refine af (v := .bool true) rfl (ah rfl (ev rfl)) ?_
  simp only [Act.put, aa, ac, ae]
  refine ak (am rfl rfl rfl rfl) (ah rfl (ev rfl)) ?_
  simp only [Act.put, aa, ac, ae]
  refine aj (am rfl rfl rfl rfl) (ar Try.call15 rfl (evc (ev rfl) (evc evk evn))) ?_
  refine (HL9.out.clean 0).mono ?_
  rintro e w10 ⟨rfl, h⟩
  rw [le4]
  have HL10 := Lib.hid h
  clear h
  refine ⟨_, rfl, ?_⟩
  simp only [Act.put, aa, ac, ae]
  refine ak (v := .bool true) (am rfl rfl rfl rfl) (ay true rfl (ev rfl) evk rfl) ?_
  simp only [Act.put, aa, ac, ae]
  refine af (v := .bool true) rfl (aY rfl (ev rfl) (ev rfl)) ?_
  simp only [Act.put, aa, ac, ae]
  refine af (v := .bool true) rfl (ah rfl (ev rfl)) ?_
  simp only [Act.put, aa, ac, ae]
  refine ak (am rfl rfl rfl rfl) (ah rfl (ev rfl)) ?_
  simp only [Act.put, aa, ac, ae]
  refine aj (am rfl rfl rfl rfl) (ar Try.call14 rfl (evc (ev rfl) evn)) ?_
  refine (HL10.out.first (by omega)).mono ?_
  rintro e w11 ⟨rfl, b11⟩
  rw [lf5]
  have HL11 := Lib.hid (HL10.out.below b11)
  clear b11
  refine ⟨_, rfl, ?_⟩
  simp only [Act.put, aa, ac, ae]
  refine ak (v := .bool true) (am rfl rfl rfl rfl) (ay true rfl (ev rfl) evk rfl) ?_
  simp only [Act.put, aa, ac, ae]
  refine af (v := .bool true) rfl (aY rfl (ev rfl) (ev rfl)) ?_
  simp only [Act.put, aa, ac, ae]
  refine af (v := .bool true) rfl (al rfl (ev rfl)) ?_
  simp only [Act.put, aa, ac, ae]
  refine wpList_nil ?_
  go_wp2_with fail
  go_ret
  exact ⟨rfl, HL11.out.bel⟩
set_option maxHeartbeats 1000000 in
theorem pgmay (x : Ros) (w : World) : Calls Try.prog 7 #[geo x] w fun e w' => e = .returned (.bool (geoB x)) ∧ Below w.heap.size w w' := by
  have h1 := geoB_iff (x := x)
  have h2 := geoB_not (x := x)
  generalize geoB x = g at *
  obtain ⟨m, s, r, st, cur, gone⟩ := x
  simp only at h1 h2
  have H1 := Lib.hid h1
  have H2 := Lib.hid h2
  clear h1 h2
  show Calls Try.prog 7 #[.agg #[.int .i64 m, .int .i64 s, .int .i64 r]] w _
  go_enter Try.func7, Try.ntmps7
  go_wp2
  all_goals
    go_ret
    refine ⟨ret_bool ?_, (Below.refl _ _).alloc (Nat.le_refl _) _⟩
    first
      | (refine Eq.symm (H2.out.2 ?_); omega)
      | (rw [Bool.eq_iff_iff, H1.out, decide_eq_true_iff]; omega)
set_option maxHeartbeats 1000000 in
theorem rgmay (x : Ros) (w : World) : Calls Try.prog 9 #[geo x] w fun e w' => e = .returned (.bool (geoB x)) ∧ Below w.heap.size w w' := by
  have h1 := geoB_iff (x := x)
  have h2 := geoB_not (x := x)
  generalize geoB x = g at *
  obtain ⟨m, s, r, st, cur, gone⟩ := x
  simp only at h1 h2
  have H1 := Lib.hid h1
  have H2 := Lib.hid h2
  clear h1 h2
  show Calls Try.prog 9 #[.agg #[.int .i64 m, .int .i64 s, .int .i64 r]] w _
  go_enter Try.func9, Try.ntmps9
  go_wp2
  all_goals
    go_ret
    refine ⟨ret_bool ?_, (Below.refl _ _).alloc (Nat.le_refl _) _⟩
    first
      | (refine Eq.symm (H2.out.2 ?_); omega)
      | (rw [Bool.eq_iff_iff, H1.out, decide_eq_true_iff]; omega)
section
variable {P : Program} {md : Region.Mode} {l : List Oper} {Q : Exit → Act → World → Prop} {S : World → Prop} {fuel : Nat} {listed : Array Bool} {a : Act} {w w1 : World} {o o' : Oper} {v : Value}
theorem held_turn (i : Nat) (hi : l[i]? = some o) (hr : Region.ready md l.toArray listed = [i]) (hw : Region.wanted o (yielded l.toArray a.tmps) = true) (h : (execOp a.eval o).run P w = .ok (.value v) w1)
    (hS : S w1) (hk : wpAnyH P md l.toArray Q S fuel (listed.setIfInBounds i true) (a.put o.dst v) w1) : wpAnyH P md l.toArray Q S (fuel + 1) listed a w :=
  wpAnyH_all hr (by simp) fun j hj => by
    obtain rfl : j = i := by simpa using hj
    unfold wpOp
    simp only [List.getElem?_toArray, hi, hw, if_true]
    refine .inl ?_
    unfold Oper.wp
    rw [h]
    exact ⟨hS, hk⟩
end
theorem bldRs (a b c d : Int) (A : Option Addr) (n c' : Nat) (w : World) : (Instr.build 43 #[(0, .agg #[.int .i64 a, .int .i64 b, .int .i64 c]), (1, .int .i64 d), (3, .slice A n c')]).run Try.prog w = .ok (.agg #[.int .i64 a, .int .i64 b, .int .i64 c, .int .i64 d, .slice none 0 0, .slice A n c']) w := by kernel_rfl
theorem exec_bldRs {ρ : Operand → Value} {o : Oper} {x y z : Operand} {w : World} {N T room g : Nat} {r : Int} (ho : o.op = .build 43 #[(0, x), (1, y), (3, z)]) (hx : ρ x = geo (gx N T r)) (hy : ρ y = .int .i64 (room : Int)) (hz : ρ z = .slice (some ⟨g, 0, none⟩) T T) : (execOp ρ o).run Try.prog w = .ok (.value (.agg (rsC N T r room (.slice none 0 0) g).toArray)) w := by
  have h := bldRs (N : Int) (T : Int) r (room : Int) (some ⟨g, 0, none⟩) T T w
  unfold execOp
  simp only [ho, hx, hy, hz, List.map_toArray, List.map_cons, List.map_nil, Sem.run_bind]
  show Result.andThen ((Instr.build 43 #[(0, .agg #[.int .i64 (N : Int), .int .i64 (T : Int), .int .i64 r]), (1, .int .i64 (room : Int)), (3, .slice (some ⟨g, 0, none⟩) T T)]).run Try.prog w) _ = _
  rw [h]
  rfl
theorem RSf.fresh {w : World} {q gl N T room : Nat} {r : Int} (hg : geoB (gx N T r) = true) (h1 : 1 ≤ room) (h2 : room ≤ 64) (ha : w.heap[q]? = some (.cells (rsC N T r room (.slice none 0 0) gl).toArray 43 (0, 0))) (hr : ax LpE w 0 (.slice (some ⟨gl, 0, none⟩) T T) (List.replicate T none)) : RSf w (ftS q (.slice none 0 0) gl (fun _ _ => False) T) q 0 (shNew N T room) := by
  have hb := of_geoB hg
  unfold gx at hb
  simp only at hb
  have hps : ∀ n, (List.replicate T (none : Option Nat)).getD n none = none := fun n => by
    rw [List.getD, List.getElem?_replicate]
    split <;> rfl
  refine ⟨.slice none 0 0, gl, List.replicate T none, fun _ _ => False, r, ⟨ha, ax.nil _ _, hr, fun n hn => ?_, fun _ _ _ _ _ _ e => e.elim, fun _ _ _ e => e.elim, ⟨hb.2.2.2.2.1, hb.2.2.2.2.2⟩⟩, ShOk.new (by omega) (by omega) (by omega) (by omega) h1 h2, rfl⟩
  rw [hps]
  exact fun _ e => e
set_option maxHeartbeats 2000000 in
theorem rs_new_no (x : Ros) (room : Int) (w : World) (h : ¬ (geoB x = true ∧ 1 ≤ room ∧ room ≤ 64)) : Calls Try.prog 5 #[geo x, .int .i64 room] w fun e w' => e = .returned (.tuple #[.pointer none, .int .i64 2]) ∧ Below w.heap.size w w' := by
  have hbx := (Below.refl w.heap.size w).alloc (Nat.le_refl _) (.cells (celG x).toArray 23)
  have HB1 := Lib.hid hbx
  have HP1 := Lib.hid (heap_alloc_new w (.cells (celG x).toArray 23))
  clear hbx
  go_enter Try.func5, Try.ntmps5
  go_upto_region 0 with fail
  refine wp_region_lit ?_
  refine af rfl (bq (cs := celG x) rfl (ev rfl)) ?_
  simp only [Act.put, aa, ac, ae]
  generalize w.alloc (.cells (celG x).toArray 23) = w1 at *
  refine af rfl (al rfl evk) ?_
  simp only [Act.put, aa, ac, ae]
  refine af rfl (al rfl evk) ?_
  simp only [Act.put, aa, ac, ae]
  refine wpList_nil ?_
  cases hg : geoB x
  · have HG := Lib.hid hg
    clear h hg
    go_upto_region 1 with fail
    refine wp_region_lit ?_
    refine af rfl (bR (c := x) rfl (ev rfl) (aL HP1.out)) ?_
    simp only [Act.put, aa, ac, ae]
    refine aj rfl (ar Try.call9 rfl (evc (ev rfl) evn)) ?_
    refine (rgmay (x) w1).mono ?_
    rintro e w2 ⟨rfl, b2⟩
    rw [HG.out]
    have HB2 := Lib.hid (HB1.out.trans (b2.mono HB1.out.size))
    have HP2 := Lib.hid (aw HP1.out b2)
    clear b2
    refine ⟨_, rfl, ?_⟩
    simp only [Act.put, aa, ac, ae]
    refine af (v := .bool true) rfl (aG false rfl (ev rfl)) ?_
    simp only [Act.put, aa, ac, ae]
    refine bu 2 (v := .bool true) rfl (ah rfl (ev rfl)) (by kernel_rfl) ?_
    simp only [bO, List.take_succ_cons, List.take_zero, List.drop_succ_cons, List.drop_zero, Act.put, List.setIfInBounds_toArray, List.set_cons_succ, List.set_cons_zero]
    refine af (v := .bool true) rfl (aY rfl (ev rfl) evk) ?_
    simp only [Act.put, aa, ac, ae]
    refine bu 2 (v := .bool true) rfl (ah rfl (ev rfl)) (by kernel_rfl) ?_
    simp only [bO, List.take_succ_cons, List.take_zero, List.drop_succ_cons, List.drop_zero, Act.put, List.setIfInBounds_toArray, List.set_cons_succ, List.set_cons_zero]
    refine af (v := .bool true) rfl (aY rfl (ev rfl) evk) ?_
    simp only [Act.put, aa, ac, ae]
    refine wpList_nil ?_
    go_wp2_with fail
    go_ret2
    exact ⟨rfl, HB2.out⟩
  have HG := Lib.hid hg
  by_cases ha : room < 1
  · have HA : Hid (decide (room < 1) = true) := Lib.hid (decide_eq_true ha)
    clear h hg ha
    go_upto_region 1 with fail
    refine wp_region_lit ?_
    refine af rfl (bR (c := x) rfl (ev rfl) (aL HP1.out)) ?_
    simp only [Act.put, aa, ac, ae]
    refine aj rfl (ar Try.call9 rfl (evc (ev rfl) evn)) ?_
    refine (rgmay (x) w1).mono ?_
    rintro e w2 ⟨rfl, b2⟩
    rw [HG.out]
    have HB2 := Lib.hid (HB1.out.trans (b2.mono HB1.out.size))
    have HP2 := Lib.hid (aw HP1.out b2)
    clear b2
    refine ⟨_, rfl, ?_⟩
    simp only [Act.put, aa, ac, ae]
    refine af (v := .bool false) rfl (aG true rfl (ev rfl)) ?_
    simp only [Act.put, aa, ac, ae]
    refine af (v := .bool false) rfl (ah rfl (ev rfl)) ?_
    simp only [Act.put, aa, ac, ae]
    refine ak (am rfl rfl rfl rfl) (ah rfl (ev rfl)) ?_
    simp only [Act.put, aa, ac, ae]
    refine ak (v := .bool true) (am rfl rfl rfl rfl) (aC true rfl (ev rfl) evk HA.out) ?_
    simp only [Act.put, aa, ac, ae]
    refine af (v := .bool true) rfl (bw rfl (ev rfl) (ev rfl)) ?_
    simp only [Act.put, aa, ac, ae]
    refine bu 2 (v := .bool true) rfl (ah rfl (ev rfl)) (by kernel_rfl) ?_
    simp only [bO, List.take_succ_cons, List.take_zero, List.drop_succ_cons, List.drop_zero, Act.put, List.setIfInBounds_toArray, List.set_cons_succ, List.set_cons_zero]
    refine af (v := .bool true) rfl (aY rfl (ev rfl) evk) ?_
    simp only [Act.put, aa, ac, ae]
    refine wpList_nil ?_
    go_wp2_with fail
    go_ret2
    exact ⟨rfl, HB2.out⟩
  have HA : Hid (decide (room < 1) = false) := Lib.hid (decide_eq_false ha)
  have HC : Hid (decide (room > 64) = true) := Lib.hid (decide_eq_true (by
    rcases Int.lt_or_le 64 room with e | e
    · exact e
    · exact absurd ⟨hg, by omega, e⟩ h))
  clear h hg ha
  go_upto_region 1 with fail
  refine wp_region_lit ?_
  refine af rfl (bR (c := x) rfl (ev rfl) (aL HP1.out)) ?_
  simp only [Act.put, aa, ac, ae]
  refine aj rfl (ar Try.call9 rfl (evc (ev rfl) evn)) ?_
  refine (rgmay (x) w1).mono ?_
  rintro e w2 ⟨rfl, b2⟩
  rw [HG.out]
  have HB2 := Lib.hid (HB1.out.trans (b2.mono HB1.out.size))
  have HP2 := Lib.hid (aw HP1.out b2)
  clear b2
  refine ⟨_, rfl, ?_⟩
  simp only [Act.put, aa, ac, ae]
  refine af (v := .bool false) rfl (aG true rfl (ev rfl)) ?_
  simp only [Act.put, aa, ac, ae]
  refine af (v := .bool false) rfl (ah rfl (ev rfl)) ?_
  simp only [Act.put, aa, ac, ae]
  refine ak (am rfl rfl rfl rfl) (ah rfl (ev rfl)) ?_
  simp only [Act.put, aa, ac, ae]
  refine ak (v := .bool false) (am rfl rfl rfl rfl) (aC false rfl (ev rfl) evk HA.out) ?_
  simp only [Act.put, aa, ac, ae]
  refine af (v := .bool false) rfl (bw rfl (ev rfl) (ev rfl)) ?_
  simp only [Act.put, aa, ac, ae]
  refine af (v := .bool false) rfl (ah rfl (ev rfl)) ?_
  simp only [Act.put, aa, ac, ae]
  refine ak (am rfl rfl rfl rfl) (ah rfl (ev rfl)) ?_
  simp only [Act.put, aa, ac, ae]
  refine ak (v := .bool true) (am rfl rfl rfl rfl) (exec_gtr true rfl (ev rfl) evk HC.out) ?_
  simp only [Act.put, aa, ac, ae]
  refine af (v := .bool true) rfl (bw rfl (ev rfl) (ev rfl)) ?_
  simp only [Act.put, aa, ac, ae]
  refine wpList_nil ?_
  go_wp2_with fail
  go_ret2
  exact ⟨rfl, HB2.out⟩
set_option maxHeartbeats 2000000 in
theorem rs_new_ok {N T room : Nat} {r : Int} (w : World) (hg : geoB (gx N T r) = true) (h1 : 1 ≤ room) (h2 : room ≤ 64) : Calls Try.prog 5 #[geo (gx N T r), .int .i64 (room : Int)] w fun e w' => ∃ q F, e = .returned (.tuple #[.pointer (some ⟨q, 0, none⟩), .int .i64 0]) ∧ RSf w' F q 0 (shNew N T room) ∧ Below w.heap.size w w' ∧ ∀ b, F b → w.heap.size ≤ b := by
  have hb := of_geoB hg
  unfold gx at hb
  simp only at hb
  have hbx := (Below.refl w.heap.size w).alloc (Nat.le_refl _) (.cells (celG (gx N T r)).toArray 23)
  have HB1 := Lib.hid hbx
  have HP1 := Lib.hid (heap_alloc_new w (.cells (celG (gx N T r)).toArray 23))
  have HG := Lib.hid hg
  have HR1 := Lib.hid h1
  have HR2 := Lib.hid h2
  have HT6 : Hid (T ≤ 1000000) := Lib.hid (by omega)
  have HA : Hid (decide ((room : Int) < 1) = false) := Lib.hid (decide_eq_false (by omega))
  have HC : Hid (decide ((room : Int) > 64) = false) := Lib.hid (decide_eq_false (by omega))
  clear hbx hb hg h1 h2
  go_enter Try.func5, Try.ntmps5
  go_upto_region 0 with fail
  refine wp_region_lit ?_
  refine af rfl (bq (cs := celG (gx N T r)) rfl (ev rfl)) ?_
  simp only [Act.put, aa, ac, ae]
  generalize w.alloc (.cells (celG (gx N T r)).toArray 23) = w1 at *
  refine af rfl (al rfl evk) ?_
  simp only [Act.put, aa, ac, ae]
  refine af rfl (al rfl evk) ?_
  simp only [Act.put, aa, ac, ae]
  refine wpList_nil ?_
  go_upto_region 1 with fail
  refine wp_region_lit ?_
  refine af rfl (bR (c := gx N T r) rfl (ev rfl) (aL HP1.out)) ?_
  simp only [Act.put, aa, ac, ae]
  refine aj rfl (ar Try.call9 rfl (evc (ev rfl) evn)) ?_
  refine (rgmay (gx N T r) w1).mono ?_
  rintro e w2 ⟨rfl, b2⟩
  rw [HG.out]
  have HB2 := Lib.hid (HB1.out.trans (b2.mono HB1.out.size))
  have HP2 := Lib.hid (aw HP1.out b2)
  clear b2
  refine ⟨_, rfl, ?_⟩
  simp only [Act.put, aa, ac, ae]
  refine af (v := .bool false) rfl (aG true rfl (ev rfl)) ?_
  simp only [Act.put, aa, ac, ae]
  refine af (v := .bool false) rfl (ah rfl (ev rfl)) ?_
  simp only [Act.put, aa, ac, ae]
  refine ak (am rfl rfl rfl rfl) (ah rfl (ev rfl)) ?_
  simp only [Act.put, aa, ac, ae]
  refine ak (v := .bool false) (am rfl rfl rfl rfl) (aC false rfl (ev rfl) evk HA.out) ?_
  simp only [Act.put, aa, ac, ae]
  refine af (v := .bool false) rfl (bw rfl (ev rfl) (ev rfl)) ?_
  simp only [Act.put, aa, ac, ae]
  refine af (v := .bool false) rfl (ah rfl (ev rfl)) ?_
  simp only [Act.put, aa, ac, ae]
  refine ak (am rfl rfl rfl rfl) (ah rfl (ev rfl)) ?_
  simp only [Act.put, aa, ac, ae]
  refine ak (v := .bool false) (am rfl rfl rfl rfl) (exec_gtr false rfl (ev rfl) evk HC.out) ?_
  simp only [Act.put, aa, ac, ae]
  refine af (v := .bool false) rfl (bw rfl (ev rfl) (ev rfl)) ?_
  simp only [Act.put, aa, ac, ae]
  refine wpList_nil ?_
  have HSD : Hid (Below w2.heap.size w2 (World.drew w2)) := Lib.hid ((Below.refl w2.heap.size w2).drew)
  have HS1 : Hid (Below w2.heap.size w2 ((World.drew w2).alloc (.cells (madeCells LpE.z.cells (T * LpE.n)) LpE.t))) := Lib.hid (HSD.out.alloc (Nat.le_refl _) _)
  have HMZ := Lib.hid (made_zeros LpE flatLp0 (World.drew w2) T (World.drew w2).heap.size (Nat.le_refl _) HT6.out)
  have hsz : ((World.drew w2).alloc (.cells (madeCells LpE.z.cells (T * LpE.n)) LpE.t)).heap.size = (World.drew w2).heap.size + 1 := World.size_alloc ..
  go_upto_region 3 with fail
  refine wp_region_held (S := fun w' => Below w2.heap.size w2 w') (by kernel_rfl) ?_
  change wpAnyH _ _ _ _ _ 9 _ _ w2.drew
  refine au 0 rfl (by kernel_rfl) (by kernel_rfl) (by kernel_rfl) rfl (fun w' hw => bR (c := gx N T r) rfl (ev rfl) (aL (aw HP2.out hw))) (fun _ _ _ h => h) HSD.out ?_
  simp only [Act.put, aa, ac, ae]
  refine au 1 rfl (by kernel_rfl) (by kernel_rfl) (by kernel_rfl) rfl (fun w' hw => ah rfl (ev rfl)) (fun _ _ _ h => h) HSD.out ?_
  simp only [Act.put, aa, ac, ae]
  refine au 2 rfl (by kernel_rfl) (by kernel_rfl) (by kernel_rfl) rfl (fun w' hw => ai rfl (ev rfl) faG1) (fun _ _ _ h => h) HSD.out ?_
  simp only [Act.put, aa, ac, ae]
  refine au 3 rfl (by kernel_rfl) (by kernel_rfl) (by kernel_rfl) rfl (fun w' hw => aq rfl (ev rfl) (bn (k := (T : Int)) ((aL (aw HP2.out hw)) 1 _ rfl))) (fun _ _ _ h => h) HSD.out ?_
  simp only [Act.put, aa, ac, ae]
  refine held_turn 4 rfl (by kernel_rfl) rfl (exec_makeE (E := LpE) rfl (ev rfl) (ev rfl) HT6.out) HS1.out ?_
  simp only [Act.put, aa, ac, ae]
  obtain ⟨gl, hgl⟩ : ∃ gl, (World.drew w2).heap.size = gl := ⟨_, rfl⟩
  have HGL : Hid (w2.heap.size ≤ gl) := Lib.hid (Nat.le_of_eq hgl)
  rw [hgl] at HMZ hsz ⊢
  generalize (World.drew w2).alloc (.cells (madeCells LpE.z.cells (T * LpE.n)) LpE.t) = w3 at *
  have HS2 : Hid (Below w2.heap.size w2 (w3.alloc (.cells (rsC N T r room (.slice none 0 0) gl).toArray 43))) := Lib.hid (HS1.out.alloc HS1.out.size _)
  refine au 5 rfl (by kernel_rfl) (by kernel_rfl) (by kernel_rfl) rfl (fun w' hw => exec_bldRs (room := room) rfl (ev rfl) (ev rfl) (ev rfl)) (fun _ _ _ h => h) HS1.out ?_
  simp only [Act.put, aa, ac, ae]
  refine held_turn 6 rfl (by kernel_rfl) rfl (bq (cs := rsC N T r room (.slice none 0 0) gl) rfl (ev rfl)) HS2.out ?_
  simp only [Act.put, aa, ac, ae]
  refine au 7 rfl (by kernel_rfl) (by kernel_rfl) (by kernel_rfl) rfl (fun w' hw => al rfl (ev rfl)) (fun _ _ _ h => h) HS2.out ?_
  simp only [Act.put, aa, ac, ae]
  refine au 8 rfl (by kernel_rfl) (by kernel_rfl) (by kernel_rfl) rfl (fun w' hw => al rfl evk) (fun _ _ _ h => h) HS2.out ?_
  simp only [Act.put, aa, ac, ae]
  refine wpAnyH_done (by kernel_rfl) ?_ _
  have hq := heap_alloc_new w3 (.cells (rsC N T r room (.slice none 0 0) gl).toArray 43)
  have hrow := (ax.below HMZ.out ((Below.refl w3.heap.size w3).alloc (Nat.le_refl _) (.cells (rsC N T r room (.slice none 0 0) gl).toArray 43))).base (Nat.zero_le _)
  have hf := Lib.hid (RSf.fresh HG.out HR1.out HR2.out hq hrow)
  have HBB := Lib.hid (HB2.out.trans (HS2.out.mono HB2.out.size))
  have HWQ : Hid (w.heap.size ≤ w3.heap.size) := Lib.hid (by have := HB2.out.size; have := HGL.out; omega)
  have HWG : Hid (w.heap.size ≤ gl) := Lib.hid (by have := HB2.out.size; have := HGL.out; omega)
  clear hq hrow hgl hsz
  go_wp2_with fail
  go_ret2
  refine ⟨_, _, rfl, hf.out, HBB.out, fun b hb => ?_⟩
  rcases hb with e | e | e | ⟨_, _, e⟩
  · subst e; exact HWQ.out
  · cases e
  · subst e; exact HWG.out
  · exact e.elim
end Go.Proofs.Ytdmhelalbemlcaa
