import Derived.Test.YtdmhelalbemlcaaGreatDoorSkag
import Derived.LaidEqlPtr
import Derived.Laws.MakeOwn
namespace Go.Proofs.YtdmhelalbemlcaaGreatDoor
set_option maxHeartbeats 8000000
open Go.Proofs.Tryz
open Go.RowKit
set_option linter.unusedVariables false
set_option maxRecDepth 100000
structure ShPr where
 P : World -> (Nat -> Prop) -> Nat -> Nat -> ShS -> Prop
 lt : ∀ {w S p K s}, P w S p K s -> ∀ b, S b -> b < w.heap.size
 only : ∀ {w w' S F p K s}, P w S p K s -> Only F w w' -> (∀ b, S b -> ¬ F b) -> P w' S p K s
 more : ∀ {w S p K K' s}, P w S p K s -> K <= K' -> P w S p K' s
 ok : ∀ {w S p K s}, P w S p K s -> co s
 new_ok : ∀ {N T room : Nat} {r : Int} (w : World), dW (gx N T r) = true -> 1 <= room -> room <= 64 -> Calls prog 7 #[geo (gx N T r), .int .i64 (room : Int)] w fun e w' => ∃ p S, e = .returned (.tuple #[.pointer (some ⟨p, 0, none⟩), .int .i64 0]) /\ P w' S p 0 (fe N T room) /\ Below w.heap.size w w' /\ ∀ b, S b -> w.heap.size <= b
 new_no : ∀ (x : Ros) (room : Int) (w : World), ¬ (dW x = true /\ 1 <= room /\ room <= 64) -> Calls prog 7 #[geo x, .int .i64 room] w fun e w' => e = .returned (.tuple #[.pointer none, .int .i64 2]) /\ Below w.heap.size w w'
 put : ∀ {w S t K s} {Q nc cc : Nat} {A : Option Addr} {c : List dP}, P w S t K s -> Q < 18446744073709551616 -> K + nc <= 1000000 -> RdE cd w w.heap.size A nc (c.map cG) -> c.length = nc -> nc <= cc -> cc <= maxLen -> (∀ x, A = some x -> 0 < nc -> ¬ S x.block) -> Calls prog 13 #[.pointer (some ⟨t, 0, none⟩), .int .u64 (Q : Int), .slice A nc cc] w fun e w' => e = .returned (.int .i64 (gC s Q c)) /\ ∃ S', P w' S' t (K + nc) (ji s Q c) /\ Only S w w' /\ Grow w S S'
 clean : ∀ {w S t K s} (n : Int), P w S t K s -> Calls prog 19 #[.pointer (some ⟨t, 0, none⟩), .int .i64 n] w fun e w' => e = .returned (.int .i64 (shE s n)) /\ ∃ S', P w' S' t K (i8 s n) /\ Only S w w' /\ Grow w S S'
 drop : ∀ {w S t K s} (n : Int), P w S t K s -> Calls prog 20 #[.pointer (some ⟨t, 0, none⟩), .int .i64 n] w fun e w' => e = .returned (.int .i64 (shE s n)) /\ ∃ S', P w' S' t K (lv s n) /\ Only S w w' /\ Grow w S S'
 fits : ∀ {w S t K s A cl} {l : List Int}, P w S t K s -> RdE bg w w.heap.size A l.length l -> (∀ x ∈ l, (Lit.int .i64 x).wf = true) -> l.length <= cl -> cl <= maxLen -> l.length <= 17592186043904 -> Calls prog 24 #[.pointer (some ⟨t, 0, none⟩), .slice A l.length cl] w fun e w' => e = .returned (.bool (s.fits l)) /\ Below w.heap.size w w'
 known : ∀ {w S t K s} (n : Int), P w S t K s -> Calls prog 21 #[.pointer (some ⟨t, 0, none⟩), .int .i64 n] w fun e w' => ∃ v, e = .returned v /\ aQ BoE w' w.heap.size v (pF s n) /\ Below w.heap.size w w'
 cells : ∀ {w S t K s} (n : Int), P w S t K s -> Calls prog 22 #[.pointer (some ⟨t, 0, none⟩), .int .i64 n] w fun e w' => ∃ v, e = .returned v /\ aQ cd w' w.heap.size v ((oY s n).map cG) /\ Below w.heap.size w w'
 cP : ∀ {w S t K s}, P w S t K s -> Calls prog 17 #[.pointer (some ⟨t, 0, none⟩)] w fun e w' => ∃ v, e = .returned v /\ aQ bg w' w.heap.size v s.cP /\ Below w.heap.size w w'
 mw : ∀ {w S t K s}, P w S t K s -> Calls prog 18 #[.pointer (some ⟨t, 0, none⟩)] w fun e w' => ∃ v, e = .returned v /\ aQ bg w' w.heap.size v s.strs /\ Below w.heap.size w w'
 first : ∀ {w S t K s}, P w S t K s -> K <= 1000000 -> Calls prog 23 #[.pointer (some ⟨t, 0, none⟩)] w fun e w' => e = .returned (.int .u64 (s.first : Int)) /\ Below w.heap.size w w'
 No : World -> Value -> Prop
 zc : List Value
 no_nil : ∀ w : World, No w (.pointer none)
 bld0 : ∀ w : World, (Instr.build 66 #[]).run prog w = .ok (.agg zc.toArray) w
 no_zero : ∀ w : World, No (w.alloc (.cells zc.toArray 66)) (.pointer (some ⟨w.heap.size, 0, none⟩))
 no_below : ∀ {w w' : World} {v : Value}, No w v -> Below w.heap.size w w' -> No w' v
 no_put : ∀ (w : World) (v : Value) (Q : Nat), No w v -> Calls prog 13 #[v, .int .u64 (Q : Int), .slice none 0 0] w fun e w' => e = .returned (.int .i64 1) /\ Below w.heap.size w w'
 no_clean : ∀ (w : World) (v : Value) (n : Int), No w v -> Calls prog 19 #[v, .int .i64 n] w fun e w' => e = .returned (.int .i64 1) /\ Below w.heap.size w w'
 no_drop : ∀ (w : World) (v : Value) (n : Int), No w v -> Calls prog 20 #[v, .int .i64 n] w fun e w' => e = .returned (.int .i64 1) /\ Below w.heap.size w w'
 no_fits : ∀ (w : World) (v : Value), No w v -> Calls prog 24 #[v, .slice none 0 0] w fun e w' => e = .returned (.bool false) /\ Below w.heap.size w w'
 no_known : ∀ (w : World) (v : Value) (n : Int), No w v -> Calls prog 21 #[v, .int .i64 n] w fun e w' => (∃ A c, e = .returned (.slice A 0 c)) /\ Below w.heap.size w w'
 no_cells : ∀ (w : World) (v : Value) (n : Int), No w v -> Calls prog 22 #[v, .int .i64 n] w fun e w' => (∃ A c, e = .returned (.slice A 0 c)) /\ Below w.heap.size w w'
 no_dirty : ∀ (w : World) (v : Value), No w v -> Calls prog 17 #[v] w fun e w' => (∃ A c, e = .returned (.slice A 0 c)) /\ Below w.heap.size w w'
 no_stripes : ∀ (w : World) (v : Value), No w v -> Calls prog 18 #[v] w fun e w' => (∃ A c, e = .returned (.slice A 0 c)) /\ Below w.heap.size w w'
 no_first : ∀ (w : World) (v : Value), No w v -> Calls prog 23 #[v] w fun e w' => e = .returned (.int .u64 0) /\ Below w.heap.size w w'
theorem ShPr.below (D : ShPr) {w w' : World} {S : Nat -> Prop} {p K : Nat} {s : ShS} (h : D.P w S p K s) (k : Below w.heap.size w w') : D.P w' S p K s := D.only h (Only.of_below (fun _ => False) k) fun _ _ e => e
set_option linter.unusedSimpArgs false
def af7 (I : Obj -> Prop) (B : Nat) (w w' : World) : Prop := Only (fun b => B <= b /\ ∀ o, w.heap[b]? = some o -> I o) w w'
section
variable {α : Type} {E : Elt α} {ρ : Operand -> Value} {o : Oper} {x y : Operand} {w : World} {A : Option Addr} {n c k B b off : Nat} {l : List α}
theorem dV (E : Elt α) (ho : o.op = .call { callee := .builtin .len, args := #[x], argTypes := #[E.s] }) (hx : ρ x = .slice A n c) : (execOp ρ o).run prog w = .ok (.value (.int .i64 (n : Int))) w := by
 simp [execOp, ho, resolve, invoke, builtin, hx, Builtin.len_, run_underlying E.und, Result.andThen]
 rfl
theorem sd {t : TypeId} {p v : Value} (ho : o.op = .build t #[(0, x)]) (hx : ρ x = p) (h : (Instr.build t #[(0, p)]).run prog w = .ok v w) : (execOp ρ o).run prog w = .ok (.value v) w := by
 unfold execOp;simp [ho, hx, h, Result.andThen]
end
section
variable {ρ : Operand -> Value} {o : Oper} {x y : Operand} {w : World} {t r : TypeId} {v : Value} {a1 a2 : Addr}
theorem vv (op : BinOp) (t : TypeId) (x y : Operand) (a b : Option Addr) : (eqGuard op t x y (.pointer a) (.pointer b)).run prog w = .ok () w := by
 cases op <;> simp [eqGuard]
theorem nu {op : BinOp} {m n : Option Addr} (ho : o.op = .binOp op t x y r) (hx : ρ x = .pointer m) (hy : ρ y = .pointer n) (h : (binOp op t (.pointer m) (.pointer n)).run prog w = .ok v w) : (execOp ρ o).run prog w = .ok (.value v) w := by
 unfold execOp;simp only [ho, hx, hy, Sem.run_bind, vv, h, Result.andThen_ok, Sem.run_pure]
theorem wb {te : TypeId} (hp : prog.underlying t = some (.pointer te)) {j : TypeInfo} (hte : prog.info? te = some j) (hsz : j.size ≠ 0) {ca cb : Array Value} {ta tb : TypeId} (ha : w.heap[a1.block]? = some (.cells ca ta (0, 0))) (hb : w.heap[a2.block]? = some (.cells cb tb (0, 0))) (d : Nat) :
  (Op.equalIn (d + 1) t (.pointer (some a1)) (.pointer (some a2))).run prog w = .ok (decide (a1 = a2)) w := by
 by_cases h : a1 = a2
 ·subst h;simp [Op.equalIn, run_underlying hp, sizeOf, typeInfo, hte, run_sameAddr_same]
 ·simp [Op.equalIn, run_underlying hp, sizeOf, typeInfo, hte, hsz, run_sameAddr_other w h ha hb, h]
theorem nZ {te : TypeId} (hp : prog.underlying t = some (.pointer te)) (m : Option Addr) (d : Nat) : (Op.equalIn (d + 1) t (.pointer m) (.pointer none)).run prog w = .ok (decide (m = none)) w := by
 cases m <;> simp [Op.equalIn, run_underlying hp]
theorem cR {te : TypeId} {m : Option Addr} (c : Bool) (hp : prog.underlying t = some (.pointer te)) (ho : o.op = .binOp .eql t x y r) (hx : ρ x = .pointer m) (hy : ρ y = .pointer none) (h : decide (m = none) = c) : (execOp ρ o).run prog w = .ok (.value (.bool c)) w := by
 subst h;refine nu ho hx hy ?_;simp only [binOp];simp [Op.equal, Op.maxDepth, nZ hp m 9999]
theorem dz {te : TypeId} {m : Option Addr} (c : Bool) (hp : prog.underlying t = some (.pointer te)) (ho : o.op = .binOp .neq t x y r) (hx : ρ x = .pointer m) (hy : ρ y = .pointer none) (h : (!decide (m = none)) = c) : (execOp ρ o).run prog w = .ok (.value (.bool c)) w := by
 subst h;refine nu ho hx hy ?_;simp only [binOp];simp [Op.equal, Op.maxDepth, nZ hp m 9999]
theorem lB {te : TypeId} (c : Bool) (hp : prog.underlying t = some (.pointer te)) {j : TypeInfo} (hte : prog.info? te = some j) (hsz : j.size ≠ 0) (ho : o.op = .binOp .neq t x y r) (hx : ρ x = .pointer (some a1)) (hy : ρ y = .pointer (some a2))
  {ca cb : Array Value} {ta tb : TypeId} (ha : w.heap[a1.block]? = some (.cells ca ta (0, 0))) (hb : w.heap[a2.block]? = some (.cells cb tb (0, 0))) (h : (!decide (a1 = a2)) = c) : (execOp ρ o).run prog w = .ok (.value (.bool c)) w := by
 subst h;refine nu ho hx hy ?_;simp only [binOp];simp [Op.equal, Op.maxDepth, wb hp hte hsz ha hb 9999]
end
theorem vW {α : Type} (E : Elt α) (hz : E.z.cells.toList = E.cel E.d) (n : Nat) : (cH E (List.replicate n E.d)).toArray = madeCells E.z.cells (n * E.n) := by
 have hp := E.pos;apply Array.ext
 ·rw [size_madeCells, List.size_toArray, cy, List.length_replicate]
 ·intro j h1 h2;rw [size_madeCells] at h2;have hjn : j / E.n < n := Nat.div_lt_of_lt_mul (by rw [Nat.mul_comm]; exact h2);have hr : j % E.n < E.n := Nat.mod_lt _ hp;have hk : j / E.n < (List.replicate n E.d).length := by rw [List.length_replicate]; exact hjn
  have := qh E (List.replicate n E.d) hk hr;rw [Nat.div_add_mod'] at this;have hd0 : (List.replicate n E.d).getD (j / E.n) E.d = E.d := by
   rw [List.getD, List.getElem?_replicate]
   split <;> rfl
  rw [hd0, List.getElem?_eq_getElem (by simpa using h1), List.getElem?_eq_getElem (by rw [E.len]; exact hr)] at this;injection this with this;have e1 : (cH E (List.replicate n E.d)).toArray[j] = (cH E (List.replicate n E.d))[j]'(by simpa using h1) := by simp
  rw [e1, this];simp only [madeCells, Array.getElem_map, Array.getElem_range, E.zc];have hs : j % E.n < E.z.cells.size := by rw [E.zc]; exact hr
  rw [getElem!_pos E.z.cells (j % E.n) hs];have e2 : E.z.cells[j % E.n] = E.z.cells.toList[j % E.n]'(by simpa using hs) := by simp
  rw [e2];simp only [hz]
theorem qt {α : Type} {E : Elt α} {ρ : Operand -> Value} {o : Oper} {x y : Operand} {w : World} {n : Nat} (ho : o.op = .makeSlice E.s x y) (hx : ρ x = .int .i64 (n : Int)) (hy : ρ y = .int .i64 (n : Int)) (hn : n <= 1000000) :
  (execOp ρ o).run prog w = .ok (.value (.slice (some ⟨w.heap.size, 0, none⟩) n n)) (w.alloc (.cells (madeCells E.z.cells (n * E.n)) E.t)) := by
 obtain ⟨i0, hi, hz0, hz1, hz2⟩ := info_parts E.info;have hb : (i0.bytes : Int) * n <= 281474976710656 := by
  have h1 := Nat.mul_le_mul E.small hn;rw [hz2];have h2 : E.by_ * n <= 4096000000 := by simpa using h1
  have : ((E.by_ * n : Nat) : Int) <= 4096000000 := by omega
  rw [Int.natCast_mul] at this;omega
 have hr := run_make (P := prog) w E.s E.t i0 E.z E.und hi hz0 .i64 .i64 n n (by omega) (Int.le_refl _) hb (by omega);rw [hz1] at hr;simp only [Int.toNat_natCast] at hr;unfold execOp;simp only [ho, hx, hy, Sem.run_bind, hr, Result.andThen_ok, Sem.run_pure]
theorem qP {α : Type} (E : Elt α) (hz : E.z.cells.toList = E.cel E.d) (w : World) (n B : Nat) (hB : B <= w.heap.size) (hn : n <= 1000000) : aQ E (w.alloc (.cells (madeCells E.z.cells (n * E.n)) E.t)) B (.slice (some ⟨w.heap.size, 0, none⟩) n n) (List.replicate n E.d) := by
 refine aQ.of_block (heap_alloc_new w _) ?_ hB (by simp) (by unfold maxLen; omega);rw [<- vW E hz n]
section
variable {ρ : Operand -> Value} {o : Oper} {x y z : Operand} {w : World} {b off : Nat} {c : Blk}
theorem wG {ad : Addr} {a : Bool} (h : w.cell? ad = some (.bool a)) : (Instr.loadAt 4 (.pointer (some ad))).run prog w = .ok (.bool a) w := by simp [go_sem, h]
theorem za {ad : Addr} {u : Value} {a : Bool} (h : w.cell? ad = some u) (hf : w.frozen? ad = false) : (Instr.storeAt 4 (.pointer (some ad)) (.bool a)).run prog w = .ok () (w.setCell ad (.bool a)) := by simp [go_sem, h, hf]
end
def alf : Obj -> Prop
 |.cells _ t _ => t = 152 \/ t = 148 \/ t = 46
 |_ => False
theorem abE {w : World} {b o n b' o' : Nat} {vs : List Value} (h : w.there b o n) : (w.setCells b' o' vs).there b o n := World.there_setCells h b' o' vs
theorem there_drew {w : World} {b o n : Nat} (h : w.there b o n) : (World.drew w).there b o n := h
theorem akZ {a : Int} (h : -9223372036854775808 <= a /\ a <= 9223372036854775807) : IntKind.i64.wrap a = a := IntWalk.i64_in _ ⟨by omega, by omega⟩
section
variable {P : Program} {md : Region.Mode} {l : List Oper} {Q : Exit -> Act -> World -> Prop} {S : World -> Prop} {fuel : Nat} {listed : Array Bool} {a : Act} {w w1 : World} {o o' : Oper} {v : Value}
theorem lG (i : Nat) (hi : l[i]? = some o) (hr : Region.ready md l.toArray listed = [i]) (hw : Region.wanted o (yielded l.toArray a.tmps) = true) (h : (execOp a.eval o).run P w = .ok (.value v) w1)
  (hS : S w1) (hk : wpAnyH P md l.toArray Q S fuel (listed.setIfInBounds i true) (a.put o.dst v) w1) : wpAnyH P md l.toArray Q S (fuel + 1) listed a w :=
 wpAnyH_all hr (by simp) fun j hj => by
  obtain rfl : j = i := by simpa using hj
  unfold wpOp;simp only [List.getElem?_toArray, hi, hw, if_true];refine .inl ?_;unfold Oper.wp;rw [h];exact ⟨hS, hk⟩
theorem i3 (i j : Nat) {f : FuncId} {vs : Array Value} (hi : l[i]? = some o) (hj : l[j]? = some o') (hr : Region.ready md l.toArray listed = [i, j]) (hwi : Region.wanted o (yielded l.toArray a.tmps) = true) (hwj : Region.wanted o' (yielded l.toArray a.tmps) = true) (h : (execOp a.eval o).run P w = .ok (.enter f vs) w)
  (hc : Calls P f vs w fun e w' => ∃ v, e = .returned v /\ S w' /\ wpAnyH P md l.toArray Q S fuel (listed.setIfInBounds i true) (a.put o.dst v) w') (h' : (execOp a.eval o').run P w = .ok (.value v) w1) (hS : S w1)
  (hk : wpAnyH P md l.toArray Q S fuel (listed.setIfInBounds j true) (a.put o'.dst v) w1) : wpAnyH P md l.toArray Q S (fuel + 1) listed a w :=
 wpAnyH_all hr (by simp) fun z hz => by
  rcases (show z = i \/ z = j by simpa using hz) with rfl | rfl
  ·unfold wpOp;simp only [List.getElem?_toArray, hi, hwi, if_true];refine .inl ?_;unfold Oper.wp;rw [h];exact hc.mono fun e w' ⟨v, he, hk⟩ => by subst he; exact hk
  ·unfold wpOp;simp only [List.getElem?_toArray, hj, hwj, if_true];refine .inl ?_;unfold Oper.wp;rw [h'];exact ⟨hS, hk⟩
theorem ab8 {α β : Type} {F : α -> β -> Prop} {G : Prop} {T : α -> β -> Prop} (k : (∀ a b, F a b -> T a b) -> G) (h : ∀ a b, F a b -> T a b) : G := k h
end
structure ShI (C : gZ) extends ShPr where
 read : ∀ {w G S q p t K h s} (n m : Int), C.J w G q p h -> P w S t K s -> CrG w G -> ¬ S 0 -> (∀ b, G b -> ¬ S b) -> vK s h n m -> Calls prog 15 #[.pointer (some ⟨t, 0, none⟩), .pointer (some ⟨p, 0, none⟩), .agg #[.int .i64 n, .int .i64 m]] w fun e w' => e = .returned (.tuple #[blk (fC s h n m).2.1, .int .i64 (fC s h n m).1]) /\
  ∃ G' S', C.J w' G' q p (fC s h n m).2.2.2 /\ P w' S' t K (fC s h n m).2.2.1 /\ (∀ b, G' b -> ¬ S' b) /\ Only (fun b => G b \/ S b) w w' /\ Grow w G G' /\ Grow w S S'
 read_no : ∀ {w S t K s} (n m : Int), P w S t K s -> Calls prog 15 #[.pointer (some ⟨t, 0, none⟩), .pointer none, .agg #[.int .i64 n, .int .i64 m]] w fun e w' => (∃ b : Blk, e = .returned (.tuple #[blk b, .int .i64 1])) /\ Below w.heap.size w w'
 no_read : ∀ (w : World) (v : Value) (G : Nat -> Prop) (q p : Nat) (h : HuS) (n m : Int), No w v -> C.J w G q p h -> Calls prog 15 #[v, .pointer (some ⟨p, 0, none⟩), .agg #[.int .i64 n, .int .i64 m]] w fun e w' => (∃ b : Blk, e = .returned (.tuple #[blk b, .int .i64 1])) /\ Below w.heap.size w w'
def SAt (C : gZ) (D : ShI C) (w0 : World) (B : Nat) (O : Nat -> Prop) (w : World) (q p t K : Nat) (h : HuS) (s : ShS) : Prop := ∃ G S, C.J w G q p h /\ D.P w S t K s /\ (∀ b, G b -> ¬ S b) /\ (∀ b, G b \/ S b -> B <= b) /\ Below B w0 w /\ ol w0 B /\ ∀ b, O b -> ¬ G b /\ ¬ S b /\ b < w.heap.size
section
variable {C : gZ} {D : ShI C} {w0 w w' : World} {B q p t K K' : Nat} {O O' : Nat -> Prop} {h h' : HuS} {s s' : ShS}
theorem SAt.bel (a : SAt C D w0 B O w q p t K h s) : Below B w0 w := by obtain ⟨G, S, h1, h2, h3, h4, h5, _⟩ := a; exact h5
theorem SAt.guard (a : SAt C D w0 B O w q p t K h s) (k : Below w.heap.size w w') (hO : ∀ b, O' b -> O b \/ (w.heap.size <= b /\ b < w'.heap.size)) : SAt C D w0 B O' w' q p t K h s := by
 obtain ⟨G, S, h1, h2, h3, h4, h5, h6, h7⟩ := a;have hs := k.size;refine ⟨G, S, C.below h1 k, D.below h2 k, h3, h4, h5.trans (k.mono (ar h6.le h5.size)), h6, fun b hb => ?_⟩;rcases hO b hb with e | ⟨e1, e2⟩
 ·obtain ⟨g1, g2, g3⟩ := h7 b e;exact ⟨g1, g2, by omega⟩
 ·exact ⟨fun hg => by have := C.lt h1 b hg; omega, fun hg => by have := D.lt h2 b hg; omega, e2⟩
theorem SAt.below (a : SAt C D w0 B O w q p t K h s) (k : Below w.heap.size w w') : SAt C D w0 B O w' q p t K h s := a.guard k fun b e => .inl e
theorem SAt.turn {G S G' S' : Nat -> Prop} (h4 : ∀ b, G b \/ S b -> B <= b) (h5 : Below B w0 w) (h6 : ol w0 B) (h7 : ∀ b, O b -> ¬ G b /\ ¬ S b /\ b < w.heap.size) (k1 : C.J w' G' q p h') (k2 : D.P w' S' t K' s') (kd : ∀ b, G' b -> ¬ S' b) (k3 : Only (fun b => G b \/ S b) w w') (k4 : Grow w G G') (k5 : Grow w S S') : SAt C D w0 B O w' q p t K' h' s' /\ ci O w w' := by
 have hs := ar h6.le h5.size;have hs2 := k3.size;refine ⟨⟨G', S', k1, k2, kd, fun b hb => ?_, h5.trans (k3.below h4 hs), h6, fun b hb => ?_⟩, fun b hb => k3.block b (h7 b hb).2.2 fun e => e.elim (h7 b hb).1 (h7 b hb).2.1⟩
 ·rcases hb with e | e
  ·rcases k4 b e with y | y
   ·exact h4 b (.inl y)
   ·omega
  ·rcases k5 b e with y | y
   ·exact h4 b (.inr y)
   ·omega
 ·obtain ⟨g1, g2, g3⟩ := h7 b hb;refine ⟨fun hg => ?_, fun hg => ?_, by omega⟩
  ·rcases k4 b hg with e | e
   ·exact g1 e
   ·omega
  ·rcases k5 b hg with e | e
   ·exact g2 e
   ·omega
theorem SAt.read (n m : Int) (a : SAt C D w0 B O w q p t K h s) (hp : vK s h n m) {x : Int × Blk × ShS × HuS} (hx : fC s h n m = x) : Calls prog 15 #[.pointer (some ⟨t, 0, none⟩), .pointer (some ⟨p, 0, none⟩), .agg #[.int .i64 n, .int .i64 m]] w fun e w' => e = .returned (.tuple #[blk x.2.1, .int .i64 x.1]) /\ SAt C D w0 B O w' q p t K x.2.2.2 x.2.2.1 /\ ci O w w' := by
 subst hx;obtain ⟨G, S, h1, h2, h3, h4, h5, h6, h7⟩ := a;exact (D.read n m h1 h2 (h6.crg h5 fun b e => h4 b (.inl e)) (fun e => by have := h6.lo; have := h4 _ (.inr e); omega) h3 hp).mono fun e w' ⟨k0, G', S', k1, k2, kd, k3, k4, k5⟩ => ⟨k0, SAt.turn h4 h5 h6 h7 k1 k2 kd k3 k4 k5⟩
theorem SAt.shelf {I : FuncId} {vs : Array Value} {v : Value} (a : SAt C D w0 B O w q p t K h s) (hc : ∀ S, D.P w S t K s -> (∀ b, O b -> ¬ S b) -> Calls prog I vs w fun e w' => e = .returned v /\ ∃ S', D.P w' S' t K' s' /\ Only S w w' /\ Grow w S S') : Calls prog I vs w fun e w' => e = .returned v /\ SAt C D w0 B O w' q p t K' h s' /\ ci O w w' := by
 obtain ⟨G, S, h1, h2, h3, h4, h5, h6, h7⟩ := a;refine (hc S h2 fun b hb => (h7 b hb).2.1).mono fun e w' ⟨k0, S', k2, k3, k5⟩ => ⟨k0, SAt.turn h4 h5 h6 h7 (C.only h1 k3 h3) k2 (fun b hg hs => ?_) (k3.widen fun b hb => .inr hb) (Grow.same _ _) k5⟩
 rcases k5 b hs with y | y
 ·exact h3 b hg y
 ·have := C.lt h1 b hg; omega
theorem SAt.ajx {I : FuncId} {vs : Array Value} {v : Value} (a : SAt C D w0 B O w q p t K h s) (hc : ∀ G, C.J w G q p h -> CrG w G -> Calls prog I vs w fun e w' => e = .returned v /\ ∃ G', C.J w' G' q p h' /\ Only G w w' /\ Grow w G G') : Calls prog I vs w fun e w' => e = .returned v /\ SAt C D w0 B O w' q p t K h' s /\ ci O w w' := by
 obtain ⟨G, S, h1, h2, h3, h4, h5, h6, h7⟩ := a;refine (hc G h1 (h6.crg h5 fun b e => h4 b (.inl e))).mono fun e w' ⟨k0, G', k1, k3, k4⟩ => ⟨k0, SAt.turn h4 h5 h6 h7 k1 (D.only h2 k3 fun b hb hg => h3 b hg hb) (fun b hg hs => ?_) (k3.widen fun b hb => .inl hb) k4 (Grow.same _ _)⟩
 rcases k4 b hg with y | y
 ·exact h3 b y hs
 ·have := D.lt h2 b hs; omega
theorem SAt.look {I : FuncId} {vs : Array Value} {Q : Ending -> World -> Prop} (a : SAt C D w0 B O w q p t K h s) (hc : ∀ S, D.P w S t K s -> Calls prog I vs w Q) : Calls prog I vs w Q := by
 obtain ⟨G, S, h1, h2, _⟩ := a;exact hc S h2
end
structure KpI (N k i : Nat) (b : Blk) (s : ShS) : Prop where
 ok : co s
 n : s.N = N
 t : s.T = 8
 room : s.room = 2
 ln : ∃ x, s.ln k = some x /\ dj x i = ⟨true, true, b⟩
 dt : ∀ j, s.dty j = decide (j = k)
 hk : k < 8
 hi : i < N
section
variable {N k i : Nat} {b : Blk} {s : ShS}
theorem ac9 (s : ShS) (n : Nat) (x y : Option LnS) : (s.dk n x).dk n y = s.dk n y := by
 have : (fun j => if j = n then y else if j = n then x else s.ln j) = fun j => if j = n then y else s.ln j := by
  funext j
  split <;> rfl
 unfold ShS.dk;exact congrArg (fun f => ({ s with ln := f } : ShS)) this
theorem tS {d : Nat -> Bool} (h : ∀ j, d j = decide (j = k)) : ∀ n, lO d n = if k < n then [(k : Int)] else []
 |0 => by rw [lO, if_neg (Nat.not_lt_zero _)]
 |n + 1 => by
  rw [lO, tS h n, h n];by_cases e : n = k
  ·subst e;rw [if_neg (Nat.lt_irrefl _), ao rfl, if_pos rfl, if_pos (Nat.lt_succ_self _)]
   rfl
  ·rw [am e, if_neg Bool.false_ne_true, List.append_nil];by_cases h1 : k < n
   ·rw [if_pos h1, if_pos (by omega)]
   ·rw [if_neg h1, if_neg (by omega)]
theorem KpI.cP (h : KpI N k i b s) : s.cP = [(k : Int)] := by
 unfold ShS.cP;rw [tS h.dt, h.t, if_pos h.hk]
theorem KpI.strs (h : KpI N k i b s) : s.strs.length <= 2 := by
 unfold ShS.strs;rw [List.length_map];have := h.ok.len;rw [h.room] at this;exact this
theorem KpI.plc (h : KpI N k i b s) : s.plc (k : Int) (i : Int) = true := by
 unfold ShS.plc;rw [h.n, h.t];have := h.hk;have := h.hi;exact ao (by omega)
theorem KpI.get (h : KpI N k i b s) : s.knw k (i : Int) = true /\ (lnG (s.bZ k) (i : Int)).b = b := by
 obtain ⟨x, hx, hc⟩ := h.ln;have hl := (h.ok.ok k x hx).2;unfold ShS.knw;rw [dp hx, yA (by rw [hl, h.n]; exact h.hi), hc];exact ⟨rfl, rfl⟩
theorem KpI.own (h : KpI N k i b s) (u : HuS) : fC s u (k : Int) (i : Int) = (0, b, s.tch k, u) /\ vK s u (k : Int) (i : Int) := by
 obtain ⟨g1, g2⟩ := h.get;refine ⟨?_, fun _ e => ?_⟩
 ·unfold fC;rw [if_pos h.plc, Int.toNat_natCast, if_pos g1, g2]
 ·rw [Int.toNat_natCast, g1] at e;cases e
theorem KpI.tch (h : KpI N k i b s) {n : Nat} (hn : n < 8) : KpI N k i b (s.tch n) := by
 obtain ⟨e1, e2, e3⟩ := s.mO n;refine ⟨h.ok.tch (by rw [h.t]; exact hn), e1.trans h.n, e2.trans h.t, e3.trans h.room, ?_, fun j => by rw [h.ok.oH]; exact h.dt j, h.hk, h.hi⟩;obtain ⟨x, hx, hc⟩ := h.ln;exact ⟨x, by rw [h.ok.ns (by rw [h.dt]; exact ao rfl)]; exact hx, hc⟩
theorem aab {x : LnS} (m : Nat) (c : Blk) (hm : m < x.l.length) (hk : (dj x m).kn = false) (hx : dQ x) : kv (fA x (m : Int) c) = kv x := by
 have hd : (dj x m).dt = false := by rw [hx.no m hm hk]; rfl
 rw [nt hm hk];unfold kv lnD;have : ∀ n, gu (x.l.set m ⟨true, false, c⟩) n = gu x.l n := fun n => by
  induction n with
  |zero => rfl
  |succ n ih =>
   rw [gu, gu, ih, fv _ _ _ _ _ hm];by_cases e : n = m
   ·subst e;rw [if_pos rfl];have hd' : (x.l.getD n lc0).dt = false := hd;rw [hd']
   ·rw [if_neg e]
 rw [List.length_set, this]
theorem KpI.read (h : KpI N k i b s) (u : HuS) (n m : Int) : KpI N k i b (fC s u n m).2.2.1 := by
 unfold fC
 split
 ·rename_i hp
  obtain ⟨n', i', rfl, hn, rfl, hi'⟩ := f7 hp;rw [h.t] at hn;rw [Int.toNat_natCast]
  split
  ·exact h.tch hn
  ·rename_i hkn
   show KpI N k i b (if _ then _ else s)
   split
   ·rename_i e
    have ht := h.tch hn;have hq := gW e.2;have hlk : (s.tch n').bZ n' = s.bZ n' := dp hq;rw [hlk];have hl := h.ok.line n';have hil : i' < (s.bZ n').l.length := by rw [hl.2]; exact hi'
    have hkf : (dj (s.bZ n') i').kn = false := by
     unfold ShS.knw at hkn;rw [yA hil] at hkn
     simpa using hkn
    refine ⟨ht.ok.dk ((ht.ok.mem n').2 (by rw [hq]; rfl)) (dQ.lrn hl.1 _ _) (by rw [yP, hl.2]; exact (s.mO n').1.symm), ht.n, ht.t, ht.room, ?_, fun j => ?_, h.hk, h.hi⟩
    ·rw [cw];by_cases ek : k = n'
     ·subst ek;rw [if_pos rfl];refine ⟨_, rfl, ?_⟩;obtain ⟨x, hx, hc⟩ := h.ln;rw [dp hx] at hil hkf ⊢;have hne : i ≠ i' := fun e => by subst e; rw [hc] at hkf; cases hkf
      rw [nt hil hkf]
      show (x.l.set i' _).getD i lc0 = _
      rw [fv _ _ _ _ _ hil, if_neg hne];exact hc
     ·rw [if_neg ek];exact ht.ln
    ·by_cases ej : j = n'
     ·subst ej;rw [gq (x := fA (s.bZ j) i' (ik u j i').2.1) (by rw [cw, if_pos rfl]), aab i' _ hil hkf hl.1, qK];exact h.dt j
     ·rw [jf (s := s.tch n') (by rw [cw, if_neg ej])];exact ht.dt j
   ·exact h
 ·exact h
theorem KpI.start (h1 : 3 <= N) (h2 : N <= 16) (hk : k < 8) (hi : i < N) (b : Blk) : gC (fe N 8 2) 1 [⟨(k : Int), (i : Int), b⟩] = 0 /\ KpI N k i b (ji (fe N 8 2) 1 [⟨(k : Int), (i : Int), b⟩]) := by
 have hok : co (fe N 8 2) := co.new h1 h2 (by omega) (by omega) (by omega) (by omega);have hd : (fe N 8 2).cP = [] := by
  unfold ShS.cP;have : ∀ n, lO (fe N 8 2).dty n = [] := fun n => by
   induction n with
   |zero => rfl
   |succ n ih => rw [lO, ih]; rfl
  exact this _
 have hq : gC (fe N 8 2) 1 [⟨(k : Int), (i : Int), b⟩] = 0 := by
  unfold gC;have hp : (fe N 8 2).plc (k : Int) (i : Int) = true := by
   unfold ShS.plc;exact ao (by show 0 <= (k : Int) /\ (k : Int) < ((8 : Nat) : Int) /\ 0 <= (i : Int) /\ (i : Int) < (N : Int); omega)
  have hf : (fe N 8 2).fits [(k : Int)] = true := by
   unfold ShS.fits;rw [hd];exact ao (by show (fm [] [(k : Int)]).length <= 2; simp [fm])
  rw [if_pos (by simp [hp]), if_neg (by decide)];exact if_pos hf
 refine ⟨hq, ?_⟩;have hok2 := hok.put (q := 1) (by omega) [⟨(k : Int), (i : Int), b⟩];have ht : (fe N 8 2).eH k = true := rfl;have hs1 : dH 1 (fe N 8 2) ⟨(k : Int), (i : Int), b⟩ = ((fe N 8 2).tch k).dk k (some (eG (dC N) (i : Int) b 1)) := by
  unfold dH;rw [Int.toNat_natCast, dp (gW ht)]
  rfl
 have hlen : i < (dC N).l.length := by simp [dC]; exact hi
 obtain ⟨y, hy⟩ : ∃ y, eG (dC N) (i : Int) b 1 = y := ⟨_, rfl⟩;have hyi : dj y i = ⟨true, true, b⟩ := by
  rw [<- hy, na hlen (by decide)]
  show ((dC N).l.set i _).getD i lc0 = _
  rw [fv _ _ _ _ _ hlen, if_pos rfl]
 have hyl : y.l.length = N := by rw [<- hy, tF]; simp [dC]
 rw [hy] at hs1;have hfin : ∃ z, ji (fe N 8 2) 1 [⟨(k : Int), (i : Int), b⟩] = ((fe N 8 2).tch k).dk k (some z) /\ dj z i = ⟨true, true, b⟩ /\ z.l.length = N := by
  unfold ji;rw [if_pos hq]
  show ∃ z, cU _ (dH 1 (fe N 8 2) ⟨(k : Int), (i : Int), b⟩) ⟨(k : Int), (i : Int), b⟩ = _ /\ _
  rw [hs1];unfold cU
  split
  ·exact ⟨y, rfl, hyi, hyl⟩
  ·rename_i hpar
   have hne : i ≠ N - 1 - k % N := fun e => hpar (by
    unfold qV;rw [Int.toNat_natCast]
    show (decide ((k : Int) = (k : Int)) && decide ((i : Int) = ((N - 1 - k % N : Nat) : Int)) || false) = true
    rw [<- e];simp)
   rw [Int.toNat_natCast];have hlk : (((fe N 8 2).tch k).dk k (some y)).bZ k = y := dp (by rw [cw, if_pos rfl]);have hNN : (((fe N 8 2).tch k).dk k (some y)).N = N := rfl;have hpl : N - 1 - k % N < y.l.length := by rw [hyl]; omega
   rw [hlk, hNN, vH hpl];refine ⟨⟨y.l.set (N - 1 - k % N) lc0, y.f⟩, ?_, ?_, ?_⟩
   ·exact ac9 _ _ _ _
   ·show (y.l.set _ lc0).getD i lc0 = _
    rw [fv _ _ _ _ _ hpl, if_neg hne];exact hyi
   ·show (y.l.set _ _).length = N
    rw [List.length_set, hyl]
 obtain ⟨z, hz, hzi, hzl⟩ := hfin;rw [hz] at hok2 ⊢;refine ⟨hok2, rfl, rfl, rfl, ⟨z, by rw [cw, if_pos rfl], hzi⟩, fun j => ?_, hk, hi⟩;by_cases e : j = k
 ·subst e;rw [gq (x := z) (by rw [cw, if_pos rfl]), ao rfl];exact pX (k := i) (by rw [hzi]) (by rw [hzl]; exact hi)
 ·rw [jf (s := (fe N 8 2).tch k) (by rw [cw, if_neg e]), hok.oH, am e]
  rfl
end
theorem xo (a b : Int) (w : World) : (Instr.build 24 #[(0, .int .i64 a), (1, .int .i64 b), (2, .int .i64 40)]).run prog w = .ok (.agg #[.int .i64 a, .int .i64 b, .int .i64 40]) w := by kernel_rfl
theorem tV {ρ : Operand -> Value} {o : Oper} {x y z : Operand} {w : World} {a b : Int} (ho : o.op = .build 24 #[(0, x), (1, y), (2, z)]) (hx : ρ x = .int .i64 a) (hy : ρ y = .int .i64 b) (hz : ρ z = .int .i64 40) : (execOp ρ o).run prog w = .ok (.value (.agg #[.int .i64 a, .int .i64 b, .int .i64 40])) w := by
 unfold execOp;simp only [ho, hx, hy, hz, List.map_toArray, List.map_cons, List.map_nil, Sem.run_bind, xo, Result.andThen_ok, Sem.run_pure]
theorem acE : (prog.info? 24).map (fun i => i.zero) = some (some (.agg ([.int .i64 0, .int .i64 0, .int .i64 0] : List Value).toArray)) := by kernel_rfl
theorem o9 (A B : Option Addr) (n m c d N : Nat) (a b : List Int) (w : World) (ha : RdE bg w N A n a) (hb : RdE bg w N B m b) (hN : N <= w.heap.size) (hn : n <= maxLen) :
  Calls prog 16 #[.slice A n c, .slice B m d] w fun e w' => e = .returned (.bool (lU a b)) /\ Below w.heap.size w w' := by
 unfold maxLen at hn;by_cases hnm : n = m
 ·subst hnm;go_enter func16, ntmps16;go_wp2
  go_loopw [5] (fun i wr => ∃ k : Nat, k <= n /\ i = .int .i64 k /\ (∀ j, j < k -> a.getD j 0 = b.getD j 0) /\ Below w.heap.size w wr) (fun i _ => n - (intOf i).toNat)
  case atStart => exact ⟨0, Nat.zero_le _, rfl, fun j hj => absurd hj (by omega), ak⟩
  case round =>
   obtain ⟨k, hk, rfl, hj, hbl⟩ := hrel;by_cases hlt : k < n
   ·obtain ⟨bA, oA, rfl, hA, cA⟩ := (ha.below (hbl.mono hN)).int hlt;obtain ⟨bB, oB, rfl, hB, cB⟩ := (hb.below (hbl.mono hN)).int hlt;have hidj := ae hj;clear hj;generalize hx : a.getD k 0 = x at *;generalize hy : b.getD k 0 = y at *;have HX := ae hx;have HY := ae hy;clear hx hy;go_wp2
    go_quiet (fail)
    go_wp2
    ·have hd : (x != y) = true := by assumption
     go_ret;refine ⟨?_, bdn hbl _⟩;have : lU a b = false := by
      simp only [lU, beq_eq_false_iff_ne];rintro rfl;have := HX.out.symm.trans HY;simp [this] at hd
     rw [this]; rfl
    ·have hd : (x != y) = false := by assumption
     go_roundw
     case rel =>
      refine ⟨k + 1, by omega, by go_num, ?_, bdn hbl _⟩;intro j hj;by_cases h : j = k
      ·subst h;rw [HX.out, HY.out]
       simpa using hd
      ·exact hidj.out j (by omega)
     case measure => simp [intOf]; omega
   ·go_wp2;go_ret;refine ⟨?_, hbl⟩;have : lU a b = true := by
     simp only [lU, beq_iff_eq];exact aeR (by rw [ha.1, hb.1]) fun j h => hj j (by have := ha.1; omega)
    rw [this]; rfl
 ·have hne : ((n : Int) != (m : Int)) = true := by simp; omega
  go_enter func16, ntmps16;go_wp2;go_ret;refine ⟨?_, ak⟩;have : lU a b = false := by
   have h1 := ha.1;have h2 := hb.1;simp only [lU, beq_eq_false_iff_ne];rintro rfl;omega
  rw [this]; rfl
theorem y8 (a N : Nat) (w : World) (ha : a < 256) (hN : 3 + a % 4 = N) : Calls prog 6 #[.int .u8 (a : Int)] w fun e w' => e = .returned (geo (neR N 8)) /\ Below w.heap.size w w' := by
 have HB1 : Hid (Below w.heap.size w (w.alloc (.cells ([.int .i64 (N : Int), .int .i64 8, .int .i64 40] : List Value).toArray 24))) := ae (ak.alloc aj _);have HR := ae (dc w [.int .i64 (N : Int), .int .i64 8, .int .i64 40] 24);have HRA : Hid ((a : Int).tmod 4 = ((a % 4 : Nat) : Int)) := ae rfl;have HCA : Hid (IntKind.i64.wrap ((a % 4 : Nat) : Int) = ((a % 4 : Nat) : Int)) := ae (eF (by omega));have HAA : Hid (IntKind.i64.wrap (3 + ((a % 4 : Nat) : Int)) = (N : Int)) := ae (by rw [eF (by omega)]; omega);clear ha hN;go_enter func6, ntmps6;go_upto_region 0 with fail;refine af ?_;refine alM (dR (cs := [.int .i64 0, .int .i64 0, .int .i64 0]) acE rfl) ?_;refine ah ?_;go_upto_region 1 with fail;refine aJ 1 ?_;refine alM (aaF rfl alW evk (by decide) HRA) ?_;refine alM (vE rfl alW HCA) ?_;refine alM (bP rfl evk alW HAA) ?_;refine alM (tV rfl alW evk evk) ?_;refine aG rfl (gF (cs := [.int .i64 (N : Int), .int .i64 8, .int .i64 40]) (ds := [.int .i64 0, .int .i64 0, .int .i64 0]) (by kernel_rfl) rfl (by intro v hv; simp only [List.mem_cons, List.not_mem_nil, or_false] at hv; rcases hv with rfl | rfl | rfl <;> rfl) rfl (ev rfl) (ev rfl)) ?_;simp only [aa];refine ah ?_;go_wp2_with fail;exact bodyPost_ret (mR rfl _ _ _ rfl HR underlying24 rfl (by kernel_rfl)) rfl ⟨rfl, HB1⟩
def lp_ (n : Int) : dP := ⟨n, 0, aF⟩
def ls0 : ShS := fe 3 8 2
def ls1 : ShS := ji ls0 1 [lp_ 0]
def ls2 : ShS := ji ls1 2 [lp_ 1]
def ls3 : ShS := ji ls2 3 [lp_ 2]
def ls4 : ShS := ji ls3 0 []
theorem lq1 : gC ls0 1 [lp_ 0] = 0 := by decide +kernel
theorem lq2 : gC ls1 2 [lp_ 1] = 0 := by decide +kernel
theorem lq3 : gC ls2 3 [lp_ 2] = 10 := by decide +kernel
theorem lq4 : gC ls3 0 [] = 2 := by decide +kernel
theorem ld4 : ls4.cP = [0, 1] := by decide +kernel
theorem lf4 : ls4.first = 1 := by decide +kernel
theorem le4 : shE ls4 0 = 0 := by decide +kernel
theorem lf5 : (i8 ls4 0).first = 2 := by decide +kernel
theorem aks (w : World) : (Instr.build 56 #[]).run prog w = .ok (clV (cG (lp_ 0))) w := by kernel_rfl
theorem akG (n : Int) (w : World) : (Instr.build 43 #[(0, .int .i64 n)]).run prog w = .ok (plV n 0) w := by kernel_rfl
theorem qL {ρ : Operand -> Value} {o : Oper} {x : Operand} {w : World} {n : Int} (ho : o.op = .build 43 #[(0, x)]) (hx : ρ x = .int .i64 n) : (execOp ρ o).run prog w = .ok (.value (plV n 0)) w := by
 unfold execOp;simp [ho, hx, akG, Result.andThen]
theorem akc (n : Int) (w : World) : (Instr.build 56 #[(0, plV n 0)]).run prog w = .ok (clV (cG (lp_ n))) w := by kernel_rfl
theorem pS {ρ : Operand -> Value} {o : Oper} {x : Operand} {w : World} {n : Int} (ho : o.op = .build 56 #[(0, x)]) (hx : ρ x = plV n 0) : (execOp ρ o).run prog w = .ok (.value (clV (cG (lp_ n)))) w := by
 unfold execOp;simp [ho, hx, akc, Result.andThen]
theorem akE (w : World) : (Instr.buildSlice 48 2 #[(0, .int .i64 0), (1, .int .i64 1)]).run prog w = .ok (.slice (some ⟨w.heap.size, 0, none⟩) 2 2) (w.alloc (.cells #[.int .i64 0, .int .i64 1] 3)) := by kernel_rfl
theorem xk {ρ : Operand -> Value} {o : Oper} {x y : Operand} {w : World} (ho : o.op = .buildSlice 48 2 #[(0, x), (1, y)]) (hx : ρ x = .int .i64 0) (hy : ρ y = .int .i64 1) : (execOp ρ o).run prog w = .ok (.value (.slice (some ⟨w.heap.size, 0, none⟩) 2 2)) (w.alloc (.cells #[.int .i64 0, .int .i64 1] 3)) := by
 unfold execOp;simp only [ho, hx, hy, List.map_toArray, List.map_cons, List.map_nil, Sem.run_bind, akE, Result.andThen_ok, Sem.run_pure]
def LvS (D : ShPr) (w0 : World) (t K : Nat) (s : ShS) (w : World) : Prop := ∃ S, D.P w S t K s /\ (∀ b, S b -> w0.heap.size <= b) /\ Below w0.heap.size w0 w
section
variable {D : ShPr} {w0 w w' : World} {t K Q : Nat} {s : ShS}
theorem LvS.bel (a : LvS D w0 t K s w) : Below w0.heap.size w0 w := by obtain ⟨S, h1, h2, h3⟩ := a; exact h3
theorem LvS.below (a : LvS D w0 t K s w) (k : Below w.heap.size w w') : LvS D w0 t K s w' := by
 obtain ⟨S, h1, h2, h3⟩ := a;exact ⟨S, D.below h1 k, h2, h3.trans (k.mono h3.size)⟩
theorem LvS.put (a : LvS D w0 t K s w) (pc : dP) (hQ : Q < 18446744073709551616) (hK : K + 1 <= 1000000) : Calls prog 13 #[.pointer (some ⟨t, 0, none⟩), .int .u64 (Q : Int), .slice (some ⟨w.heap.size, 0, none⟩) 1 1] (w.alloc (.cells (cd.cel (cG pc)).toArray cd.t)) fun e w' => e = .returned (.int .i64 (gC s Q [pc])) /\ LvS D w0 t (K + 1) (ji s Q [pc]) w' := by
 obtain ⟨S, h1, h2, h3⟩ := a;have hb := (Below.refl w.heap.size w).alloc aj (.cells (cd.cel (cG pc)).toArray cd.t);have hsz : (w.alloc (.cells (cd.cel (cG pc)).toArray cd.t)).heap.size = w.heap.size + 1 := al;have hr : RdE cd (w.alloc (.cells (cd.cel (cG pc)).toArray cd.t)) (w.alloc (.cells (cd.cel (cG pc)).toArray cd.t)).heap.size (some ⟨w.heap.size, 0, none⟩) 1 ([pc].map cG) := by rw [hsz]; exact uz w (cG pc)
 refine (D.put (D.below h1 hb) hQ hK hr rfl aj (by unfold maxLen; decide) (fun x e _ hs => ?_)).mono ?_
 ·injection e with e;subst e;have := D.lt h1 _ hs;simp at this
 ·rintro e w' ⟨k0, S', k1, k2, k3⟩;have h4 := h3.alloc h3.size (.cells (cd.cel (cG pc)).toArray cd.t);refine ⟨k0, S', k1, fun b hb => ?_, h4.trans (k2.below h2 h4.size)⟩;rcases k3 b hb with y | y
  ·exact h2 b y
  ·exact ar h4.size y
theorem LvS.alC (a : LvS D w0 t K s w) (hQ : Q < 18446744073709551616) (hK : K <= 1000000) : Calls prog 13 #[.pointer (some ⟨t, 0, none⟩), .int .u64 (Q : Int), .slice none 0 0] w fun e w' => e = .returned (.int .i64 (gC s Q [])) /\ LvS D w0 t K (ji s Q []) w' := by
 obtain ⟨S, h1, h2, h3⟩ := a;refine (D.put (nc := 0) (c := []) h1 hQ hK (RdE.nil _ _ _) rfl aj (Nat.zero_le _) (fun x e h hs => by omega)).mono ?_;rintro e w' ⟨k0, S', k1, k2, k3⟩;refine ⟨k0, S', k1, fun b hb => ?_, h3.trans (k2.below h2 h3.size)⟩;rcases k3 b hb with y | y
 ·exact h2 b y
 ·exact ar h3.size y
theorem LvS.clean (n : Int) (a : LvS D w0 t K s w) : Calls prog 19 #[.pointer (some ⟨t, 0, none⟩), .int .i64 n] w fun e w' => e = .returned (.int .i64 (shE s n)) /\ LvS D w0 t K (i8 s n) w' := by
 obtain ⟨S, h1, h2, h3⟩ := a;refine (D.clean n h1).mono ?_;rintro e w' ⟨k0, S', k1, k2, k3⟩;refine ⟨k0, S', k1, fun b hb => ?_, h3.trans (k2.below h2 h3.size)⟩;rcases k3 b hb with y | y
 ·exact h2 b y
 ·exact ar h3.size y
theorem LvS.cP (a : LvS D w0 t K s w) : Calls prog 17 #[.pointer (some ⟨t, 0, none⟩)] w fun e w' => ∃ v, e = .returned v /\ aQ bg w' w.heap.size v s.cP /\ Below w.heap.size w w' := by
 obtain ⟨S, h1, _⟩ := a; exact D.cP h1
theorem LvS.first (a : LvS D w0 t K s w) (hK : K <= 1000000) : Calls prog 23 #[.pointer (some ⟨t, 0, none⟩)] w fun e w' => e = .returned (.int .u64 (s.first : Int)) /\ Below w.heap.size w w' := by
 obtain ⟨S, h1, _⟩ := a; exact D.first h1 hK
end
theorem zP (D : ShPr) (w : World) : Calls prog 9 #[] w fun e w' => e = .returned (.bool true) /\ Below w.heap.size w w' := by
 go_enter func9, ntmps9;go_upto_region 1 with fail;refine af ?_;refine ay rfl (aB call6 rfl (evc evk evn)) ?_;refine (y8 0 3 w (by omega) rfl).mono ?_;rintro e w1 ⟨rfl, b1⟩;have B1 := ae b1;clear b1;refine aR ?_;refine ay rfl (aB call7 rfl (evc alW (evc evk evn))) ?_;refine (D.new_ok (N := 3) (T := 8) (room := 2) (r := 40) w1 (by decide) (by omega) (by omega)).mono ?_;rintro e w2 ⟨t, S, rfl, p2, b2, s2⟩;have HL0 : Hid (LvS D w t 0 ls0 w2) := ae ⟨S, p2, fun b hb => ar B1.out.size (s2 b hb), B1.out.trans (b2.mono B1.out.size)⟩;clear p2 b2 s2;refine aR ?_;refine runs 3 ?_;refine aH 2 ?_;go_upto_region 2 with fail;refine aJ 1 ?_;refine alM (aN false rfl alW evk rfl) ?_;refine runs 2 ?_;refine alT (cR false underlying26 rfl alW evk rfl) ?_;refine aH 1 ?_;go_upto_region 4 with fail;refine aJ 1 ?_;refine alM (lE rfl (aks _)) ?_;refine alM (da (E := cd) (a := cG (lp_ 0)) rfl alW rfl (by decide)) ?_;refine ay rfl (aB call13 rfl (evc alW (evc evk (evc alW evn)))) ?_;refine (HL0.out.put (Q := 1) (lp_ 0) (by omega) (by omega)).mono ?_;rintro e w3 ⟨rfl, h⟩;rw [show gC ls0 1 [lp_ 0] = 0 from lq1];have HL1 : Hid (LvS D w t 1 ls1 w3) := ae h;clear h;refine aR ?_;refine aH 1 ?_;go_upto_region 5 with fail;refine aJ 1 ?_;refine alM (qL (n := 1) rfl evk) ?_;refine alM (pS (n := 1) rfl alW) ?_;refine alM (da (E := cd) (a := cG (lp_ 1)) rfl alW rfl (by decide)) ?_;refine ay rfl (aB call13 rfl (evc alW (evc evk (evc alW evn)))) ?_;refine (HL1.out.put (Q := 2) (lp_ 1) (by omega) (by omega)).mono ?_;rintro e w4 ⟨rfl, h⟩;rw [lq2];have HL2 : Hid (LvS D w t 2 ls2 w4) := ae h;clear h;refine aR ?_;refine aH 1 ?_;go_upto_region 6 with fail;refine aJ 1 ?_;refine alM (qL (n := 2) rfl evk) ?_;refine alM (pS (n := 2) rfl alW) ?_;refine alM (da (E := cd) (a := cG (lp_ 2)) rfl alW rfl (by decide)) ?_;refine ay rfl (aB call13 rfl (evc alW (evc evk (evc alW evn)))) ?_;refine (HL2.out.put (Q := 3) (lp_ 2) (by omega) (by omega)).mono ?_;rintro e w5 ⟨rfl, h⟩;rw [lq3];have HL3 : Hid (LvS D w t 3 ls3 w5) := ae h;clear h;refine aR ?_;refine aH 1 ?_;go_upto_region 7 with fail;refine aJ 1 ?_;refine ay rfl (aB call13 rfl (evc alW (evc evk (evc evk evn)))) ?_;refine (HL3.out.alC (Q := 0) (by omega) (by omega)).mono ?_;rintro e w6 ⟨rfl, h⟩;rw [lq4];have HL4 : Hid (LvS D w t 3 ls4 w6) := ae h;clear h;refine aR ?_;refine alM (aI true rfl alW evk rfl) ?_;refine runs 2 ?_;refine alT (aI true rfl alW evk rfl) ?_;refine runs 3 ?_;refine alT (aI true rfl alW evk rfl) ?_;refine runs 3 ?_;refine alT (aI true rfl alW evk rfl) ?_;refine runs 3 ?_;refine ay alH (aB call17 rfl (evc alW evn)) ?_;refine HL4.out.cP.mono ?_;rintro e w7 ⟨v7, rfl, hm7, b7⟩;rw [ld4] at hm7;obtain ⟨A7, c7, rfl, h71, h72⟩ := hm7.form;have HR := ae hm7.rd;have HL7 := ae (HL4.out.below b7);clear hm7 b7 h71 h72;refine aR ?_;refine alT (xk rfl evk evk) ?_;refine ay alH (aB call16 rfl (evc alW (evc alW evn))) ?_;refine (o9 _ _ _ _ _ _ (w7.heap.size + 1) [0, 1] [0, 1] _ (HR.out.up _) (eB (E := bg) (l := [0, 1]) w7 #[.int .i64 0, .int .i64 1] 3 rfl) (by rw [World.size_alloc]; exact aj) (by unfold maxLen; decide)).mono ?_;rintro e w8 ⟨rfl, b8⟩;have hb8 := ((Below.refl w7.heap.size w7).alloc aj (.cells #[.int .i64 0, .int .i64 1] 3)).trans (b8.mono (by rw [World.size_alloc]; omega));have HL8 := ae (HL7.out.below hb8);clear b8 hb8;rw [show lU [0, 1] [0, 1] = true from rfl];refine aR ?_;refine runs 3 ?_;refine ay alH (aB call23 rfl (evc alW evn)) ?_;refine (HL8.out.first (by omega)).mono ?_;rintro e w9 ⟨rfl, b9⟩;rw [lf4];have HL9 := ae (HL8.out.below b9);clear b9;refine aR ?_;refine alT (aI true rfl alW evk rfl) ?_;refine runs 3 ?_;refine ay alH (aB call19 rfl (evc alW (evc evk evn))) ?_;refine (HL9.out.clean 0).mono ?_;rintro e w10 ⟨rfl, h⟩;rw [le4];have HL10 := ae h;clear h;refine aR ?_;refine alT (aI true rfl alW evk rfl) ?_;refine runs 3 ?_;refine ay alH (aB call23 rfl (evc alW evn)) ?_;refine (HL10.out.first (by omega)).mono ?_;rintro e w11 ⟨rfl, b11⟩;rw [lf5];have HL11 := ae (HL10.out.below b11);clear b11;refine aR ?_;refine alT (aI true rfl alW evk rfl) ?_;refine aH 2 ?_;go_wp2_with fail;go_ret;exact ⟨rfl, HL11.out.bel⟩
section
variable {C : gZ} {D : ShI C} {w0 w w' : World} {B q p t K k : Nat} {O O' : Nat -> Prop} {h : HuS} {s : ShS}
theorem HR.rd (h' : HR (k + 17) h) (n m : Int) : vK s h n m /\ HR k (fC s h n m).2.2.2 := by
 obtain ⟨g1, g2, _⟩ := h'.ftc n m;refine ⟨fun _ _ => g1, ?_⟩;unfold fC
 split
 ·split
  ·exact h'.less (by omega)
  ·exact g2
 ·exact h'.less (by omega)
theorem SAt.mine {g : Nat} (a : SAt C D w0 B O w q p t K h s) (hg : O g) (hB : B <= g) (ho : Only (fun b => b = g) w w') : SAt C D w0 B O w' q p t K h s := by
 obtain ⟨G, S, h1, h2, h3, h4, h5, h6, h7⟩ := a;have hs := ho.size;obtain ⟨g1, g2, g3⟩ := h7 g hg;refine ⟨G, S, C.only h1 ho fun b hb e => g1 (e ▸ hb), D.only h2 ho fun b hb e => g2 (e ▸ hb), h3, h4, h5.trans (ho.below (fun b e => by subst e; exact hB) (ar h6.le h5.size)), h6, fun b hb => ?_⟩;obtain ⟨g1, g2, g3⟩ := h7 b hb;exact ⟨g1, g2, by omega⟩
theorem SAt.lt (a : SAt C D w0 B O w q p t K h s) {b : Nat} (hb : O b) : b < w.heap.size := by obtain ⟨G, S, h1, h2, h3, h4, h5, h6, h7⟩ := a; exact (h7 b hb).2.2
theorem SAt.start {G S : Nat -> Prop} (hT : Tab w0) (j : C.J w G q p h) (a : D.P w S t K s) (hG : ∀ b, G b -> w0.heap.size <= b) (hS : ∀ b, S b -> w0.heap.size <= b) (hd : ∀ b, G b -> ¬ S b) (hb : Below w0.heap.size w0 w) (hO : ∀ b, O b -> ¬ G b /\ ¬ S b /\ b < w.heap.size) : SAt C D w0 w0.heap.size O w q p t K h s :=
 ⟨G, S, j, a, hd, fun b e => e.elim (hG b) (hS b), hb, ol.start hT, hO⟩
theorem SAt.dr {Q : Nat} (a : SAt C D w0 B O w q p t K h s) (pc : dP) (hQ : Q < 18446744073709551616) (hK : K + 1 <= 1000000) : Calls prog 13 #[.pointer (some ⟨t, 0, none⟩), .int .u64 (Q : Int), .slice (some ⟨w.heap.size, 0, none⟩) 1 1] (w.alloc (.cells (cd.cel (cG pc)).toArray cd.t)) fun e w' => e = .returned (.int .i64 (gC s Q [pc])) /\ SAt C D w0 B O w' q p t (K + 1) h (ji s Q [pc]) /\ ci O w w' := by
 have hb := (Below.refl w.heap.size w).alloc aj (.cells (cd.cel (cG pc)).toArray cd.t);have hsz : (w.alloc (.cells (cd.cel (cG pc)).toArray cd.t)).heap.size = w.heap.size + 1 := al;have hr : RdE cd (w.alloc (.cells (cd.cel (cG pc)).toArray cd.t)) (w.alloc (.cells (cd.cel (cG pc)).toArray cd.t)).heap.size (some ⟨w.heap.size, 0, none⟩) 1 ([pc].map cG) := by rw [hsz]; exact uz w (cG pc)
 have hkb : ci O w (w.alloc (.cells (cd.cel (cG pc)).toArray cd.t)) := fun b e => hb.block b (a.lt e)
 have hn : ∀ S, D.P w S t K s -> ¬ S w.heap.size := fun S hS hs => by have := D.lt hS _ hs; omega
 have a' := a.below hb;have : ∀ S, D.P (w.alloc (.cells (cd.cel (cG pc)).toArray cd.t)) S t K s -> (∀ b, (O b \/ b = w.heap.size) -> ¬ S b) -> Calls prog 13 #[.pointer (some ⟨t, 0, none⟩), .int .u64 (Q : Int), .slice (some ⟨w.heap.size, 0, none⟩) 1 1] (w.alloc (.cells (cd.cel (cG pc)).toArray cd.t)) fun e w' => e = .returned (.int .i64 (gC s Q [pc])) /\ ∃ S', D.P w' S' t (K + 1) (ji s Q [pc]) /\ Only S (w.alloc (.cells (cd.cel (cG pc)).toArray cd.t)) w' /\ Grow (w.alloc (.cells (cd.cel (cG pc)).toArray cd.t)) S S' := fun S hS hO => D.put hS hQ hK hr rfl aj (by unfold maxLen; decide) (fun x e _ hs => by
  injection e with e;subst e;exact hO _ (.inr rfl) hs)
 have ag : SAt C D w0 B (fun b => O b \/ b = w.heap.size) (w.alloc (.cells (cd.cel (cG pc)).toArray cd.t)) q p t K h s := a.guard hb fun b e => by
  rcases e with e | e
  ·exact .inl e
  ·subst e; exact .inr ⟨aj, by omega⟩
 refine (ag.shelf this).mono ?_;rintro e w' ⟨k0, k1, k2⟩;refine ⟨k0, k1.guard ak (fun b e => .inl (.inl e)), ci.trans hkb (k2.less fun b e => .inl e)⟩
end
structure aiQ (C : gZ) where
 cell : ∀ {w G q p h} (s m : Int), C.J w G q p h -> CrG w G -> aaW h s m -> Calls prog 60 #[.pointer (some ⟨p, 0, none⟩), .agg #[.int .i64 s, .int .i64 m]] w fun e w' => e = .returned (.tuple #[blk (ik h s m).2.1, .int .i64 (ik h s m).1]) /\ ∃ G', C.J w' G' q p (ik h s m).2.2 /\ Only G w w' /\ Grow w G G'
 no_cell : ∀ (w : World) (v : Value) (s m : Int), C.No w v -> Calls prog 60 #[v, .agg #[.int .i64 s, .int .i64 m]] w fun e w' => (∃ b : Blk, e = .returned (.tuple #[blk b, .int .i64 1])) /\ Below w.heap.size w w'
theorem acV {a c n : Nat} (ha : a <= 16) (hc : c <= 16) (hn : a + c = n) : IntKind.i64.wrap ((a : Int) + (c : Int)) = (n : Int) := by
 rw [IntWalk.i64_in _ (by omega)];omega
theorem acw {x : Ros} (hf : bi x = false) (w : World) : Calls prog 197 #[ros x] w fun e w' => e = .returned (.int .i64 0) /\ Below w.heap.size w w' := by
 have HT1 := ae (jh.new w x);have HF := ae hf;clear hf;go_enter func197, ntmps197;go_upto_region 1 with (first | (refine aw rfl (br rfl rfl) ?_) | fail);generalize w.alloc (.cells (a7 x).toArray 86) = w1 at *;refine af ?_;refine alM (bf rfl alW (HT1.out.at0)) ?_;refine ay rfl (aB call76 rfl (evc alW evn)) ?_;refine (eh w1 HF).mono ?_;rintro e w2 ⟨rfl, hb⟩;have HT2 := ae (HT1.out.call hb);clear hb HT1;refine aR ?_;refine aH 1 ?_;go_upto_region 2 with fail;refine cC 1 ?_;go_wp2_with fail;go_ret;exact ⟨rfl, HT2.out.bel⟩
theorem aaX {x : Ros} {a c n : Nat} (hf : bi x = true) (ha : many x 1 = a) (hc : many x 2 = c) (hn : IntKind.i64.wrap ((a : Int) + (c : Int)) = (n : Int)) (hg : decide ((2 : Int) <= (n : Int)) = true) (w : World) : Calls prog 197 #[ros x] w fun e w' => e = .returned (.int .i64 5) /\ Below w.heap.size w w' := by
 have HT1 := ae (jh.new w x);have HF := ae hf;have HA := ae ha;have HC := ae hc;have HN := ae hn;have HG := ae hg;clear hf ha hc hn hg;go_enter func197, ntmps197;go_upto_region 1 with (first | (refine aw rfl (br rfl rfl) ?_) | fail);generalize w.alloc (.cells (a7 x).toArray 86) = w1 at *;refine af ?_;refine alM (bf rfl alW (HT1.out.at0)) ?_;refine ay rfl (aB call76 rfl (evc alW evn)) ?_;refine (eh w1 HF).mono ?_;rintro e w2 ⟨rfl, hb⟩;have HT2 := ae (HT1.out.call hb);clear hb HT1;refine aR ?_;refine aH 1 ?_;go_upto_region 3 with fail;refine aT (B := w2.heap.size) (by kernel_rfl) ?_;refine alU (fun _ hw => bf rfl alW (HT2.out.above hw)) ?_;refine ch rfl (fun _ => aB call178 rfl (evc alW (evc evk evn))) (bO aj fun w' hw => fJ w' HA) ?_;simp only [aa];refine alU (fun _ hw => bf rfl alW (HT2.out.above hw)) ?_;refine ch rfl (fun _ => aB call178 rfl (evc alW (evc evk evn))) (bO aj fun w' hw => fJ w' HC) ?_;simp only [aa];refine cT 2 ?_;refine wpQuiet_nil ?_;intro w3 hw;have HT3 := ae (HT2.out.call hw);clear hw HT2;go_upto_region 4 with fail;refine aJ 2 ?_;refine alM (bP rfl alW alW HN) ?_;refine aH 1 ?_;go_upto_region 5 with fail;refine aJ 1 ?_;refine alM (dM true rfl alW evk HG) ?_;refine aH 1 ?_;go_upto_region 7 with fail;refine cC 1 ?_;go_wp2_with fail;go_ret;exact ⟨rfl, HT3.out.bel⟩
theorem aad {x : Ros} {a c n : Nat} (hf : bi x = true) (ha : many x 1 = a) (hc : many x 2 = c) (hn : IntKind.i64.wrap ((a : Int) + (c : Int)) = (n : Int)) (hg : decide ((2 : Int) <= (n : Int)) = false) (h1 : ((n : Int) == 1) = true) (ho : x.gone = true) (w : World) : Calls prog 197 #[ros x] w fun e w' => e = .returned (.int .i64 5) /\ Below w.heap.size w w' := by
 have HT1 := ae (jh.new w x);have HF := ae hf;have HA := ae ha;have HC := ae hc;have HN := ae hn;have HG := ae hg;have H1 := ae h1;have HO := ae ho;clear hf ha hc hn hg h1 ho;go_enter func197, ntmps197;go_upto_region 1 with (first | (refine aw rfl (br rfl rfl) ?_) | fail);generalize w.alloc (.cells (a7 x).toArray 86) = w1 at *;refine af ?_;refine alM (bf rfl alW (HT1.out.at0)) ?_;refine ay rfl (aB call76 rfl (evc alW evn)) ?_;refine (eh w1 HF).mono ?_;rintro e w2 ⟨rfl, hb⟩;have HT2 := ae (HT1.out.call hb);clear hb HT1;refine aR ?_;refine aH 1 ?_;go_upto_region 3 with fail;refine aT (B := w2.heap.size) (by kernel_rfl) ?_;refine alU (fun _ hw => bf rfl alW (HT2.out.above hw)) ?_;refine ch rfl (fun _ => aB call178 rfl (evc alW (evc evk evn))) (bO aj fun w' hw => fJ w' HA) ?_;simp only [aa];refine alU (fun _ hw => bf rfl alW (HT2.out.above hw)) ?_;refine ch rfl (fun _ => aB call178 rfl (evc alW (evc evk evn))) (bO aj fun w' hw => fJ w' HC) ?_;simp only [aa];refine cT 2 ?_;refine wpQuiet_nil ?_;intro w3 hw;have HT3 := ae (HT2.out.call hw);clear hw HT2;go_upto_region 4 with fail;refine aJ 2 ?_;refine alM (bP rfl alW alW HN) ?_;refine aH 1 ?_;go_upto_region 5 with fail;refine aJ 1 ?_;refine alM (dM false rfl alW evk HG) ?_;refine aH 1 ?_;go_upto_region 6 with fail;refine aJ 1 ?_;refine alM (aI true rfl alW evk H1) ?_;refine runs 1 ?_;refine alT (ax rfl alW xL) ?_;refine alT (aE rfl alW (xq (HO.out ▸ HT3.out.at0.cells.2.2.2.2))) ?_;refine aH 2 ?_;go_upto_region 7 with fail;refine cC 1 ?_;go_wp2_with fail;go_ret;exact ⟨rfl, HT3.out.bel⟩
theorem adm {x : Ros} {a c n : Nat} (hf : bi x = true) (ha : many x 1 = a) (hc : many x 2 = c) (hn : IntKind.i64.wrap ((a : Int) + (c : Int)) = (n : Int)) (hg : decide ((2 : Int) <= (n : Int)) = false) (h1 : ((n : Int) == 1) = false) (ho : x.gone = true) (w : World) : Calls prog 197 #[ros x] w fun e w' => e = .returned (.int .i64 4) /\ Below w.heap.size w w' := by
 have HT1 := ae (jh.new w x);have HF := ae hf;have HA := ae ha;have HC := ae hc;have HN := ae hn;have HG := ae hg;have H1 := ae h1;have HO := ae ho;clear hf ha hc hn hg h1 ho;go_enter func197, ntmps197;go_upto_region 1 with (first | (refine aw rfl (br rfl rfl) ?_) | fail);generalize w.alloc (.cells (a7 x).toArray 86) = w1 at *;refine af ?_;refine alM (bf rfl alW (HT1.out.at0)) ?_;refine ay rfl (aB call76 rfl (evc alW evn)) ?_;refine (eh w1 HF).mono ?_;rintro e w2 ⟨rfl, hb⟩;have HT2 := ae (HT1.out.call hb);clear hb HT1;refine aR ?_;refine aH 1 ?_;go_upto_region 3 with fail;refine aT (B := w2.heap.size) (by kernel_rfl) ?_;refine alU (fun _ hw => bf rfl alW (HT2.out.above hw)) ?_;refine ch rfl (fun _ => aB call178 rfl (evc alW (evc evk evn))) (bO aj fun w' hw => fJ w' HA) ?_;simp only [aa];refine alU (fun _ hw => bf rfl alW (HT2.out.above hw)) ?_;refine ch rfl (fun _ => aB call178 rfl (evc alW (evc evk evn))) (bO aj fun w' hw => fJ w' HC) ?_;simp only [aa];refine cT 2 ?_;refine wpQuiet_nil ?_;intro w3 hw;have HT3 := ae (HT2.out.call hw);clear hw HT2;go_upto_region 4 with fail;refine aJ 2 ?_;refine alM (bP rfl alW alW HN) ?_;refine aH 1 ?_;go_upto_region 5 with fail;refine aJ 1 ?_;refine alM (dM false rfl alW evk HG) ?_;refine aH 1 ?_;go_upto_region 6 with fail;refine aJ 1 ?_;refine alM (aI false rfl alW evk H1) ?_;refine bq 2 rfl (aL rfl alW) (by kernel_rfl) ?_;simp only [bX, ac, aa];refine aH 2 ?_;go_upto_region 8 with fail;refine af ?_;refine alM (ax rfl alW xL) ?_;refine alM (aE rfl alW (xq (HO.out ▸ HT3.out.at0.cells.2.2.2.2))) ?_;refine aH 1 ?_;go_upto_region 9 with fail;refine cC 1 ?_;go_wp2_with fail;go_ret;exact ⟨rfl, HT3.out.bel⟩
theorem abV {x : Ros} {a c n : Nat} (hf : bi x = true) (ha : many x 1 = a) (hc : many x 2 = c) (hn : IntKind.i64.wrap ((a : Int) + (c : Int)) = (n : Int)) (hg : decide ((2 : Int) <= (n : Int)) = false) (h1 : ((n : Int) == 1) = true) (ho : x.gone = false) (h2 : ((c : Int) == 1) = true) (w : World) : Calls prog 197 #[ros x] w fun e w' => e = .returned (.int .i64 3) /\ Below w.heap.size w w' := by
 have HT1 := ae (jh.new w x);have HF := ae hf;have HA := ae ha;have HC := ae hc;have HN := ae hn;have HG := ae hg;have H1 := ae h1;have HO := ae ho;have H2 := ae h2;clear hf ha hc hn hg h1 ho h2;go_enter func197, ntmps197;go_upto_region 1 with (first | (refine aw rfl (br rfl rfl) ?_) | fail);generalize w.alloc (.cells (a7 x).toArray 86) = w1 at *;refine af ?_;refine alM (bf rfl alW (HT1.out.at0)) ?_;refine ay rfl (aB call76 rfl (evc alW evn)) ?_;refine (eh w1 HF).mono ?_;rintro e w2 ⟨rfl, hb⟩;have HT2 := ae (HT1.out.call hb);clear hb HT1;refine aR ?_;refine aH 1 ?_;go_upto_region 3 with fail;refine aT (B := w2.heap.size) (by kernel_rfl) ?_;refine alU (fun _ hw => bf rfl alW (HT2.out.above hw)) ?_;refine ch rfl (fun _ => aB call178 rfl (evc alW (evc evk evn))) (bO aj fun w' hw => fJ w' HA) ?_;simp only [aa];refine alU (fun _ hw => bf rfl alW (HT2.out.above hw)) ?_;refine ch rfl (fun _ => aB call178 rfl (evc alW (evc evk evn))) (bO aj fun w' hw => fJ w' HC) ?_;simp only [aa];refine cT 2 ?_;refine wpQuiet_nil ?_;intro w3 hw;have HT3 := ae (HT2.out.call hw);clear hw HT2;go_upto_region 4 with fail;refine aJ 2 ?_;refine alM (bP rfl alW alW HN) ?_;refine aH 1 ?_;go_upto_region 5 with fail;refine aJ 1 ?_;refine alM (dM false rfl alW evk HG) ?_;refine aH 1 ?_;go_upto_region 6 with fail;refine aJ 1 ?_;refine alM (aI true rfl alW evk H1) ?_;refine runs 1 ?_;refine alT (ax rfl alW xL) ?_;refine alT (aE rfl alW (xq (HO.out ▸ HT3.out.at0.cells.2.2.2.2))) ?_;refine aH 2 ?_;go_upto_region 8 with fail;refine af ?_;refine alM (ax rfl alW xL) ?_;refine alM (aE rfl alW (xq (HO.out ▸ HT3.out.at0.cells.2.2.2.2))) ?_;refine aH 1 ?_;go_upto_region 10 with fail;refine aJ 1 ?_;refine alM (aI true rfl alW evk H2) ?_;refine aH 1 ?_;go_upto_region 11 with fail;refine cC 1 ?_;go_wp2_with fail;go_ret;exact ⟨rfl, HT3.out.bel⟩
theorem aa6 {x : Ros} {a c n : Nat} (hf : bi x = true) (ha : many x 1 = a) (hc : many x 2 = c) (hn : IntKind.i64.wrap ((a : Int) + (c : Int)) = (n : Int)) (hg : decide ((2 : Int) <= (n : Int)) = false) (h1 : ((n : Int) == 1) = true) (ho : x.gone = false) (h2 : ((c : Int) == 1) = false) (h3 : ((a : Int) == 1) = true) (w : World) : Calls prog 197 #[ros x] w fun e w' => e = .returned (.int .i64 2) /\ Below w.heap.size w w' := by
 have HT1 := ae (jh.new w x);have HF := ae hf;have HA := ae ha;have HC := ae hc;have HN := ae hn;have HG := ae hg;have H1 := ae h1;have HO := ae ho;have H2 := ae h2;have H3 := ae h3;clear hf ha hc hn hg h1 ho h2 h3;go_enter func197, ntmps197;go_upto_region 1 with (first | (refine aw rfl (br rfl rfl) ?_) | fail);generalize w.alloc (.cells (a7 x).toArray 86) = w1 at *;refine af ?_;refine alM (bf rfl alW (HT1.out.at0)) ?_;refine ay rfl (aB call76 rfl (evc alW evn)) ?_;refine (eh w1 HF).mono ?_;rintro e w2 ⟨rfl, hb⟩;have HT2 := ae (HT1.out.call hb);clear hb HT1;refine aR ?_;refine aH 1 ?_;go_upto_region 3 with fail;refine aT (B := w2.heap.size) (by kernel_rfl) ?_;refine alU (fun _ hw => bf rfl alW (HT2.out.above hw)) ?_;refine ch rfl (fun _ => aB call178 rfl (evc alW (evc evk evn))) (bO aj fun w' hw => fJ w' HA) ?_;simp only [aa];refine alU (fun _ hw => bf rfl alW (HT2.out.above hw)) ?_;refine ch rfl (fun _ => aB call178 rfl (evc alW (evc evk evn))) (bO aj fun w' hw => fJ w' HC) ?_;simp only [aa];refine cT 2 ?_;refine wpQuiet_nil ?_;intro w3 hw;have HT3 := ae (HT2.out.call hw);clear hw HT2;go_upto_region 4 with fail;refine aJ 2 ?_;refine alM (bP rfl alW alW HN) ?_;refine aH 1 ?_;go_upto_region 5 with fail;refine aJ 1 ?_;refine alM (dM false rfl alW evk HG) ?_;refine aH 1 ?_;go_upto_region 6 with fail;refine aJ 1 ?_;refine alM (aI true rfl alW evk H1) ?_;refine runs 1 ?_;refine alT (ax rfl alW xL) ?_;refine alT (aE rfl alW (xq (HO.out ▸ HT3.out.at0.cells.2.2.2.2))) ?_;refine aH 2 ?_;go_upto_region 8 with fail;refine af ?_;refine alM (ax rfl alW xL) ?_;refine alM (aE rfl alW (xq (HO.out ▸ HT3.out.at0.cells.2.2.2.2))) ?_;refine aH 1 ?_;go_upto_region 10 with fail;refine aJ 1 ?_;refine alM (aI false rfl alW evk H2) ?_;refine aH 1 ?_;go_upto_region 12 with fail;refine aJ 1 ?_;refine alM (aI true rfl alW evk H3) ?_;refine aH 1 ?_;go_upto_region 13 with fail;refine cC 1 ?_;go_wp2_with fail;go_ret;exact ⟨rfl, HT3.out.bel⟩
theorem abJ {x : Ros} {a c n : Nat} (hf : bi x = true) (ha : many x 1 = a) (hc : many x 2 = c) (hn : IntKind.i64.wrap ((a : Int) + (c : Int)) = (n : Int)) (hg : decide ((2 : Int) <= (n : Int)) = false) (h1 : ((n : Int) == 1) = false) (ho : x.gone = false) (h2 : ((c : Int) == 1) = false) (h3 : ((a : Int) == 1) = false) (w : World) : Calls prog 197 #[ros x] w fun e w' => e = .returned (.int .i64 1) /\ Below w.heap.size w w' := by
 have HT1 := ae (jh.new w x);have HF := ae hf;have HA := ae ha;have HC := ae hc;have HN := ae hn;have HG := ae hg;have H1 := ae h1;have HO := ae ho;have H2 := ae h2;have H3 := ae h3;clear hf ha hc hn hg h1 ho h2 h3;go_enter func197, ntmps197;go_upto_region 1 with (first | (refine aw rfl (br rfl rfl) ?_) | fail);generalize w.alloc (.cells (a7 x).toArray 86) = w1 at *;refine af ?_;refine alM (bf rfl alW (HT1.out.at0)) ?_;refine ay rfl (aB call76 rfl (evc alW evn)) ?_;refine (eh w1 HF).mono ?_;rintro e w2 ⟨rfl, hb⟩;have HT2 := ae (HT1.out.call hb);clear hb HT1;refine aR ?_;refine aH 1 ?_;go_upto_region 3 with fail;refine aT (B := w2.heap.size) (by kernel_rfl) ?_;refine alU (fun _ hw => bf rfl alW (HT2.out.above hw)) ?_;refine ch rfl (fun _ => aB call178 rfl (evc alW (evc evk evn))) (bO aj fun w' hw => fJ w' HA) ?_;simp only [aa];refine alU (fun _ hw => bf rfl alW (HT2.out.above hw)) ?_;refine ch rfl (fun _ => aB call178 rfl (evc alW (evc evk evn))) (bO aj fun w' hw => fJ w' HC) ?_;simp only [aa];refine cT 2 ?_;refine wpQuiet_nil ?_;intro w3 hw;have HT3 := ae (HT2.out.call hw);clear hw HT2;go_upto_region 4 with fail;refine aJ 2 ?_;refine alM (bP rfl alW alW HN) ?_;refine aH 1 ?_;go_upto_region 5 with fail;refine aJ 1 ?_;refine alM (dM false rfl alW evk HG) ?_;refine aH 1 ?_;go_upto_region 6 with fail;refine aJ 1 ?_;refine alM (aI false rfl alW evk H1) ?_;refine bq 2 rfl (aL rfl alW) (by kernel_rfl) ?_;simp only [bX, ac, aa];refine aH 2 ?_;go_upto_region 8 with fail;refine af ?_;refine alM (ax rfl alW xL) ?_;refine alM (aE rfl alW (xq (HO.out ▸ HT3.out.at0.cells.2.2.2.2))) ?_;refine aH 1 ?_;go_upto_region 10 with fail;refine aJ 1 ?_;refine alM (aI false rfl alW evk H2) ?_;refine aH 1 ?_;go_upto_region 12 with fail;refine aJ 1 ?_;refine alM (aI false rfl alW evk H3) ?_;refine aH 1 ?_;go_upto_region 14 with fail;refine cC 1 ?_;go_wp2_with fail;go_ret;exact ⟨rfl, HT3.out.bel⟩
theorem acs {x : Ros} (hf : bi x = true) : stN x = if 2 <= outs x \/ (outs x = 1 /\ x.gone = true) then 5 else if x.gone = true then 4 else if dS x = 1 then 3 else if outs x = 1 then 2 else 1 := by unfold stN; rw [if_pos hf]
theorem aiE (x : Ros) (w : World) : Calls prog 197 #[ros x] w fun e w' => e = .returned (.int .i64 (stN x : Nat)) /\ Below w.heap.size w w' := by
 cases hf : bi x
 ·rw [show stN x = 0 from by unfold stN; rw [hf]; rfl]; exact acw hf w
 have hn := acV (oC x 1) (oC x 2) (rR (eD hf).2.1).symm;have ho := rR (eD hf).2.1;have hh := iI x;have hm := oC x 1;have hm2 := oC x 2;rw [acs hf];by_cases c1 : 2 <= outs x
 ·rw [if_pos (.inl c1)]; exact aaX hf rfl rfl hn (ao (by omega)) w
 have hg : decide ((2 : Int) <= (outs x : Int)) = false := am (by omega);cases hgo : x.gone
 ·rw [if_neg (by rintro (h | ⟨_, h⟩); exact c1 h; cases h), if_neg (by decide), hh];by_cases n1 : outs x = 1
  ·have e1 : ((outs x : Int) == 1) = true := by rw [n1]; rfl
   by_cases k1 : many x 2 = 1
   ·rw [if_pos k1]; exact abV hf rfl rfl hn hg e1 hgo (by rw [k1]; rfl) w
   ·rw [if_neg k1, if_pos n1]; exact aa6 hf rfl rfl hn hg e1 hgo (by simp; omega) (by simp; omega) w
  ·have e1 : ((outs x : Int) == 1) = false := by simp; omega
   rw [if_neg (by omega), if_neg n1]; exact abJ hf rfl rfl hn hg e1 hgo (by simp; omega) (by simp; omega) w
 ·by_cases n1 : outs x = 1
  ·rw [if_pos (.inr ⟨n1, rfl⟩)]; exact aad hf rfl rfl hn hg (by rw [n1]; rfl) hgo w
  ·rw [if_neg (by omega), if_pos rfl]; exact adm hf rfl rfl hn hg (by simp; omega) hgo w
theorem un {x : Ros} {n : Nat} (w : World) (h : stN x = n) : Calls prog 197 #[ros x] w fun e w' => e = .returned (.int .i64 (n : Nat)) /\ Below w.heap.size w w' := by subst h; exact aiE x w
section
variable (x : Ros) {j : Nat} (hj : j < 16)
include hj
theorem rS : (a7 x).set (3 + j) (.int .u8 1) = a7 (hJ x j 1) := ae1 x hj 1
end
theorem zT {y : Ros} {b : Bool} (w : World) (h : bi y = b) : Calls prog 74 #[ros y] w fun e w' => e = .returned (.bool b) /\ Below w.heap.size w w' := by subst h; exact ahF y w
theorem agC {x : Ros} {m : Int} (hf : bi x = false) (w : World) : Calls prog 198 #[ros x, .int .i64 m] w fun e w' => e = .returned (.tuple #[ros (x), .bool false]) /\ Below w.heap.size w w' := by
 have HT1 := ae (lM.new w x);have HF := ae hf;clear hf;go_enter func198, ntmps198;go_upto_region 1 with (first | (refine aw rfl (br rfl rfl) ?_) | (refine aw rfl (df rfl) ?_) | fail);generalize (w.alloc (.cells (a7 x).toArray 86)).alloc (.cells (a7 bY).toArray 86) = w1 at *;refine af ?_;refine alM (bf rfl alW (HT1.out.at0)) ?_;refine ay rfl (aB call76 rfl (evc alW evn)) ?_;refine (eh w1 HF).mono ?_;rintro e w2 ⟨rfl, hb⟩;have HT2 := ae (HT1.out.call hb);clear hb HT1;refine aR ?_;refine runs 1 ?_;refine bq 4 rfl (aL rfl alW) (by kernel_rfl) ?_;simp only [bX, ac, aa];refine aH 1 ?_;go_upto_region 2 with fail;refine af ?_;refine alM (bf rfl alW (HT2.out.at0)) ?_;refine aG rfl (ex rfl (ev rfl) (ev rfl) HT2.out.at1) ?_;simp only [aa];have HT3 := ae (HT2.out.put (x));generalize jk w2 (w.heap.size + 1) (x) = w3 at HT3 ⊢;clear HT2;refine aH 1 ?_;go_wp2_with fail;exact bodyPost_ret (lY rfl _ _ _ rfl HT3.out.at1) rfl ⟨rfl, HT3.out.bel⟩
theorem afp {x : Ros} {m : Int} (hf : bi x = true) (hq : fD x m = false) (w : World) : Calls prog 198 #[ros x, .int .i64 m] w fun e w' => e = .returned (.tuple #[ros (x), .bool false]) /\ Below w.heap.size w w' := by
 have HT1 := ae (lM.new w x);have HF := ae hf;have HQ := ae hq;clear hf hq;go_enter func198, ntmps198;go_upto_region 1 with (first | (refine aw rfl (br rfl rfl) ?_) | (refine aw rfl (df rfl) ?_) | fail);generalize (w.alloc (.cells (a7 x).toArray 86)).alloc (.cells (a7 bY).toArray 86) = w1 at *;refine af ?_;refine alM (bf rfl alW (HT1.out.at0)) ?_;refine ay rfl (aB call76 rfl (evc alW evn)) ?_;refine (eh w1 HF).mono ?_;rintro e w2 ⟨rfl, hb⟩;have HT2 := ae (HT1.out.call hb);clear hb HT1;refine aR ?_;refine runs 2 ?_;refine alT (bf rfl alW (HT2.out.at0)) ?_;refine runs 1 ?_;refine ay alH (aB call177 rfl (evc alW (evc alW evn))) ?_;refine (eW w2 HQ).mono ?_;rintro e w3 ⟨rfl, hb⟩;have HT3 := ae (HT2.out.call hb);clear hb HT2;refine aR ?_;refine aH 2 ?_;go_upto_region 2 with fail;refine af ?_;refine alM (bf rfl alW (HT3.out.at0)) ?_;refine aG rfl (ex rfl (ev rfl) (ev rfl) HT3.out.at1) ?_;simp only [aa];have HT4 := ae (HT3.out.put (x));generalize jk w3 (w.heap.size + 1) (x) = w4 at HT4 ⊢;clear HT3;refine aH 1 ?_;go_wp2_with fail;exact bodyPost_ret (lY rfl _ _ _ rfl HT4.out.at1) rfl ⟨rfl, HT4.out.bel⟩
theorem agf {x : Ros} {j : Nat} (hj : j < 16) (hf : bi x = true) (hq : fD x (j : Int) = true) (h1 : (sta x j == 1) = true) (w : World) : Calls prog 198 #[ros x, .int .i64 (j : Int)] w fun e w' => e = .returned (.tuple #[ros (x), .bool false]) /\ Below w.heap.size w w' := by
 have HT1 := ae (lM.new w x);have HF := ae hf;have HQ := ae hq;have H1 := ae h1;clear hf hq h1;go_enter func198, ntmps198;go_upto_region 1 with (first | (refine aw rfl (br rfl rfl) ?_) | (refine aw rfl (df rfl) ?_) | fail);generalize (w.alloc (.cells (a7 x).toArray 86)).alloc (.cells (a7 bY).toArray 86) = w1 at *;refine af ?_;refine alM (bf rfl alW (HT1.out.at0)) ?_;refine ay rfl (aB call76 rfl (evc alW evn)) ?_;refine (eh w1 HF).mono ?_;rintro e w2 ⟨rfl, hb⟩;have HT2 := ae (HT1.out.call hb);clear hb HT1;refine aR ?_;refine runs 2 ?_;refine alT (bf rfl alW (HT2.out.at0)) ?_;refine runs 1 ?_;refine ay alH (aB call177 rfl (evc alW (evc alW evn))) ?_;refine (eW w2 HQ).mono ?_;rintro e w3 ⟨rfl, hb⟩;have HT3 := ae (HT2.out.call hb);clear hb HT2;refine aR ?_;refine aH 2 ?_;go_upto_region 3 with fail;refine aJ 1 ?_;refine alM (ax rfl alW ot) ?_;refine alM (cX rfl alW alW (qT hj)) ?_;refine alM (aE rfl alW (q6 ((HT3.out.at0).sta hj))) ?_;refine ah ?_;go_upto_region 4 with fail;refine af ?_;refine alM (aI true rfl alW evk H1) ?_;refine aH 1 ?_;go_upto_region 5 with fail;refine af ?_;refine alM (bf rfl alW (HT3.out.at0)) ?_;refine aG rfl (ex rfl (ev rfl) (ev rfl) HT3.out.at1) ?_;simp only [aa];have HT4 := ae (HT3.out.put (x));generalize jk w3 (w.heap.size + 1) (x) = w4 at HT4 ⊢;clear HT3;refine aH 1 ?_;go_wp2_with fail;exact bodyPost_ret (lY rfl _ _ _ rfl HT4.out.at1) rfl ⟨rfl, HT4.out.bel⟩
theorem ahu {x : Ros} {j : Nat} (hj : j < 16) (hf : bi x = true) (hq : fD x (j : Int) = true) (h1 : (sta x j == 1) = false) (h2 : (sta x j == 2) = true) (w : World) : Calls prog 198 #[ros x, .int .i64 (j : Int)] w fun e w' => e = .returned (.tuple #[ros (hJ (nB x 0) j 1), .bool true]) /\ Below w.heap.size w w' := by
 have HT1 := ae (lM.new w x);have HF := ae hf;have HQ := ae hq;have H1 := ae h1;have H2 := ae h2;clear hf hq h1 h2;go_enter func198, ntmps198;go_upto_region 1 with (first | (refine aw rfl (br rfl rfl) ?_) | (refine aw rfl (df rfl) ?_) | fail);generalize (w.alloc (.cells (a7 x).toArray 86)).alloc (.cells (a7 bY).toArray 86) = w1 at *;refine af ?_;refine alM (bf rfl alW (HT1.out.at0)) ?_;refine ay rfl (aB call76 rfl (evc alW evn)) ?_;refine (eh w1 HF).mono ?_;rintro e w2 ⟨rfl, hb⟩;have HT2 := ae (HT1.out.call hb);clear hb HT1;refine aR ?_;refine runs 2 ?_;refine alT (bf rfl alW (HT2.out.at0)) ?_;refine runs 1 ?_;refine ay alH (aB call177 rfl (evc alW (evc alW evn))) ?_;refine (eW w2 HQ).mono ?_;rintro e w3 ⟨rfl, hb⟩;have HT3 := ae (HT2.out.call hb);clear hb HT2;refine aR ?_;refine aH 2 ?_;go_upto_region 3 with fail;refine aJ 1 ?_;refine alM (ax rfl alW ot) ?_;refine alM (cX rfl alW alW (qT hj)) ?_;refine alM (aE rfl alW (q6 ((HT3.out.at0).sta hj))) ?_;refine ah ?_;go_upto_region 4 with fail;refine af ?_;refine alM (aI false rfl alW evk H1) ?_;refine aH 1 ?_;go_upto_region 6 with fail;refine af ?_;refine alM (aI true rfl alW evk H2) ?_;refine aH 1 ?_;go_upto_region 7 with fail;refine af ?_;refine alM (ax rfl alW abA) ?_;refine aG rfl (ac7 rfl (ev rfl) evk (HT3.out.at0.there (by omega))) ?_;simp only [aa];have HT4 := ae (HT3.out.set (adP _ (0)));generalize setW w3 w.heap.size (19) (.int .i64 (0)) = w4 at HT4 ⊢;clear HT3;refine ah ?_;go_upto_region 8 with fail;refine aJ 1 ?_;refine alM (ax rfl alW ot) ?_;refine alM (cX rfl alW alW (qT hj)) ?_;refine aG rfl (uX rfl (ev rfl) evk (HT4.out.at0.there (by omega))) ?_;simp only [aa];have HT5 := ae (HT4.out.set (rS _ hj));generalize setW w4 w.heap.size (3 + j) (.int .u8 1) = w5 at HT5 ⊢;clear HT4;refine ah ?_;go_upto_region 9 with fail;refine af ?_;refine alM (bf rfl alW (HT5.out.at0)) ?_;refine aG rfl (ex rfl (ev rfl) (ev rfl) HT5.out.at1) ?_;simp only [aa];have HT6 := ae (HT5.out.put (hJ (nB x 0) j 1));generalize jk w5 (w.heap.size + 1) (hJ (nB x 0) j 1) = w6 at HT6 ⊢;clear HT5;refine aH 1 ?_;go_wp2_with fail;exact bodyPost_ret (lY rfl _ _ _ rfl HT6.out.at1) rfl ⟨rfl, HT6.out.bel⟩
theorem afL {x : Ros} {j : Nat} (hj : j < 16) (hf : bi x = true) (hq : fD x (j : Int) = true) (h1 : (sta x j == 1) = false) (h2 : (sta x j == 2) = false) (w : World) : Calls prog 198 #[ros x, .int .i64 (j : Int)] w fun e w' => e = .returned (.tuple #[ros (hJ x j 1), .bool true]) /\ Below w.heap.size w w' := by
 have HT1 := ae (lM.new w x);have HF := ae hf;have HQ := ae hq;have H1 := ae h1;have H2 := ae h2;clear hf hq h1 h2;go_enter func198, ntmps198;go_upto_region 1 with (first | (refine aw rfl (br rfl rfl) ?_) | (refine aw rfl (df rfl) ?_) | fail);generalize (w.alloc (.cells (a7 x).toArray 86)).alloc (.cells (a7 bY).toArray 86) = w1 at *;refine af ?_;refine alM (bf rfl alW (HT1.out.at0)) ?_;refine ay rfl (aB call76 rfl (evc alW evn)) ?_;refine (eh w1 HF).mono ?_;rintro e w2 ⟨rfl, hb⟩;have HT2 := ae (HT1.out.call hb);clear hb HT1;refine aR ?_;refine runs 2 ?_;refine alT (bf rfl alW (HT2.out.at0)) ?_;refine runs 1 ?_;refine ay alH (aB call177 rfl (evc alW (evc alW evn))) ?_;refine (eW w2 HQ).mono ?_;rintro e w3 ⟨rfl, hb⟩;have HT3 := ae (HT2.out.call hb);clear hb HT2;refine aR ?_;refine aH 2 ?_;go_upto_region 3 with fail;refine aJ 1 ?_;refine alM (ax rfl alW ot) ?_;refine alM (cX rfl alW alW (qT hj)) ?_;refine alM (aE rfl alW (q6 ((HT3.out.at0).sta hj))) ?_;refine ah ?_;go_upto_region 4 with fail;refine af ?_;refine alM (aI false rfl alW evk H1) ?_;refine aH 1 ?_;go_upto_region 6 with fail;refine af ?_;refine alM (aI false rfl alW evk H2) ?_;refine aH 1 ?_;go_upto_region 8 with fail;refine aJ 1 ?_;refine alM (ax rfl alW ot) ?_;refine alM (cX rfl alW alW (qT hj)) ?_;refine aG rfl (uX rfl (ev rfl) evk (HT3.out.at0.there (by omega))) ?_;simp only [aa];have HT4 := ae (HT3.out.set (rS _ hj));generalize setW w3 w.heap.size (3 + j) (.int .u8 1) = w4 at HT4 ⊢;clear HT3;refine ah ?_;go_upto_region 9 with fail;refine af ?_;refine alM (bf rfl alW (HT4.out.at0)) ?_;refine aG rfl (ex rfl (ev rfl) (ev rfl) HT4.out.at1) ?_;simp only [aa];have HT5 := ae (HT4.out.put (hJ x j 1));generalize jk w4 (w.heap.size + 1) (hJ x j 1) = w5 at HT5 ⊢;clear HT4;refine aH 1 ?_;go_wp2_with fail;exact bodyPost_ret (lY rfl _ _ _ rfl HT5.out.at1) rfl ⟨rfl, HT5.out.bel⟩
theorem akl (x : Ros) (m : Int) (w : World) : Calls prog 198 #[ros x, .int .i64 m] w fun e w' => e = .returned (.tuple #[ros (fa x m), .bool (mM x m)]) /\ Below w.heap.size w w' := by
 unfold fa;cases hf : bi x
 ·rw [show mM x m = false from by unfold mM; rw [hf]; rfl]; exact agC hf w
 cases hq : fD x m
 ·rw [show mM x m = false from by unfold mM; rw [hf, hq]; rfl]; exact afp hf hq w
 have hm := oG hq;have hg := fK (eD hf).1;obtain ⟨j, rfl⟩ := Int.eq_ofNat_of_zero_le hm.1;have hj : j < 16 := by omega
 have e : mM x (j : Int) = decide (sta x j ≠ 1) := by unfold mM; rw [hf, hq]; rfl
 rw [e];by_cases h1 : sta x j = 1
 ·rw [am (by simpa using h1)]; exact agf hj hf hq (by simpa using h1) w
 rw [ao (by simpa using h1), if_pos rfl]
 show Calls _ _ _ _ fun e w' => e = .returned (.tuple #[ros (if sta x j = 2 then hJ (nB x 0) j 1 else hJ x j 1), .bool true]) /\ Below w.heap.size w w'
 by_cases h2 : sta x j = 2
 ·rw [if_pos h2]; exact ahu hj hf hq (by simpa using h1) (by simpa using h2) w
 ·rw [if_neg h2]; exact afL hj hf hq (by simpa using h1) (by simpa using h2) w
theorem alx (w : World) (y : Ros) : (w.alloc (.cells (el y).toArray 24)).heap[w.heap.size]? = some (.cells (el y).toArray 24 (0, 0)) := heap_alloc_new w _
structure nF (w0 w : World) (y z : Ros) : Prop where
 bel : Below w0.heap.size w0 w
 at0 : w.rangeAt w0.heap.size 0 (el y)
 lt0 : w0.heap.size < w.heap.size
 at1 : bW w (w0.heap.size + 1) z
theorem nF.new (w : World) (y : Ros) : nF w ((w.alloc (.cells (el y).toArray 24)).alloc (.cells (a7 bY).toArray 86)) y bY := by
 refine ⟨((Below.refl _ w).alloc aj _).alloc (by simp) _, aP (t := 24) (bJ (alx w y) _), by simp only [World.size_alloc]; omega, ?_⟩;have := bW.new (w.alloc (.cells (el y).toArray 24)) bY;rwa [World.size_alloc] at this
section
variable {w0 w w' : World} {y z : Ros}
theorem nF.call (h : nF w0 w y z) (hb : Below w.heap.size w w') : nF w0 w' y z :=
 ⟨h.bel.trans (hb.mono h.bel.size), eK h.at0 h.lt0 hb, au h.lt0 hb.size, h.at1.below (aS h.at1) hb⟩
theorem nF.put (h : nF w0 w y z) (z' : Ros) : nF w0 (jk w (w0.heap.size + 1) z') y z' :=
 ⟨iD h.bel (by omega), (fun j v hj => by
  have := World.rangeAt_setCells_apart h.at0 (w0.heap.size + 1) 0 (a7 z') (.inl (by omega));exact this j v hj), by rw [rN]; exact h.lt0, kj h.at1⟩
end
section
variable {ρ : Operand -> Value} {o : Oper} {x : Operand} {w : World}
theorem nk {y : Ros} (ho : o.op = .box 24 x) (hx : ρ x = geo y) : (execOp ρ o).run prog w = .ok (.value (.pointer (some ⟨w.heap.size, 0, none⟩))) (w.alloc (.cells (el y).toArray 24)) := ct ho hx
theorem acf (y : Ros) (w : World) : (Instr.build 86 #[(0, geo y)]).run prog w = .ok (ros (gz y)) w := by
 obtain ⟨m, s, r, st, cur, gone⟩ := y
 kernel_rfl
theorem rE {y : Ros} (ho : o.op = .build 86 #[(0, x)]) (hx : ρ x = geo y) : (execOp ρ o).run prog w = .ok (.value (ros (gz y))) w := by
 unfold execOp;simp only [ho, hx, List.map_toArray, List.map_cons, List.map_nil, Sem.run_bind, acf, Result.andThen_ok, Sem.run_pure]
end
theorem nF.third {w0 w : World} {y z : Ros} (h : nF w0 w y z) {b : Nat} (x : Ros) (hb : w0.heap.size + 1 < b) : nF w0 (jk w b x) y z :=
 ⟨iD h.bel (by omega), fun j v hj => World.rangeAt_setCells_apart h.at0 b 0 (a7 x) (.inl (by omega)) j v hj, by rw [rN]; exact h.lt0, (wg (by omega)).trans h.at1⟩
theorem ajd {y : Ros} (hg : bi (gz y) = false) (w : World) : Calls prog 30 #[geo y] w fun e w' => e = .returned (.tuple #[ros (bY), .int .i64 2]) /\ Below w.heap.size w w' := by
 have HT1 := ae (nF.new w y);have HG := ae hg;clear hg;go_enter func30, ntmps30;go_upto_region 1 with (first | (refine aw rfl (nk rfl rfl) ?_) | (refine aw rfl (df rfl) ?_) | fail);generalize (w.alloc (.cells (el y).toArray 24)).alloc (.cells (a7 bY).toArray 86) = w1 at *;refine af ?_;refine alM (eP (c := y) rfl alW HT1.out.at0) ?_;refine alM (rE (y := y) rfl alW) ?_;refine alM (df rfl) ?_;have HA := ae (bW.new w1 bY);have HT2 := ae (HT1.out.call (w' := w1.alloc (.cells (a7 bY).toArray 86)) (ak.alloc aj _));have HB3 : Hid (w.heap.size + 1 < w1.heap.size) := ae (aS HT1.out.at1);clear HT1;generalize w1.alloc (.cells (a7 bY).toArray 86) = w2 at *;generalize w1.heap.size = ba at *;refine aG rfl (ex rfl (ev rfl) (ev rfl) HA.out) ?_;simp only [aa];have HA2 := ae (kj (x := gz y) HA);have HT3 := ae (HT2.out.third (gz y) HB3);clear HT2 HA;have HA := HA2;clear HA2;generalize jk w2 ba (gz y) = w3 at *;refine ah ?_;go_upto_region 2 with fail;refine af ?_;refine alM (bf rfl alW HA) ?_;refine ay rfl (aB call74 rfl (evc alW evn)) ?_;refine (zT w3 HG).mono ?_;rintro e w4 ⟨rfl, hb⟩;have HT4 := ae (HT3.out.call hb);have HA2 := ae (HA.out.below (aS HA) hb);clear hb HT3 HA;have HA := HA2;clear HA2;refine aR ?_;refine aH 1 ?_;go_upto_region 3 with fail;refine af ?_;refine alM (qo rfl) ?_;refine aG rfl (ex rfl (ev rfl) (ev rfl) HT4.out.at1) ?_;simp only [aa];have HT5 := ae (HT4.out.put (bY));generalize jk w4 (w.heap.size + 1) (bY) = w5 at HT5 ⊢;clear HT4;refine aH 1 ?_;go_wp2_with fail;exact bodyPost_ret (lY rfl _ _ _ rfl HT5.out.at1) rfl ⟨rfl, HT5.out.bel⟩
theorem ajk {y : Ros} (hg : bi (gz y) = true) (w : World) : Calls prog 30 #[geo y] w fun e w' => e = .returned (.tuple #[ros (gz y), .int .i64 0]) /\ Below w.heap.size w w' := by
 have HT1 := ae (nF.new w y);have HG := ae hg;clear hg;go_enter func30, ntmps30;go_upto_region 1 with (first | (refine aw rfl (nk rfl rfl) ?_) | (refine aw rfl (df rfl) ?_) | fail);generalize (w.alloc (.cells (el y).toArray 24)).alloc (.cells (a7 bY).toArray 86) = w1 at *;refine af ?_;refine alM (eP (c := y) rfl alW HT1.out.at0) ?_;refine alM (rE (y := y) rfl alW) ?_;refine alM (df rfl) ?_;have HA := ae (bW.new w1 bY);have HT2 := ae (HT1.out.call (w' := w1.alloc (.cells (a7 bY).toArray 86)) (ak.alloc aj _));have HB3 : Hid (w.heap.size + 1 < w1.heap.size) := ae (aS HT1.out.at1);clear HT1;generalize w1.alloc (.cells (a7 bY).toArray 86) = w2 at *;generalize w1.heap.size = ba at *;refine aG rfl (ex rfl (ev rfl) (ev rfl) HA.out) ?_;simp only [aa];have HA2 := ae (kj (x := gz y) HA);have HT3 := ae (HT2.out.third (gz y) HB3);clear HT2 HA;have HA := HA2;clear HA2;generalize jk w2 ba (gz y) = w3 at *;refine ah ?_;go_upto_region 2 with fail;refine af ?_;refine alM (bf rfl alW HA) ?_;refine ay rfl (aB call74 rfl (evc alW evn)) ?_;refine (zT w3 HG).mono ?_;rintro e w4 ⟨rfl, hb⟩;have HT4 := ae (HT3.out.call hb);have HA2 := ae (HA.out.below (aS HA) hb);clear hb HT3 HA;have HA := HA2;clear HA2;refine aR ?_;refine aH 1 ?_;go_upto_region 4 with fail;refine af ?_;refine alM (bf rfl alW HA) ?_;refine aG rfl (ex rfl (ev rfl) (ev rfl) HT4.out.at1) ?_;simp only [aa];have HT5 := ae (HT4.out.put (gz y));generalize jk w4 (w.heap.size + 1) (gz y) = w5 at HT5 ⊢;clear HT4;refine aH 1 ?_;go_wp2_with fail;exact bodyPost_ret (lY rfl _ _ _ rfl HT5.out.at1) rfl ⟨rfl, HT5.out.bel⟩
theorem alA (y : Ros) (w : World) : Calls prog 30 #[geo y] w fun e w' => e = .returned (.tuple #[ros (aev y), .int .i64 (uE y : Nat)]) /\ Below w.heap.size w w' := by
 unfold aev uE;have h := yT y;cases hg : dW y
 ·exact ajd (h.trans hg) w
 ·exact ajk (h.trans hg) w
structure Cel where
 b : Nat
 t : TypeId
 cs : List Value
section
variable {ρ : Operand -> Value} {o : Oper} {x y : Operand} {w : World} {b : Nat} {c d : Ros} {t r : TypeId}
theorem ab7 {fn : Func} {p : Tmp} (h : fn.results = #[.cell p 86]) (tmps : Array Value) (w : World) (b : Nat) (hp : tmps.getD p undef = .pointer (some ⟨b, 0, none⟩)) (hc : bW w b c) :
  (results fn tmps).run prog w = .ok (ros c) w := mR h tmps w b hp hc.range underlying86 rfl (by rw [bK]; exact t8)
end
section
variable {x y : Ros} {g b : Bool} {m : Int} {e : Nat} (w : World)
theorem ai8 (h : aev x = y) (he : uE x = e) : Calls prog 30 #[geo x] w fun r w' => r = .returned (.tuple #[ros y, .int .i64 (e : Nat)]) /\ Below w.heap.size w w' := by subst h he; exact alA x w
theorem y7 (h : fa x m = y) (hb : mM x m = b) : Calls prog 198 #[ros x, .int .i64 m] w fun r w' => r = .returned (.tuple #[ros y, .bool b]) /\ Below w.heap.size w w' := by subst h hb; exact akl x m w
theorem adI {s : Int} (h : hasB x m s = b) : Calls prog 138 #[ros x, .int .i64 m, .int .i64 s] w fun r w' => r = .returned (.bool b) /\ Below w.heap.size w w' := by subst h; exact ak7 x m s w
end
theorem ah1 {N : Nat} {s : Int} (hN : N <= 16) (hs : 1 <= s /\ s <= 64) : jx (szK N s) := by
 refine ⟨by rw [ow]; omega, by rw [ow]; omega, fun k hk => ?_⟩;unfold szK at hk;rcases List.mem_append.1 hk with h | h
 ·have := (List.mem_replicate.1 h).2; omega
 ·simp at h; omega
theorem af8 {N : Nat} {s : Int} (h1 : 3 <= N) (h2 : N <= 16) (h3 : 1 <= s /\ s <= 64) {ev : Nat} (hev : ev <= 2305843009213693952) : gU (fI (szK N s)) 9 ev (neR N s) = true := by
 have hsec : ∀ k, k <= N -> mG (fI (szK N s)) (neR N s) k = true := fun k hk => by
  induction k with
  |zero => rfl
  |succ k ih =>
   refine nq (ih (by omega)) ?_;have e : iV (fI (szK N s)) (k : Int) = ((2 + s).toNat : Int) := by
    unfold iV;rw [if_pos (y6 (by rw [pw]; omega))]
    show (((fI (szK N s)).ds.getD k cZ).S.length : Int) = _
    rw [yZ (by omega)]
    show ((List.replicate (2 + s).toNat aF).length : Int) = _
    rw [List.length_replicate]
   rw [e]
   show ¬ (((2 + s).toNat : Nat) : Int) < 2 + s
   omega
 unfold gU;rw [mu h1 h2 h3.1 h3.2, pw, show (neR N s).m.toNat = N from aeI N s, hsec N aj, am (show ¬ (9 : Nat) = 0 by decide), am (show ¬ 2305843009213693952 < ev by omega), ao (show ((N + 1 : Nat) : Int) = (neR N s).m + 1 from rfl)]
 rfl
theorem aie {N : Nat} {s : Int} (h1 : 3 <= N) (h2 : N <= 16) (h3 : 1 <= s /\ s <= 64) : aev (neR N s) = neR N s /\ uE (neR N s) = 0 := by
 have hg : dW (neR N s) = true := ao ⟨by show 3 <= (N : Int); omega, by show (N : Int) <= 16; omega, h3.1, h3.2, by show (40 : Int) <= 40; omega, by show (40 : Int) <= 256; omega⟩
 constructor
 ·unfold aev; rw [hg]; rfl
 ·unfold uE; rw [hg]; rfl
structure RJ (w : World) (F : Nat -> Prop) (p q : Nat) (h : HuS) : Prop where
 bn : dB.Bn w F q h.M
 hu : RHu w p q h.id h.ev h.R
 np : ¬ F p
 fine : bi h.R = true
 idb : h.id < 18446744073709551616
def ftJ (p : Nat) (F : Nat -> Prop) (b : Nat) : Prop := b = p \/ F b
theorem adQ (C : gZ) (N : Nat) (w : World) (T : Tab w) (h1 : 3 <= N) (h2 : N <= 16) : Calls prog 10 #[geo (neR N 8)] w fun e w' => ∃ p q p2 q2 F2, e = .returned (.tuple #[.pointer (some ⟨p, 0, none⟩), .pointer (some ⟨q, 0, none⟩), .pointer (some ⟨p2, 0, none⟩)]) /\ HAt C w w.heap.size (ftJ p2 F2) w' q p ⟨fI (szK N 8), 9, 0, neR N 8⟩ /\ RJ w' F2 p2 q2 ⟨fI (szK N 8), 9, 0, neR N 8⟩ /\ ∀ b, ftJ p2 F2 b -> w.heap.size <= b := by
 have HT := ae T;have HN := ae h2;have HOK := ae (ah1 (N := N) (s := 8) h2 (by omega));have HNW := ae (aie (N := N) (s := 8) h1 h2 (by omega));have HFN := ae (mu (N := N) (s := 8) h1 h2 (by omega) (by omega));have HH := ae (af8 (N := N) (s := 8) h1 h2 (by omega) (ev := 0) (by omega));have hbx := (Below.refl w.heap.size w).alloc aj (.cells (el (neR N 8)).toArray 24);have HB1 := ae hbx;have HG1 := ae (heap_alloc_new w (.cells (el (neR N 8)).toArray 24));clear T h1 h2 hbx;go_enter func10, ntmps10;go_upto_region 0 with fail;refine af ?_;refine alM (ct (cs := el (neR N 8)) rfl alW) ?_;generalize w.alloc (.cells (el (neR N 8)).toArray 24) = w1 at *;refine aH 3 ?_;go_wp2_with fail
 go_loopw [5, 6] (fun v z wr => ∃ i : Nat, z = .int .i64 i /\ i <= N /\ aQ bg wr w.heap.size v (List.replicate i (2 + 8)) /\ Below w.heap.size w wr /\ wr.heap[w.heap.size]? = some (.cells (el (neR N 8)).toArray 24 (0, 0))) (fun _ z _ => N - (intOf z).toNat)
 case atStart => exact ⟨0, by go_num, Nat.zero_le _, aQ.nil _ _, HB1, HG1⟩
 case round =>
  obtain ⟨i, rfl, hi, hm, hb, hg⟩ := hrel;have HM := ae hm;have HW := ae hb;have HG := ae hg;have HBS : Hid (w.heap.size <= wr.heap.size) := ae hb.size;clear hm hb hg;by_cases hlt : i < N
  ·have HI := ae hlt;have HLT : Hid (decide ((i : Int) < (N : Int)) = true) := ae (ao (by omega));have HA : Hid (IntKind.i64.wrap ((i : Int) + 1) = ((i + 1 : Nat) : Int)) := ae (by have := HN.out; rw [eF ⟨by omega, by omega⟩]; omega);have hsz : (wr.alloc (.cells #[.int .i64 10] 3)).heap.size = wr.heap.size + 1 := al;have hal := aC HG ((Below.refl wr.heap.size wr).alloc aj (.cells #[.int .i64 10] 3));obtain ⟨v2, w2, hrun, hm2, hg2⟩ := gV bg (wr.alloc (.cells #[.int .i64 10] 3)) 48 w.heap.size (wr.heap.size + 1) 1 1 u5 (List.replicate i (2 + 8)) [10] (some ⟨wr.heap.size, 0, none⟩) (aQ.below HM (ak.alloc aj _)) (eB (E := bg) (l := [10]) wr #[.int .i64 10] 3 rfl) (by have := HBS.out; omega) (by have := HN.out; simp; omega);have HRUN := ae hrun;have HM2 : Hid (aQ bg w2 w.heap.size v2 (List.replicate (i + 1) (2 + 8))) := ae (by rw [List.replicate_succ']; exact hm2);have HW2 : Hid (Below w.heap.size w w2) := ae ((HW.out.trans (ak.alloc HBS _)).grown hg2 (by have := HBS.out; omega) (fun j' hj' => HM.out.ia j' hj'));have HG2 : Hid (w2.heap[w.heap.size]? = some (.cells (el (neR N 8)).toArray 24 (0, 0))) := ae ((hg2.block w.heap.size (aS hal) (fun e => (aQ.dZ (aQ.below HM (ak.alloc aj (.cells #[.int .i64 10] 3))) hal (by decide)) e.symm)).trans hal);clear hi hlt hsz hrun hm2 hg2 hal;go_upto_region 3 with fail;refine aJ 1 ?_;refine alM (ax rfl alW pl) ?_;refine alM (aE rfl alW (bV (k := (N : Int)) ((aP HG) 0 _ rfl))) ?_;refine alM (aY true rfl alW alW HLT) ?_;refine ah ?_;go_upto_region 5 with fail;refine aJ 1 ?_;refine alM (ax rfl alW adf) ?_;refine alM (aE rfl alW (bV (k := 8) ((aP HG) 1 _ rfl))) ?_;refine alM (bP rfl evk alW (show IntKind.i64.wrap (2 + 8) = 10 from rfl)) ?_;refine alM (da (E := bg) (a := 10) rfl alW rfl (by decide)) ?_;refine alM (fX (E := bg) rfl alW alW HRUN) ?_;refine aH 1 ?_;go_upto_region 4 with fail;refine aJ 1 ?_;refine alM (bP rfl alW evk HA) ?_;refine aH 1 ?_;go_wp2_with fail;go_roundw
   case rel => exact ⟨i + 1, by go_num, HI, HM2, HW2, HG2⟩
   case measure => have := HI.out; simp [intOf]; omega
  have hin : i = N := by omega
  subst hin;have HLT : Hid (decide ((i : Int) < (i : Int)) = false) := ae (am (by omega));have hsz : (wr.alloc (.cells #[.int .i64 50] 3)).heap.size = wr.heap.size + 1 := al;have hal := aC HG ((Below.refl wr.heap.size wr).alloc aj (.cells #[.int .i64 50] 3));obtain ⟨v2, w2, hrun, hm2, hg2⟩ := gV bg (wr.alloc (.cells #[.int .i64 50] 3)) 48 w.heap.size (wr.heap.size + 1) 1 1 u5 (List.replicate i (2 + 8)) [50] (some ⟨wr.heap.size, 0, none⟩) (aQ.below HM (ak.alloc aj _)) (eB (E := bg) (l := [50]) wr #[.int .i64 50] 3 rfl) (by have := HBS.out; omega) (by have := HN.out; simp; omega);have HRUN := ae hrun;have HM2 : Hid (aQ bg w2 w.heap.size v2 (szK i 8)) := ae hm2;have HB2 : Hid (Below w.heap.size w w2) := ae ((HW.out.trans (ak.alloc HBS _)).grown hg2 (by have := HBS.out; omega) (fun j' hj' => HM.out.ia j' hj'));have HG2 : Hid (w2.heap[w.heap.size]? = some (.cells (el (neR i 8)).toArray 24 (0, 0))) := ae ((hg2.block w.heap.size (aS hal) (fun e => (aQ.dZ (aQ.below HM (ak.alloc aj (.cells #[.int .i64 50] 3))) hal (by decide)) e.symm)).trans hal);clear hi hlt hsz hrun hm2 hg2 hal;go_upto_region 3 with fail;refine aJ 1 ?_;refine alM (ax rfl alW pl) ?_;refine alM (aE rfl alW (bV (k := (i : Int)) ((aP HG) 0 _ rfl))) ?_;refine alM (aY false rfl alW alW HLT) ?_;refine ah ?_;go_upto_region 6 with fail;refine aJ 1 ?_;refine alM (da (E := bg) (a := 50) rfl evk rfl (by decide)) ?_;refine alM (fX (E := bg) rfl alW alW HRUN) ?_;refine aH 1 ?_;obtain ⟨A2, c2, rfl, e21, e22⟩ := HM2.out.form;have HR2 := ae HM2.out.rd;have HC2 := ae (And.intro e21 e22);clear e21 e22;go_upto_region 7 with fail;refine aJ 1 ?_;refine ay rfl (aB call28 rfl (evc alW evn)) ?_;refine (C.R.new HR2 HC2.out.1 HC2.out.2).mono ?_;rintro e w3 ⟨b3, h3⟩;obtain ⟨_, q, F, rfl, n3, f3⟩ | ⟨h3, _⟩ := h3;rotate_left 1
  ·exact absurd HOK h3
  have HB3 := ae (HB2.out.trans (b3.mono HB2.out.size));have HN3 := ae n3;have HF3 : Hid (∀ b, F b -> w.heap.size <= b) := ae fun b hb => ar HB2.out.size (f3 b hb)
  have HFL : Hid (∀ b, F b -> b < w3.heap.size) := ae fun b hb => C.R.toBen.lt n3 b hb
  have HR3 := ae (HM2.out.below b3).rd;have HG3 := ae (aC HG2 b3);clear b3 n3 f3;refine aR ?_;refine runs 3 ?_;refine aH 2 ?_;go_upto_region 8 with fail;refine aJ 1 ?_;refine ay rfl (aB call29 rfl (evc alW evn)) ?_;refine (dB.new HR3 HC2.out.1 HC2.out.2).mono ?_;rintro e w5 ⟨b5, h5⟩;obtain ⟨_, q5, F5, rfl, n5, f5⟩ | ⟨h5, _⟩ := h5;rotate_left 1
  ·exact absurd HOK h5
  have HB5 := ae (HB3.out.trans (b5.mono HB3.out.size));have HN5 := ae (C.R.toBen.below HN3 b5);have HD5 := ae n5;have HF5 := ae f5;have HG5 := ae (aC HG3 b5);clear b5 n5 f5;refine aR ?_;refine runs 3 ?_;refine aH 2 ?_;go_upto_region 9 with fail;refine af ?_;refine alM (eP (c := neR i 8) rfl alW (aP HG5)) ?_;refine ay rfl (aB call30 rfl (evc alW evn)) ?_;refine (ai8 (x := neR i 8) (w := w5) HNW.out.1 HNW.out.2).mono ?_;rintro e w6 ⟨rfl, b6⟩;have HB6 := ae (HB5.out.trans (b6.mono HB5.out.size));have HN6 := ae (C.R.toBen.below HN5 b6);have HD6 := ae (dB.below HD5 b6);clear b6;refine aR ?_;refine runs 3 ?_;refine alM (df rfl) ?_;refine aG rfl (mf rfl (ev rfl) (ev rfl)) ?_;simp only [aa];have hx := (Below.refl w6.heap.size w6).alloc aj (.cells (a7 (neR i 8)).toArray 86);have HB7 := ae (HB6.out.trans (hx.mono HB6.out.size));have HN7 := ae (C.R.toBen.below HN6 hx);have HD7 := ae (dB.below HD6 hx);have HX7 := ae (bW.new w6 (neR i 8));clear hx;obtain ⟨qx, hqx⟩ : ∃ qx, w6.heap.size = qx := ⟨_, rfl⟩;rw [hqx] at HX7 ⊢;clear hqx;generalize w6.alloc (.cells (a7 (neR i 8)).toArray 86) = w7 at *;refine aH 1 ?_;go_upto_region 10 with fail;refine aJ 1 ?_;refine alM (aN false rfl alW evk rfl) ?_;refine runs 2 ?_;refine alT (aN false rfl alW evk rfl) ?_;refine runs 3 ?_;refine alT (aN false rfl alW evk rfl) ?_;refine aH 1 ?_;go_upto_region 12 with fail;refine aJ 1 ?_;refine alM (bH rfl alW HX7.out.range) ?_;refine ay rfl (aB call31 rfl (evc alW (evc evk (evc evk (evc alW evn))))) ?_;refine (C.new_ 9 0 (neR i 8) (by omega) (by omega) HN7).mono ?_;rintro e w8 ⟨b8, h8⟩;obtain ⟨_, p, G, rfl, j8, g8⟩ | ⟨h8, _⟩ := h8;rotate_left 1
  ·exact absurd (HH.out.symm.trans h8) (by decide)
  have HB8 := ae (HB7.out.trans (b8.mono HB7.out.size));have HX8 := ae (HX7.out.below (aS HX7) b8);have HD8 := ae (dB.below HD7 b8);have HJ8 := ae j8;have HGG : Hid (∀ b, G b -> w.heap.size <= b) := ae fun b hb => by
   rcases g8 b hb with e | e
   ·exact HF3.out b e
   ·exact ar HB7.out.size e
  have HAP : Hid (∀ b, F5 b -> ¬ G b) := ae fun b h5 hg => by
   rcases g8 b hg with e | e
   ·have h1 := HFL.out b e; have h2 := HF5.out b h5; omega
   ·have h1 := dB.lt HD7 b h5; omega
  clear b8 j8 g8;refine aR ?_;refine runs 3 ?_;refine aH 2 ?_;go_upto_region 13 with fail;refine aJ 1 ?_;refine alM (bH rfl alW HX8.out.range) ?_;refine ay rfl (aB call32 rfl (evc alW (evc evk (evc evk (evc alW evn))))) ?_;refine (aj0 9 0 (neR i 8) w8 HD8).mono ?_;rintro e w9 ⟨b9, h9⟩;obtain ⟨_, p2, rfl, j9, g9⟩ | ⟨h9, _⟩ := h9;rotate_left 1
  ·exact absurd (HH.out.symm.trans h9) (by decide)
  have HB9 := ae (HB8.out.trans (b9.mono HB8.out.size));have HJ9 := ae (C.below HJ8 b9);have HD9 := ae (dB.below HD8 b9);have HP9 : Hid (RJ w9 F5 p2 q5 ⟨fI (szK i 8), 9, 0, neR i 8⟩) := ae ⟨HD9, j9, fun e => by have := dB.lt HD8 _ e; omega, HFN, by show 9 < _; omega⟩;have HPL : Hid (∀ b, ftJ p2 F5 b -> ¬ G b /\ b < w9.heap.size) := ae fun b e => by
   rcases e with e | e
   ·exact ⟨fun hg => by subst e; have := C.lt HJ8 b hg; omega, by subst e; exact aS j9⟩
   ·exact ⟨HAP.out b e, dB.lt HD9 b e⟩
  have HLO : Hid (∀ b, ftJ p2 F5 b -> w.heap.size <= b) := ae fun b e => by
   rcases e with e | e
   ·subst e; exact ar HB8.out.size g9
   ·exact ar HB3.out.size (HF5.out b e)
  clear b9 j9 g9;refine aR ?_;refine runs 3 ?_;refine aH 2 ?_;go_upto_region 14 with fail;refine aJ 1 ?_;refine alM (aN false rfl alW evk rfl) ?_;refine runs 2 ?_;refine alT (aN false rfl alW evk rfl) ?_;refine aH 1 ?_;go_upto_region 16 with fail;refine aJ 3 ?_;refine aH 3 ?_;go_wp2_with fail
  go_ret3
  exact ⟨p, q, p2, q5, F5, rfl, ⟨G, HJ9, HGG, HB9, ol.start HT, HPL⟩, HP9, HLO⟩
open Go.RowKit Go.ChangeShapes Go.WideShapes Go.ChangeAt Go.Deep
theorem adp : prog.cellsOf 3 = 1 := by kernel_rfl
section
variable {H : Type} {enc : TypeId × Value -> H} {W : World} {base : Nat} {v : Value} {d : DataW H} {p : List MemPlace}
theorem aeY {m : Nat} {x : Value} {y : DataW H × List MemPlace} (h : DataW.trod enc prog W 0 (fun _ => true) true m 3 [x] = some y) : ∃ k : Int, x = .int .i64 k := by
 obtain ⟨k, e, _, hw⟩ := DataW.trod_int underlying3 h;injection e with e;exact ⟨k, e⟩
end
theorem agP : prog.cellsOf 43 = 2 := by kernel_rfl
section
variable {H : Type} {enc : TypeId × Value -> H} {W : World} {base : Nat} {v : Value} {d : DataW H} {p : List MemPlace}
theorem ad5 {fuel : Nat} {cs : List Value} {x : DataW H × List MemPlace} (h : DataW.trod enc prog W 0 (fun _ => true) true fuel 43 cs = some x) : ∃ s m : Int, cs = er s m := by
 obtain ⟨xs, k, _, _, hlen, hn, hel⟩ := DataW.trod_struct underlying43 h;rw [agP] at hlen;have hn' : xs.length = 2 := hn
 match cs, hlen, xs, hn' with
 |[a, b], _, [y0, y1], _ =>
  have e0 : DataW.trod enc prog W 0 (fun _ => true) true k 3 ((List.drop 0 [a, b]).take (prog.cellsOf 3)) = some y0 := hel 0 _ rfl;rw [adp] at e0;have e1 : DataW.trod enc prog W 0 (fun _ => true) true k 3 ((List.drop 1 [a, b]).take (prog.cellsOf 3)) = some y1 := hel 1 _ rfl;rw [adp] at e1;obtain ⟨s, rfl⟩ := aeY (show DataW.trod enc prog W 0 (fun _ => true) true k 3 [a] = some y0 from e0);obtain ⟨m, rfl⟩ := aeY (show DataW.trod enc prog W 0 (fun _ => true) true k 3 [b] = some y1 from e1);exact ⟨s, m, rfl⟩
end
def adr : Elt (Int × Int) where
 s := 52
 t := 43
 n := 2
 by_ := 16
 cel x := er x.1 x.2
 d := (0, 0)
 z := .agg #[.int .i64 0, .int .i64 0]
 pos := by omega
 small := by omega
 len _ := rfl
 one x v hv := by simp [er] at hv; rcases hv with rfl | rfl <;> rfl
 und := underlying52
 info := by kernel_rfl
 zc := rfl
theorem RdE.plc {w : World} {B n : Nat} {A : Option Addr} {l : List (Int × Int)} (h : RdE adr w B A n l) {k : Nat} (hk : k < n) : ∃ b off, A = some ⟨b, off, none⟩ /\ b < B /\ w.rangeAt b (off + k * 2) (er (l.getD k (0, 0)).1 (l.getD k (0, 0)).2) := h.2 k hk
theorem ahT {H : Type} {enc : TypeId × Value -> H} {W : World} {base : Nat} {v : Value} {d : DataW H} {p : List MemPlace} (hv : Value.okWide prog W .any base 52 v) (h : DataW.Trod enc prog W 0 (fun _ => true) true 52 v d p) :
  ∃ (A : Option Addr) (n c : Nat) (l : List (Int × Int)), v = .slice A n c /\ RdE adr W W.heap.size A n l /\ n <= c /\ c <= maxLen := by
 obtain ⟨A, n, c, l, h1, h2, h3, h4, _⟩ := aa0 adr (fun _ => True) (by kernel_rfl) hv h (fun fuel cs x h => by
  obtain ⟨s, m, e⟩ := ad5 h;exact ⟨(s, m), e, trivial⟩)
 exact ⟨A, n, c, l, h1, h2, h3, h4⟩
end Go.Proofs.YtdmhelalbemlcaaGreatDoor
