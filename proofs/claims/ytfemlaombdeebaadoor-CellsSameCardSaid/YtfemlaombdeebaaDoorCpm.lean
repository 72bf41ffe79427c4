/-
  A record as it is laid: its bytes behind so many cells; a row of sectors made, a block appended to it where it lies.
-/
import Derived.Test.YtfemlaombdeebaaDoorCpl
import Derived.Test.YtfemlaombdeebaaDoorBlkH
import Derived.Test.YtfemlaombdeebaaDoorBlkX
namespace Go.Proofs.YtfemlaombdeebaaDoor
open Go.RowKit
set_option linter.unusedVariables false
set_option linter.unusedSimpArgs false
set_option maxRecDepth 100000

/-- So many bytes 0. -/
def zer (n : Nat) : List UInt8 := List.replicate n 0
theorem zer_length (n : Nat) : (zer n).length = n := by simp [zer]
theorem zer_add (a b : Nat) : zer (a + b) = zer a ++ zer b := by simp [zer]
theorem zer_one : zer 1 = [0] := rfl
theorem splice_at {a z c x : List UInt8} {p : Nat} (hp : a.length = p) (hz : z.length = x.length) : splice (a ++ (z ++ c)) p x = a ++ (x ++ c) := by
  subst hp
  unfold splice
  rw [List.take_left' rfl, ← List.drop_drop, List.drop_left' rfl, List.drop_left' hz]
/-- The record's bytes behind k cells. -/
def lyL (l : List Cl) (k : Nat) : List UInt8 := rowC (l.take k) ++ (zer (64 * hd l.length - 4 * k) ++ (byts (blks (l.take k)) ++ zer (64 * l.length - 64 * k)))
/-- .. and the next cell's place. -/
def lyA (l : List Cl) (k : Nat) (s : Nat) : List UInt8 := splice (lyL l k) (4 * k) (digL 8 2 s)
def lyB (l : List Cl) (k : Nat) (s m : Nat) : List UInt8 := splice (lyA l k s) (4 * k + 2) (digL 8 1 m)
theorem lyL_zero (l : List Cl) : lyL l 0 = zer (64 * (hd l.length + l.length)) := by
  unfold lyL
  rw [List.take_zero, Nat.mul_add, zer_add]
  rfl
theorem lyL_all (l : List Cl) : lyL l l.length = byts (recL l) := by
  unfold lyL
  rw [byts_recL, List.take_length, Nat.sub_self, show zer 0 = [] from rfl, List.append_nil, List.append_assoc]
  rfl
section
variable {l : List Cl} {k s m : Nat} {b : Blk} (hk : k < l.length)
include hk
theorem lyL_split : lyL l k = rowC (l.take k) ++ (zer 2 ++ (zer 1 ++ (zer 1 ++ (zer (64 * hd l.length - 4 * (k + 1)) ++ (byts (blks (l.take k)) ++ (zer 64 ++ zer (64 * l.length - 64 * (k + 1)))))))) := by
  have hle := hd_le l.length
  have e1 : zer (64 * hd l.length - 4 * k) = zer 2 ++ (zer 1 ++ (zer 1 ++ zer (64 * hd l.length - 4 * (k + 1)))) := by
    rw [← zer_add, ← zer_add, ← zer_add]
    congr 1
    omega
  have e2 : zer (64 * l.length - 64 * k) = zer 64 ++ zer (64 * l.length - 64 * (k + 1)) := by
    rw [← zer_add]
    congr 1
    omega
  unfold lyL
  rw [e1, e2]
  simp only [List.append_assoc]
theorem len_take : (rowC (l.take k)).length = 4 * k := by rw [rowC_length, List.length_take, Nat.min_eq_left (by omega)]
theorem lyA_split : lyA l k s = (rowC (l.take k) ++ digL 8 2 s) ++ (zer 1 ++ (zer 1 ++ (zer (64 * hd l.length - 4 * (k + 1)) ++ (byts (blks (l.take k)) ++ (zer 64 ++ zer (64 * l.length - 64 * (k + 1))))))) := by
  unfold lyA
  rw [lyL_split hk, splice_at (len_take hk) (by rw [zer_length, length_digL]), List.append_assoc]
theorem lyB_split : lyB l k s m = (rowC (l.take k) ++ (digL 8 2 s ++ (digL 8 1 m ++ (zer 1 ++ (zer (64 * hd l.length - 4 * (k + 1)) ++ byts (blks (l.take k))))))) ++ (zer 64 ++ zer (64 * l.length - 64 * (k + 1))) := by
  unfold lyB
  rw [lyA_split hk, splice_at (by rw [List.length_append, len_take hk, length_digL]) (by rw [zer_length, length_digL])]
  simp only [List.append_assoc]
theorem lyL_next (hx : l.getD k zeroC = ⟨(s : Int), (m : Int), b⟩) : splice (lyB l k s m) (64 * (hd l.length + k)) b.toList = lyL l (k + 1) := by
  have hle := hd_le l.length
  have hlb : (byts (blks (l.take k))).length = 64 * k := by rw [byts_length, blks_length, List.length_take, Nat.min_eq_left (by omega)]
  rw [lyB_split hk, splice_at (by simp only [List.length_append, len_take hk, length_digL, zer_length, hlb]; omega) (by rw [zer_length, toList_len])]
  have hx2 : l[k] = ⟨(s : Int), (m : Int), b⟩ := by simpa [List.getD, hk] using hx
  have et : l.take (k + 1) = l.take k ++ [⟨(s : Int), (m : Int), b⟩] := by rw [List.take_succ_eq_append_getElem hk, hx2]
  unfold lyL
  rw [et, rowC_append, show blks (l.take k ++ [⟨(s : Int), (m : Int), b⟩]) = blks (l.take k) ++ [b] from by simp [blks], byts_append, show byts [b] = b.toList from by simp [byts]]
  rw [show rowC [⟨(s : Int), (m : Int), b⟩] = digL 8 2 s ++ (digL 8 1 m ++ zer 1) from by simp [rowC, pl4, zer_one]]
  simp only [List.append_assoc]
theorem lyL_length : (lyL l k).length = 64 * (hd l.length + l.length) := by
  have hle := hd_le l.length
  unfold lyL
  simp only [List.length_append, len_take hk, zer_length, byts_length, blks_length, List.length_take]
  rw [Nat.min_eq_left (by omega)]
  omega
theorem lyA_length : (lyA l k s).length = 64 * (hd l.length + l.length) := by
  have hle := hd_le l.length
  unfold lyA
  rw [length_splice _ _ _ (by rw [lyL_length hk, length_digL]; omega), lyL_length hk]
theorem lyB_length : (lyB l k s m).length = 64 * (hd l.length + l.length) := by
  have hle := hd_le l.length
  unfold lyB
  rw [length_splice _ _ _ (by rw [lyA_length hk, length_digL]; omega), lyA_length hk]
end

/-! ### Memory -/
theorem vals_byts (l : List Blk) : vals (byts l) = flat l := byts_flat l
theorem byts_zero (n : Nat) : byts (List.replicate n zeroB) = zer (64 * n) := by
  induction n with
  | zero => rfl
  | succ n ih =>
    rw [List.replicate_succ, byts_cons, ih, show zeroB.toList = zer 64 from by decide, ← zer_add]
    congr 1
    omega
/-- Sectors made: 0s. -/
theorem rowL_made (w : World) (n : Nat) : RowL (w.alloc (.cells (madeCells (cel zeroB).toArray (n * 64)) 38)) w.heap.size 38 (zer (64 * n)) := by
  have h := holdsB_made w n
  unfold HoldsB at h
  unfold RowL
  rw [h, ← byts_zero, vals_byts]
theorem RowL.holds {w : World} {g : Nat} {l : List Blk} (h : RowL w g 38 (byts l)) : HoldsB w g l := by
  unfold HoldsB
  unfold RowL at h
  rw [h, vals_byts]
theorem HoldsB.made {w : World} {g B : Nat} {l : List Blk} (h : HoldsB w g l) (hB : B ≤ g) (hm : l.length ≤ maxLen) : MadeB w B (.slice (some ⟨g, 0, none⟩) l.length l.length) l := by
  refine ⟨flat_length l, .inr ⟨g, l.length, _, rfl, hB, h, Nat.le_refl _, hm, by rw [List.size_toArray, flat_length], ?_⟩⟩
  exact List.take_of_length_le (by rw [flat_length]; exact Nat.le_refl _)
section
variable {ρ : Operand → Value} {o : Oper} {x y : Operand} {w : World} {n m : Nat}
theorem exec_makeC (ho : o.op = .makeSlice 22 x y) (hx : ρ x = .int .i64 (n : Int)) (hy : ρ y = .int .i64 (m : Int)) (hn : n ≤ m) (hm : m ≤ 4398046511104) :
    (execOp ρ o).run Tryd.prog w = .ok (.value (.slice (some ⟨w.heap.size, 0, none⟩) n m)) (w.alloc (.cells (madeCells (cel zeroB).toArray (m * 64)) 38)) := by
  obtain ⟨i0, hi, hz0, hz1, hz2⟩ := info_parts infoB
  have hr := run_make (P := Tryd.prog) w 22 38 i0 (blk zeroB) underS hi hz0 .i64 .i64 n m (by omega) (by omega) (by rw [hz2]; omega) (by omega)
  rw [hz1, cells_blk] at hr
  simp only [Int.toNat_natCast] at hr
  unfold execOp
  simp only [ho, hx, hy, Sem.run_bind, hr, Result.andThen_ok, Sem.run_pure]
end
section
variable {ρ : Operand → Value} {o : Oper} {x : Operand} {w : World} {t e : TypeId} {A : Option Addr} {n c : Nat}
theorem exec_lenT (hu : Tryd.prog.underlying t = some (.slice e)) (ho : o.op = .call { callee := .builtin .len, args := #[x], argTypes := #[t] }) (hx : ρ x = .slice A n c) : (execOp ρ o).run Tryd.prog w = .ok (.value (.int .i64 (n : Int))) w := by
  simp [execOp, ho, resolve, invoke, builtin, hx, Builtin.len_, run_underlying hu, Result.andThen]
  rfl
theorem exec_lenC (ho : o.op = .call { callee := .builtin .len, args := #[x], argTypes := #[24] }) (hx : ρ x = .slice A n c) : (execOp ρ o).run Tryd.prog w = .ok (.value (.int .i64 (n : Int))) w := exec_lenT Tryd.underlying24 ho hx
theorem exec_lenB (ho : o.op = .call { callee := .builtin .len, args := #[x], argTypes := #[22] }) (hx : ρ x = .slice A n c) : (execOp ρ o).run Tryd.prog w = .ok (.value (.int .i64 (n : Int))) w := exec_lenT Tryd.underlying22 ho hx
theorem exec_lenU (ho : o.op = .call { callee := .builtin .len, args := #[x], argTypes := #[49] }) (hx : ρ x = .slice A n c) : (execOp ρ o).run Tryd.prog w = .ok (.value (.int .i64 (n : Int))) w := exec_lenT Tryd.underlying49 ho hx
end
/-- A list of one block. -/
theorem exec_mk1B {ρ : Operand → Value} {o : Oper} {x : Operand} {w : World} {b : Blk} (ho : o.op = .buildSlice 22 1 #[(0, x)]) (hx : ρ x = blk b) :
    (execOp ρ o).run Tryd.prog w = .ok (.value (.slice (some ⟨w.heap.size, 0, none⟩) 1 1)) (w.alloc (.cells (cel b).toArray 38)) := by
  have h := exec_buildS (ρ := ρ) (o := o) (w := w) (n := 1) (parts := [(0, x)]) [b] ho (by simp [hx]) rfl (by omega) (by omega)
  rw [h]
  simp [flat]
/-- A block appended to a row that has room, known whole. -/
theorem wpList_appL {w : World} {ops : Array Oper} {rest : List Oper} {o : Oper} {a : Act} {Q : Exit → Act → World → Prop} (hgd : o.guard = none) (s x : Operand)
    (ho : o.op = .call { callee := .builtin .append, args := #[s, x], argTypes := #[22, 22] })
    (g n c q : Nat) (L : List UInt8) (b : Blk) (hs : a.eval s = .slice (some ⟨g, 0, none⟩) n c) (hx : a.eval x = .slice (some ⟨q, 0, none⟩) 1 1) (hr : RowL w g 38 L) (hq : w.rangeAt q 0 (cel b)) (hn : n + 1 ≤ c) (hf : 64 * (n + 1) ≤ L.length)
    (h : ∀ w', RowL w' g 38 (splice L (64 * n) b.toList) → w.grownBy w' (some g) → wpList Tryd.prog ops Q rest (a.put o.dst (.slice (some ⟨g, 0, none⟩) (n + 1) c)) w') : wpList Tryd.prog ops Q (o :: rest) a w := by
  obtain ⟨i0, hi, hz0, hz1, hz2⟩ := info_parts infoB
  refine wpList_plain hgd fun K hK => ?_
  have hrun := run_append_room (P := Tryd.prog) w 22 o.type 38 i0 underS hi g n c (vals L).toArray hr ⟨q, 0, none⟩ 1 1 (cel b) (by rw [cel_length, hz1]) (fun j u hu => by
    rw [Addr.add_mid]
    exact hq j u hu) (cel_one b) hn (by rw [hz1, cel_length, List.size_toArray, vals_length]; omega)
  have e : (vals L).toArray.toList.take (n * i0.size) ++ cel b ++ (vals L).toArray.toList.drop (n * i0.size + (cel b).length) = vals (splice L (64 * n) b.toList) := by
    rw [← splice_vals, hz1, Nat.mul_comm n 64, cel_length]
    unfold splice
    rw [vals_length, toList_len, List.append_assoc]
    rfl
  rw [e] at hrun
  have hrow := setRow_heap w g (vals L).toArray (vals (splice L (64 * n) b.toList)).toArray 38 (0, 0) hr
  unfold Oper.wp
  simp [execOp, ho, resolve, invoke, builtin, hs, hx, hrun, Result.andThen]
  exact hK _ _ (h _ hrow ⟨rfl, rfl, rfl, by simp [World.setRow], fun k hk hne => setRow_other w g k _ (fun e => hne (by rw [e]))⟩)
/-- What stands while a record is laid: the row of sectors, the cell that is laid. -/
structure LaidC (B : Nat) (w0 w : World) (g q : Nat) (x : Cl) (L : List UInt8) : Prop where
  row : RowL w g 38 L
  cl : w.heap[q]? = some (.cells (celC x).toArray 46 (0, 0))
  bel : Below B w0 w
  g0 : B ≤ g
  ne : q ≠ g
section
variable {B : Nat} {w0 w w' : World} {g q : Nat} {x : Cl} {L L' : List UInt8}
theorem LaidC.grow (h : LaidC B w0 w g q x L) (hB : B ≤ w0.heap.size) (hr : RowL w' g 38 L') (hg : w.grownBy w' (some g)) : LaidC B w0 w' g q x L' :=
  ⟨hr, grown_blk h.cl hg h.ne, h.bel.grown hg (Nat.le_trans hB h.bel.size) (fun k hk => by injection hk with e; have := h.g0; omega), h.g0, h.ne⟩
theorem LaidC.draw (h : LaidC B w0 w g q x L) : LaidC B w0 w.drew g q x L := ⟨h.row, h.cl, bd h.bel, h.g0, h.ne⟩
theorem LaidC.past (h : LaidC B w0 w g q x L) (hB : B ≤ w0.heap.size) (o : Obj) : LaidC B w0 (w.alloc o) g q x L := ⟨h.row.past o, blk_past h.cl o, h.bel.alloc (Nat.le_trans hB h.bel.size) o, h.g0, h.ne⟩
theorem LaidC.rng (h : LaidC B w0 w g q x L) : w.rangeAt q 0 (celC x) := rng_at h.cl
theorem LaidC.cells (h : LaidC B w0 w g q x L) : w.cell? ⟨q, 0, none⟩ = some (.int .i64 x.s) ∧ w.cell? ⟨q, 1, none⟩ = some (.int .i64 x.m) ∧ w.rangeAt q 2 (cel x.b) := by
  have h1 := pl_cells (cl_place h.rng)
  have h2 := cl_blk h.rng
  exact ⟨h1.1, h1.2, h2⟩
end
end Go.Proofs.YtfemlaombdeebaaDoor
