import Derived.Test.YtcafafdimcecpaaGreatDoorNlad
import Derived.OrdersHeld
import Derived.Test.YtcafafdimcecpaaGreatDoorNlab
import Derived.Test.YtcafafdimcecpaaGreatDoorNlac
import Derived.Test.YtcafafdimcecpaaGreatDoorNlZ
namespace Go.Proofs.YtcafafdimcecpaaGreatDoor
open Go.RowKit
set_option linter.unusedVariables false
set_option maxRecDepth 100000
theorem bt_pad {b : List UInt8} {j : Nat} : bt (bX b) j = if j < b.length then bt b j else 0 := by
  unfold bX
  split
  · rename_i h; exact bU h
  · rename_i h; rw [cv (by omega), bt_noughts]
theorem bt_head {n : Nat} {b : List UInt8} {j : Nat} : bt (dy n b) j = if j < 8 then bt (aT 8 8 n) j else if j < 8 + b.length then bt b (j - 8) else 0 := by
  unfold dy
  split
  · rename_i h; exact bU (by rw [ax]; exact h)
  · rename_i h
    rw [cv (by rw [ax]; omega), ax, bt_pad]
    by_cases h2 : j < 8 + b.length
    · rw [if_pos (by omega), if_pos h2]
    · rw [if_neg (by omega), if_neg h2]
theorem bt_seal {n : Nat} {b : List UInt8} {j : Nat} (hb : b.length ≤ 44) : bt (cW n b) j = if j < 52 then bt (dy n b) j else if j < 56 then bt (aT 8 4 (more 0 (dy n b))) (j - 52) else bt (aT 8 8 n) (j - 56) := by
  have h52 := dL n hb
  unfold cW
  split
  · rename_i h; exact bU (by omega)
  · rename_i h
    rw [cv (by omega), h52]
    split
    · rename_i h2; exact bU (by rw [ax]; omega)
    · rename_i h2; rw [cv (by rw [ax]; omega), ax, show j - 52 - 4 = j - 56 from by omega]
def noSum (n : Nat) (b : List UInt8) : List UInt8 := splice (splice (splice al.toList 0 (aT 8 8 n)) 56 (aT 8 8 n)) 8 b
theorem noSum_1 (n : Nat) : (splice al.toList 0 (aT 8 8 n)).length = 64 := by rw [length_splice _ _ _ (by simp [ax])]; simp
theorem noSum_2 (n : Nat) : (splice (splice al.toList 0 (aT 8 8 n)) 56 (aT 8 8 n)).length = 64 := by rw [length_splice _ _ _ (by rw [noSum_1, ax]; omega), noSum_1]
section
variable {n : Nat} {b : List UInt8} (hb : b.length ≤ 44)
include hb
theorem fb : (noSum n b).length = 64 := by unfold noSum; rw [length_splice _ _ _ (by rw [noSum_2]; omega), noSum_2]
theorem bt_noSum {j : Nat} : bt (noSum n b) j = if 8 ≤ j ∧ j < 8 + b.length then bt b (j - 8) else if 56 ≤ j ∧ j < 64 then bt (aT 8 8 n) (j - 56) else if j < 8 then bt (aT 8 8 n) j else 0 := by
  unfold noSum
  have hz : bt al.toList j = 0 := by
    have : al.toList = List.replicate 64 0 := by decide
    rw [this, bt_noughts]
  rw [bt_splice (by rw [noSum_2]; omega), bt_splice (by rw [noSum_1, ax]; omega), bt_splice (by simp [ax]), ax, hz]
  congr 2
  by_cases h : j < 8
  · rw [if_pos (by omega), if_pos h, Nat.sub_zero]
  · rw [if_neg (by omega), if_neg h]
theorem noSum_head : piece (noSum n b) 0 52 = dy n b := by
  refine eQ (by rw [bn (by rw [fb hb]; omega), dL n hb]) fun j hj => ?_
  rw [bn (by rw [fb hb]; omega)] at hj
  rw [ei hj, Nat.zero_add, bt_noSum hb, bt_head]
  by_cases h8 : j < 8
  · rw [if_neg (by omega), if_neg (by omega), if_pos h8, if_pos h8]
  · by_cases h2 : j < 8 + b.length
    · rw [if_pos (by omega), if_neg h8, if_pos h2]
    · rw [if_neg (by omega), if_neg (by omega), if_neg h8, if_neg h8, if_neg h2]
theorem noSum_seal : splice (noSum n b) 52 (aT 8 4 (more 0 (dy n b))) = cW n b := by
  have h64 := fb (n := n) hb
  refine eQ (by rw [length_splice _ _ _ (by rw [h64, ax]; omega), h64, sealL_length n hb]) fun j hj => ?_
  rw [length_splice _ _ _ (by rw [h64, ax]; omega), h64] at hj
  rw [bt_splice (by rw [h64, ax]; omega), bt_seal hb, ax, bt_noSum hb, bt_head]
  by_cases h52 : j < 52
  · rw [if_neg (by omega), if_pos h52]
    by_cases h8 : j < 8
    · rw [if_neg (by omega), if_neg (by omega), if_pos h8, if_pos h8]
    · by_cases h2 : j < 8 + b.length
      · rw [if_pos (by omega), if_neg h8, if_pos h2]
      · rw [if_neg (by omega), if_neg (by omega), if_neg h8, if_neg h8, if_neg h2]
  · by_cases h56 : j < 56
    · rw [if_pos (by omega), if_neg h52, if_pos h56]
    · rw [if_neg (by omega), if_neg h52, if_neg h56, if_neg (by omega), if_pos (by omega)]
end
theorem cells5 {w : World} {b : Nat} {t : TypeId} {x y z u v : Value} (h : w.heap[b]? = some (.cells #[x, y, z, u, v] t (0, 0))) : w.cell? ⟨b, 0, none⟩ = some x ∧ w.cell? ⟨b, 1, none⟩ = some y ∧ w.cell? ⟨b, 2, none⟩ = some z ∧ w.cell? ⟨b, 3, none⟩ = some u ∧ w.cell? ⟨b, 4, none⟩ = some v := by
  refine ⟨?_, ?_, ?_, ?_, ?_⟩
  · rw [cell_of_row w b 0 _ t (0, 0) h]; rfl
  · rw [cell_of_row w b 1 _ t (0, 0) h]; rfl
  · rw [cell_of_row w b 2 _ t (0, 0) h]; rfl
  · rw [cell_of_row w b 3 _ t (0, 0) h]; rfl
  · rw [cell_of_row w b 4 _ t (0, 0) h]; rfl
def PartsAt (w : World) (p g : Nat) : Prop := w.heap[p]? = some (.cells (eu g) 206 (0, 0))
theorem PartsAt.cells {w : World} {p g : Nat} (h : PartsAt w p g) : w.cell? ⟨p, 0, none⟩ = some (.slice (some ⟨g, 0, none⟩) 8 8) ∧ w.cell? ⟨p, 1, none⟩ = some (.slice (some ⟨g, 8, none⟩) 44 44) ∧ w.cell? ⟨p, 2, none⟩ = some (.slice (some ⟨g, 52, none⟩) 4 4) ∧ w.cell? ⟨p, 3, none⟩ = some (.slice (some ⟨g, 56, none⟩) 8 8) ∧ w.cell? ⟨p, 4, none⟩ = some (.slice (some ⟨g, 0, none⟩) 52 52) := cells5 h
theorem PartsAt.grown {w w' : World} {p g k : Nat} (h : PartsAt w p g) (hk : p ≠ k) (hb : w.grownBy w' (some k)) : PartsAt w' p g := (hb.block p (aP h) (fun e => hk (by injection e))).trans h
theorem PartsAt.below {w w' : World} {p g B : Nat} (h : PartsAt w p g) (hB : p < B) (hb : Below B w w') : PartsAt w' p g := blk_keep2 h hB hb
structure PutW (B : Nat) (w w' : World) (r g p : Nat) (l : List UInt8) : Prop where
  res : bD w' r 65 al.toList
  row : bD w' g 65 l
  par : PartsAt w' p g
  bel : Below B w w'
  r0 : B ≤ r
  g0 : B ≤ g
  rg : r ≠ g
  pg : p ≠ g
theorem PutW.turn {B : Nat} {w w1 w2 : World} {r g p : Nat} {l l' : List UInt8} (h : PutW B w w1 r g p l) (hr : bD w2 g 65 l') (hg : w1.grownBy w2 (some g)) (hB : B ≤ w.heap.size) : PutW B w w2 r g p l' :=
  ⟨h.res.grown h.rg hg, hr, h.par.grown h.pg hg, h.bel.grown hg (Nat.le_trans hB h.bel.size) (fun k hk => by injection hk with e; have := h.g0; omega), h.r0, h.g0, h.rg, h.pg⟩
theorem PutW.draw {B : Nat} {w w1 : World} {r g p : Nat} {l : List UInt8} (h : PutW B w w1 r g p l) : PutW B w w1.drew r g p l := ⟨h.res, h.row, h.par, bd h.bel, h.r0, h.g0, h.rg, h.pg⟩
section
variable {ρ : Operand → Value} {o : Oper} {x y z : Operand} {w : World} {t : TypeId} {n : Nat} {a : Value} {ad : Addr} {A : Option Addr} {m c : Nat}
theorem exec_cv32 (ho : o.op = .convert 68 35 x) (hx : ρ x = .int .u32 (n : Int)) (hn : n < 4294967296) : (execOp ρ o).run Tryz.prog w = .ok (.value (.int .u64 (n : Int))) w := by
  have h : IntKind.u64.wrap (n : Int) = (n : Int) := IntWalk.u64_in _ ⟨by omega, by omega⟩
  have hc : (convert 68 35 (.int .u32 (n : Int))).run Tryz.prog w = .ok (.int .u64 (n : Int)) w := by simp [convert, go_sem, h]
  unfold execOp
  simp only [ho, hx, Sem.run_bind, hc, Result.andThen_ok, Sem.run_pure]
theorem ldS (h : w.cell? ad = some (.slice A m c)) : (Instr.loadAt 160 (.pointer (some ad))).run Tryz.prog w = .ok (.slice A m c) w := by simp [go_sem, h]
theorem faP2 {b : Nat} : (Instr.fieldAt 206 (.pointer (some ⟨b, 0, none⟩)) 2).run Tryz.prog w = .ok (.pointer (some ⟨b, 2, none⟩)) w := by kernel_rfl
theorem faP4 {b : Nat} : (Instr.fieldAt 206 (.pointer (some ⟨b, 0, none⟩)) 4).run Tryz.prog w = .ok (.pointer (some ⟨b, 4, none⟩)) w := by kernel_rfl
end
set_option maxHeartbeats 1000000 in
theorem put_arg (m c : Nat) (A : Option Addr) (b : List UInt8) (w : World) (hb : b.length = m) :
    Calls Tryz.prog 164 #[.int .u64 0, .slice A m c] w fun e w' => e = .returned (.tuple #[blk (putB 0 b), .int .i64 (putE 0 b : Nat)]) ∧ Below w.heap.size w w' := by
  have hA := (Below.refl w.heap.size w).alloc (Nat.le_refl _) (.cells (cel al).toArray 65)
  have HT := Lib.hid (cZ w al 65)
  have HA := Lib.hid hA
  clear hA
  rw [show putB 0 b = al from rfl, show putE 0 b = 2 from rfl]
  go_enter Tryz.func164, Tryz.ntmps164
  go_wp2_with (first | (refine ai rfl (aK rfl) ?_) | (refine ai rfl (bQ (c := al) (parts := []) rfl rfl) ?_) | (refine aF rfl (aH rfl rfl rfl HT.out) ?_))
  refine bodyPost_ret (bL rfl _ _ _ rfl (World.rangeAt_setCells_same _ _ _ _ (by rw [aw]; exact HT.out))) rfl ⟨rfl, below_setCells HA.out (Nat.le_refl _) _⟩
set_option maxHeartbeats 1000000 in
theorem put_long (n m c : Nat) (A : Option Addr) (b : List UInt8) (w : World) (hb : b.length = m) (h0 : 0 < n) (hm : 44 < m) (hm2 : m ≤ maxLen) :
    Calls Tryz.prog 164 #[.int .u64 n, .slice A m c] w fun e w' => e = .returned (.tuple #[blk (putB n b), .int .i64 (putE n b : Nat)]) ∧ Below w.heap.size w w' := by
  have hA := (Below.refl w.heap.size w).alloc (Nat.le_refl _) (.cells (cel al).toArray 65)
  have HT := Lib.hid (cZ w al 65)
  have HA := Lib.hid hA
  have hE : putE n b = 3 := by unfold putE; rw [if_neg (by omega), if_pos (by omega)]
  have hB : putB n b = al := by unfold putB; rw [hE]; rfl
  rw [hE, hB]
  unfold maxLen at hm2
  clear hA hE hB hb
  have hz : ((n : Int) == 0) = false := by simp; omega
  go_enter Tryz.func164, Tryz.ntmps164
  go_wp2_with (first | (refine ai rfl (aK rfl) ?_) | (refine ai rfl (bQ (c := al) (parts := []) rfl rfl) ?_) | (refine aF rfl (aH rfl rfl rfl HT.out) ?_))
  refine bodyPost_ret (bL rfl _ _ _ rfl (World.rangeAt_setCells_same _ _ _ _ (by rw [aw]; exact HT.out))) rfl ⟨rfl, below_setCells HA.out (Nat.le_refl _) _⟩
theorem dU {a x : List UInt8} (h : a.length + x.length ≤ 44) : splice (bX a) a.length x = bX (a ++ x) := by
  unfold splice bX
  rw [List.take_append_of_le_length (Nat.le_refl _), List.take_length, List.drop_append]
  rw [List.drop_of_length_le (by omega), List.nil_append, List.drop_replicate, List.append_assoc, List.length_append]
  congr 3
  omega
def z44 : List UInt8 := List.replicate 44 0
theorem z44_length : z44.length = 44 := rfl
def aO (x : Nte) : List Value := [.int .u64 x.seq, .int .u64 x.pos, .int .i64 x.cells, .int .u32 x.sum]
def nte (x : Nte) : Value := .agg (aO x).toArray
theorem celNt_length (x : Nte) : (aO x).length = 4 := rfl
theorem celNt_one (x : Nte) : ∀ v ∈ aO x, v.oneCell' = true := by
  intro v hv
  simp only [aO, List.mem_cons, List.not_mem_nil, or_false] at hv
  rcases hv with rfl | rfl | rfl | rfl <;> rfl
theorem sizeNt : (Tryz.prog.info? 70).map (·.size) = some 4 := by kernel_rfl
theorem zeroNt_info : (Tryz.prog.info? 70).map (fun i => i.zero) = some (some (nte aI)) := by kernel_rfl
section
variable {ρ : Operand → Value} {o : Oper} {x y : Operand} {w : World} {b off : Nat}
theorem aU {c : Nte} (ho : o.op = .load 70 x) (hx : ρ x = .pointer (some ⟨b, off, none⟩)) (hc : w.rangeAt b off (aO c)) : (execOp ρ o).run Tryz.prog w = .ok (.value (nte c)) w :=
  dI Tryz.underlying70 rfl sizeNt ho hx hc
theorem cC {c : Nte} (ho : o.op = .box 70 x) (hx : ρ x = nte c) : (execOp ρ o).run Tryz.prog w = .ok (.value (.pointer (some ⟨w.heap.size, 0, none⟩))) (w.alloc (.cells (aO c).toArray 70)) := er ho hx
theorem ce (ho : o.op = .alloc 70) : (execOp ρ o).run Tryz.prog w = .ok (.value (.pointer (some ⟨w.heap.size, 0, none⟩))) (w.alloc (.cells (aO aI).toArray 70)) := dl zeroNt_info ho
theorem dA {c d : Nte} (ho : o.op = .store 70 x y) (hx : ρ x = .pointer (some ⟨w.heap.size, 0, none⟩)) (hy : ρ y = nte c) : (execOp ρ o).run Tryz.prog (w.alloc (.cells (aO d).toArray 70)) = .ok .skip (w.alloc (.cells (aO c).toArray 70)) :=
  d5 sizeNt rfl (celNt_one c) ho hx hy
theorem fq {c : Nte} (ho : o.op = .store 70 x y) (hx : ρ x = .pointer (some ⟨b, off, none⟩)) (hy : ρ y = nte c) (ht : w.there b off 4) : (execOp ρ o).run Tryz.prog w = .ok .skip (w.setCells b off (aO c)) :=
  exec_putT sizeNt (celNt_one c) ho hx hy ht
theorem run_bldNt (w : World) : (Instr.build 70 #[]).run Tryz.prog w = .ok (nte aI) w := by kernel_rfl
theorem exec_bldNt (ho : o.op = .build 70 #[]) : (execOp ρ o).run Tryz.prog w = .ok (.value (nte aI)) w := exec_bld0 ho (run_bldNt w)
end
def bN (w : World) (b : Nat) (x : Nte) : Prop := w.heap[b]? = some (.cells (aO x).toArray 70 (0, 0))
section
variable {w w' : World} {b : Nat} {x : Nte}
theorem bN.range (h : bN w b x) : w.rangeAt b 0 (aO x) := dC h
theorem bN.cells (h : bN w b x) : w.cell? ⟨b, 0, none⟩ = some (.int .u64 x.seq) ∧ w.cell? ⟨b, 1, none⟩ = some (.int .u64 x.pos) ∧ w.cell? ⟨b, 2, none⟩ = some (.int .i64 x.cells) ∧ w.cell? ⟨b, 3, none⟩ = some (.int .u32 x.sum) :=
  ⟨h.range 0 _ rfl, h.range 1 _ rfl, h.range 2 _ rfl, h.range 3 _ rfl⟩
theorem bN.below {B : Nat} (h : bN w b x) (hB : b < B) (hb : Below B w w') : bN w' b x := blk_keep2 h hB hb
theorem bN.new (w : World) (x : Nte) : bN (w.alloc (.cells (aO x).toArray 70)) w.heap.size x := heap_alloc_new w _
theorem bN.past (h : bN w b x) (o : Obj) : bN (w.alloc o) b x := bJ h o
theorem bN.there (h : bN w b x) : w.there b 0 4 := dF (o := 0) (n := 4) h (Nat.le_refl _)
theorem df (w : World) (x : Nte) : bN (w.alloc (.cells (aO x).toArray 70)) w.heap.size x ∧ Below w.heap.size w (w.alloc (.cells (aO x).toArray 70)) ∧ w.heap.size < (w.alloc (.cells (aO x).toArray 70)).heap.size :=
  ⟨bN.new w x, (Below.refl _ w).alloc (Nat.le_refl _) _, by rw [World.size_alloc]; omega⟩
end
def aR : Elt Nte where
  s := 86
  t := 70
  n := 4
  by_ := 32
  cel := aO
  d := aI
  z := nte aI
  pos := by omega
  small := by omega
  len := celNt_length
  one := celNt_one
  und := Tryz.underlying86
  info := by kernel_rfl
  zc := by show (Value.cells (.agg _)).size = 4; simp [Value.cells, aO]
def Shp (M M' : BenS) : Prop := M'.ds.length = M.ds.length ∧ ∀ i, (M'.ds.getD i bk).S.length = (M.ds.getD i bk).S.length
theorem Shp.refl (M : BenS) : Shp M M := ⟨rfl, fun _ => rfl⟩
theorem Shp.trans {M M' M'' : BenS} (h : Shp M M') (k : Shp M' M'') : Shp M M'' := ⟨k.1.trans h.1, fun i => (k.2 i).trans (h.2 i)⟩
theorem Shp.put {M M' : BenS} {k : Nat} {d : DevS} (h : Shp M M') (hd : d.S.length = (M'.ds.getD k bk).S.length) : Shp M (M'.put k d) := by
  refine ⟨by show (M'.ds.set k d).length = _; rw [List.length_set]; exact h.1, fun i => ?_⟩
  show ((M'.ds.set k d).getD i bk).S.length = _
  by_cases e : i = k
  · subst e
    by_cases hl : i < M'.ds.length
    · rw [cw hl, hd]; exact h.2 i
    · rw [show M'.ds.set i d = M'.ds from List.set_eq_of_length_le (by omega)]; exact h.2 i
  · rw [bl e]; exact h.2 i
theorem dev_getD (M : BenS) (d : Int) : (M.dev d) = M.ds.getD d.toNat bk := rfl
theorem shp_wr (M : BenS) (d n : Int) (b : Blk) : Shp M (wrS6 M d n b) := by
  unfold wrS6
  split
  · split
    · exact Shp.refl M
    · exact Shp.put (M' := M.done) (Shp.refl M) rfl
  · exact Shp.refl M
theorem shp_fl (M : BenS) (d : Int) : Shp M (flS6 M d) := by
  unfold flS6
  split
  · split
    · exact Shp.refl M
    · exact Shp.put (M' := M.done) (Shp.refl M) (eZ _ _)
  · exact Shp.refl M
theorem shp_stp (d : Int) (M : BenS) (s : Stp) : Shp M (stpS d M s) := by
  cases s with
  | wr n b => exact shp_wr M d n b
  | fl => exact shp_fl M d
theorem shp_go (d : Int) (l : List Stp) : ∀ M, Shp M (goB d M l) := by
  induction l with
  | nil => intro M; exact Shp.refl M
  | cons s l ih =>
    intro M
    by_cases h : stpE d M s = 0
    · rw [(go_ok h).2]; exact (shp_stp d M s).trans (ih _)
    · rw [(go_no h).2]; exact shp_stp d M s
theorem rd_same {M : BenS} {k : Nat} {m n : Int} (hm : 0 ≤ m ∧ m < (M.ds.getD k bk).S.length) (hn : 0 ≤ n ∧ n < (M.ds.getD k bk).S.length) : bT M (k : Int) m = bT M (k : Int) n := by
  unfold bT
  rw [BenS.dev_nat]
  unfold cd
  rw [if_pos hm, if_pos hn]
structure LgOk (M : BenS) (x : LgS) (N : Nat) : Prop where
  dev : x.d < M.ds.length
  len : 10 + x.size ≤ (M.ds.getD x.d bk).S.length
  siz : 40 ≤ x.size ∧ x.size ≤ 256
  own : x.own < 18446744073709551616
  use : x.used ≤ x.size
  eig : x.nts.length ≤ 8
  lim : N ≤ 1000000
  cnt : x.cnt ≤ 2305843009213693952 + N
  nxt : x.next ≤ 2305843009213693960 + N
  hed : x.head ≤ 2305843009213694208 + 40 * N
  nts : ∀ i, i < x.nts.length → 1 ≤ (x.nts.getD i aI).cells ∧ (x.nts.getD i aI).cells ≤ 32 ∧ (x.nts.getD i aI).pos = x.pos + usd (x.nts.take i) ∧ (x.nts.getD i aI).fit
section
variable {M M' : BenS} {x : LgS} {N N' : Nat} {cs : List Cl} {f : Nat} {n : Nte}
theorem LgOk.shp (h : LgOk M x N) (k : Shp M M') : LgOk M' x N := ⟨by rw [k.1]; exact h.dev, by rw [k.2]; exact h.len, h.siz, h.own, h.use, h.eig, h.lim, h.cnt, h.nxt, h.hed, h.nts⟩
theorem LgOk.with_ (h : LgOk M x N) (h8 : x.nts.length < 8) (hc : 1 ≤ n.cells ∧ n.cells ≤ 32) (hp : n.pos = x.head) (hf : n.fit) (ht : aY n ≤ x.free) (hN : N' ≤ 1000000) (h1 : x.next + 1 ≤ 2305843009213693960 + N') (h2 : x.head + aY n ≤ 2305843009213694208 + 40 * N') (h3 : x.cnt ≤ 2305843009213693952 + N') : LgOk M (x.with_ n) N' := by
  have hu := h.use
  have hfr : x.free = x.size - x.used := rfl
  refine ⟨h.dev, h.len, h.siz, h.own, by rw [with_used]; show _ ≤ x.size; omega, by show (x.nts ++ [n]).length ≤ 8; rw [List.length_append, List.length_singleton]; omega, hN, h3, by rw [with_next]; exact h1, by rw [with_head]; exact h2, fun i hi => ?_⟩
  have hi' : i < x.nts.length + 1 := by have : i < (x.nts ++ [n]).length := hi; rwa [List.length_append, List.length_singleton] at this
  show 1 ≤ ((x.nts ++ [n]).getD i aI).cells ∧ ((x.nts ++ [n]).getD i aI).cells ≤ 32 ∧ ((x.nts ++ [n]).getD i aI).pos = x.pos + usd ((x.nts ++ [n]).take i) ∧ ((x.nts ++ [n]).getD i aI).fit
  by_cases e : i = x.nts.length
  · subst e
    have e1 : (x.nts ++ [n]).getD x.nts.length aI = n := by simp [List.getD]
    rw [e1, List.take_append_of_le_length (Nat.le_refl _), List.take_length]
    exact ⟨hc.1, hc.2, hp, hf⟩
  · have hlt : i < x.nts.length := by omega
    have e1 : (x.nts ++ [n]).getD i aI = x.nts.getD i aI := by simp [List.getD, List.getElem?_append_left hlt]
    rw [e1, List.take_append_of_le_length (by omega)]
    exact h.nts i hlt
theorem LgOk.app (h : LgOk M x N) (hq : appQ x cs = 0) (hN : N + 1 ≤ 1000000) : LgOk M (x.with_ (cE x cs)) (N + 1) := by
  have hq' : recE cs = 0 ∧ x.nts.length < 8 ∧ (bC cs).length ≤ x.free := by
    unfold appQ at hq
    by_cases h1 : recE cs = 0
    · rw [if_neg (by omega)] at hq
      by_cases h2 : 8 ≤ x.nts.length ∨ x.free < (bC cs).length
      · rw [if_pos h2] at hq; cases hq
      · exact ⟨h1, by omega, by omega⟩
    · rw [if_pos h1] at hq; omega
  obtain ⟨q1, q2, q3⟩ := hq'
  obtain ⟨r1, r2, _⟩ := of_recE q1
  have ht : aY (cE x cs) = (bC cs).length := by unfold aY cE; rw [bO]; simp
  have hl := bO cs
  have hh : hd cs.length ≤ 2 := by unfold hd; omega
  have hx := h.nxt
  have hd := h.hed
  have hc := h.cnt
  have hs := sumB_lt (bC cs)
  exact h.with_ q2 ⟨by show (1 : Int) ≤ (cs.length : Int); omega, by show (cs.length : Int) ≤ 32; omega⟩ rfl ⟨by show x.next < _; omega, by show x.head < _; omega, hs⟩ (by rw [ht]; exact q3) hN (by omega) (by rw [ht]; omega) (by omega)
theorem LgOk.cut (h : LgOk M x N) (hq : clrQ x f = true) (hN : N + 1 ≤ 1000000) : LgOk M (x.cut f) (N + 1) := by
  obtain ⟨f1, f2⟩ := of_clrQ hq
  have hx := h.nxt
  have hd := h.hed
  have hc := h.cnt
  have he := h.eig
  have husd : ∀ g i, usd (x.nts.take (g + i)) = usd (x.nts.take g) + usd ((x.nts.drop g).take i) := fun g i => by rw [List.take_add, ft]
  refine ⟨h.dev, h.len, h.siz, h.own, Nat.le_trans (cut_used hq) h.use, by show (x.nts.drop _).length ≤ 8; rw [List.length_drop]; omega, hN, by show x.cnt + 1 ≤ _; omega, by rw [cut_next hq]; omega, by rw [cut_head hq]; omega, fun i hi => ?_⟩
  have hi' : i < (x.nts.drop (f - x.fst)).length := hi
  rw [List.length_drop] at hi'
  obtain ⟨n1, n2, n3, n4⟩ := h.nts (f - x.fst + i) (by omega)
  have e1 : (x.nts.drop (f - x.fst)).getD i aI = x.nts.getD (f - x.fst + i) aI := by simp [List.getD, List.getElem?_drop]
  show 1 ≤ ((x.nts.drop (f - x.fst)).getD i aI).cells ∧ ((x.nts.drop (f - x.fst)).getD i aI).cells ≤ 32 ∧ ((x.nts.drop (f - x.fst)).getD i aI).pos = x.at_ f + usd ((x.nts.drop (f - x.fst)).take i) ∧ ((x.nts.drop (f - x.fst)).getD i aI).fit
  rw [e1]
  refine ⟨n1, n2, ?_, n4⟩
  rw [n3, husd]
  unfold LgS.at_
  omega
theorem LgOk.end_ (h : LgOk M x N) {i : Nat} (hi : i < x.nts.length) : usd (x.nts.take i) + aY (x.nts.getD i aI) ≤ x.used := by
  have h1 := fz hi
  have h2 := fe x.nts (i + 1)
  unfold LgS.used
  omega
end
theorem lay_ok {M : BenS} {d : Int} {id : Nat} {r : Int} (hid : id < 18446744073709551616) (h : layQ M d id r = true) : LgOk M (layX d id r) 0 := by
  obtain ⟨h1, h2, h3, h4, h5⟩ : dr M d = 0 ∧ id ≠ 0 ∧ 40 ≤ r ∧ r ≤ 256 ∧ 10 + r ≤ bY M d := of_decide_eq_true h
  unfold bY at h5
  rw [if_pos h1, dev_getD] at h5
  rcases dx M d with ⟨e, _⟩ | ⟨_, k, rfl, hk⟩
  · omega
  · rw [Int.toNat_natCast] at h5
    refine ⟨by show (k : Int).toNat < _; rw [Int.toNat_natCast]; exact hk, by show 10 + r.toNat ≤ (M.ds.getD (k : Int).toNat bk).S.length; rw [Int.toNat_natCast]; omega, by show 40 ≤ r.toNat ∧ r.toNat ≤ 256; omega, hid, Nat.zero_le _, Nat.zero_le _, by omega, by show 1 ≤ _; omega, by show 1 + 0 ≤ _; omega, by show 0 + 0 ≤ _; omega, fun i hi => absurd hi (by show ¬ i < 0; omega)⟩
theorem opn_base {M : BenS} {d : Int} (h : opnE M d = 0) : opnQ M d = true ∧ bT M d 0 = 0 ∧ opnF M d = true := by
  unfold opnE at h
  by_cases h1 : opnQ M d = true
  · rw [if_pos h1] at h
    by_cases h2 : bT M d 0 = 0
    · rw [if_pos h2] at h
      by_cases h3 : opnF M d = true
      · exact ⟨h1, h2, h3⟩
      · rw [if_neg h3] at h; cases h
    · rw [if_neg h2] at h; exact absurd h h2
  · rw [if_neg h1] at h; cases h
theorem opn_ok0 {M : BenS} {d : Int} (h : opnE M d = 0) : LgOk M (opnX M d) 0 := by
  obtain ⟨h1, h2, h3⟩ := opn_base h
  obtain ⟨a1, a2⟩ : dr M d = 0 ∧ 50 ≤ bY M d := of_decide_eq_true h1
  obtain ⟨b1, b2, b3, b4, b5⟩ : aN.nE (cF M d 0) (cF M d 1) = 0 ∧ (dh M d).m.ring ≤ bY M d - 10 ∧ (dh M d).n ≤ 2305843009213693952 ∧ (dh M d).m.first ≤ 2305843009213693952 ∧ (dh M d).m.pos ≤ 2305843009213693952 := of_decide_eq_true h3
  have hm : aN.may (dh M d) = true ∧ aN.fits (dh M d) := by
    unfold dh Cod.nX
    unfold Cod.nE at b1
    split
    · rename_i hlt
      have : aN.gE (cF M d 1) = 0 := by
        by_cases e : aN.gE (cF M d 1) = 0
        · exact e
        · have := aN.gN_no e; omega
      exact ⟨aN.gX_may this, aN.gX_fits _⟩
    · rename_i hlt
      have : aN.gE (cF M d 0) = 0 := by
        by_cases e : aN.gE (cF M d 0) = 0
        · exact e
        · have h0 := aN.gN_no e
          rw [if_pos ⟨h0, by omega⟩] at b1
          omega
      exact ⟨aN.gX_may this, aN.gX_fits _⟩
  obtain ⟨m1, m2⟩ := hm
  obtain ⟨⟨n, m⟩, hy⟩ : ∃ y, dh M d = y := ⟨_, rfl⟩
  rw [hy] at m1 m2 b2 b3 b4 b5
  rw [el, Bool.and_eq_true] at m1
  obtain ⟨_, r1, r2, _, _, _⟩ := of_mrkB m1.2
  simp only at b2 b3 b4 b5 r1 r2
  unfold bY at a2 b2
  rw [if_pos a1, dev_getD] at a2 b2
  have hX : opnX M d = ⟨d.toNat, m.id, m.ring.toNat, n, m.first, m.pos, []⟩ := by unfold opnX; rw [hy]
  rw [hX]
  rcases dx M d with ⟨e, _⟩ | ⟨_, k, rfl, hk⟩
  · omega
  · rw [Int.toNat_natCast] at *
    exact ⟨hk, by show 10 + m.ring.toNat ≤ (M.ds.getD k bk).S.length; omega, by show 40 ≤ m.ring.toNat ∧ m.ring.toNat ≤ 256; omega, m2.2.1, Nat.zero_le _, Nat.zero_le _, by omega, by show n ≤ _; omega, by show m.first + 0 ≤ _; omega, by show m.pos + 0 ≤ _; omega, fun i hi => absurd hi (by show ¬ i < 0; omega)⟩
section
variable {ρ : Operand → Value} {o : Oper} {x y : Operand} {w : World} {A : Option Addr} {n c k B : Nat} {l : List Int} {F : Nat → Prop}
def tailI (A : Option Addr) (c k : Nat) : Option Addr := if c = k then A else A.map (fun x => x.add k)
theorem exec_tailI (ho : o.op = .slice 36 x (some y) none none) (hx : ρ x = .slice A n c) (hy : ρ y = .int .i64 (k : Int)) (hk : k ≤ n) : (execOp ρ o).run Tryz.prog w = .ok (.value (.slice (tailI A c k) (n - k) (c - k))) w := by
  unfold execOp tailI
  simp [ho, hx, hy, Instr.sliceAt, Instr.slice, Instr.sliceBounds, Instr.sliceBound, asIntOf, run_underlying Tryz.underlying36]
  intro hh
  omega
theorem RdE.tailI (h : RdE dm w B A n l) (hk : k ≤ n) (hc : n ≤ c) : RdE dm w B (Go.Proofs.YtcafafdimcecpaaGreatDoor.tailI A c k) (n - k) (l.drop k) :=
  ⟨by rw [List.length_drop, h.1], fun j hj => by
    obtain ⟨b, off, e, hb, hr⟩ := h.2 (k + j) (by omega)
    refine ⟨b, off + k, ?_, hb, ?_⟩
    · unfold Go.Proofs.YtcafafdimcecpaaGreatDoor.tailI
      rw [if_neg (by omega), e]
      simp [Addr.add_mid]
    · rw [List.getD, List.getElem?_drop, show off + k + j * dm.n = off + (k + j) * dm.n from by show off + k + j * 1 = off + (k + j) * 1; omega]
      exact hr⟩
structure Pk (w : World) (F : Nat → Prop) (A : Option Addr) (n c : Nat) (P : List Int) : Prop where
  rd : RdE dm w w.heap.size A n P
  le : n ≤ c
  cap : c ≤ maxLen
  out : ∀ x, A = some x → 0 < n → ¬ F x.block
theorem Pk.tail (h : Pk w F A n c l) (hk : k ≤ n) : Pk w F (Go.Proofs.YtcafafdimcecpaaGreatDoor.tailI A c k) (n - k) (c - k) (l.drop k) :=
  ⟨h.rd.tailI hk h.le, by have := h.le; omega, by have := h.cap; omega, fun x hx h0 => by
    have h1 := h.le
    unfold Go.Proofs.YtcafafdimcecpaaGreatDoor.tailI at hx
    rw [if_neg (by omega)] at hx
    cases A with
    | none => cases hx
    | some a =>
      have hb : x.block = a.block := by
        simp at hx
        rw [← hx]
        unfold Addr.add
        split <;> rfl
      rw [hb]
      exact h.out a rfl (by omega)⟩
theorem Pk.only {w' : World} (h : Pk w F A n c l) (k : Only F w w') : RdE dm w' w'.heap.size A n l := (h.rd.only k (Nat.le_refl _) h.out).more k.size
theorem Pk.len (h : Pk w F A n c l) : l.length = n := h.rd.1
theorem Pk.grown {w' : World} {G : Nat → Prop} (h : Pk w F A n c l) (hg : ∀ b, G b → F b ∨ w.heap.size ≤ b) : ∀ x, A = some x → 0 < n → ¬ G x.block := fun x hx h0 hf => by
  rcases hg _ hf with e | e
  · exact h.out x hx h0 e
  · obtain ⟨b, off, e1, hb, _⟩ := h.rd.2 0 h0
    rw [hx] at e1
    injection e1 with e1
    subst e1
    exact absurd e (by show ¬ w.heap.size ≤ b; omega)
end
section
variable {α : Type} {E : Elt α} {ρ : Operand → Value} {o : Oper} {x y : Operand} {w : World} {b off : Nat} {a : α} {d : TypeDesc}
theorem size_infoE (E : Elt α) : (Tryz.prog.info? E.t).map (·.size) = some E.n := by
  obtain ⟨i0, hi, hz0, hz1, hz2⟩ := info_parts E.info
  rw [hi]; simp [hz1]
theorem exec_loadE (hu : Tryz.prog.underlying E.t = some d) (hd : d.isRow = true) (ho : o.op = .load E.t x) (hx : ρ x = .pointer (some ⟨b, off, none⟩)) (hc : w.rangeAt b off (E.cel a)) : (execOp ρ o).run Tryz.prog w = .ok (.value (.agg (E.cel a).toArray)) w :=
  au ho hx (run_loadAt_mid w b off E.t (E.cel a) d hc hu hd (by rw [E.len]; exact size_infoE E))
theorem exec_allocE (ho : o.op = .alloc E.t) : (execOp ρ o).run Tryz.prog w = .ok (.value (.pointer (some ⟨w.heap.size, 0, none⟩))) (w.alloc (.cells E.z.cells E.t)) := by
  have hz := run_zeroE E w
  unfold execOp
  simp [ho, Instr.alloc, hz, newVar, newRow]
theorem exec_fillE (ho : o.op = .store E.t x y) (hx : ρ x = .pointer (some ⟨w.heap.size, 0, none⟩)) (hy : ρ y = .agg (E.cel a).toArray) : (execOp ρ o).run Tryz.prog (w.alloc (.cells E.z.cells E.t)) = .ok .skip (w.alloc (.cells (E.cel a).toArray E.t)) :=
  exec_st ho hx hy (run_storeAt_new (P := Tryz.prog) w E.t E.z.cells (E.cel a).toArray (by simpa [E.len] using size_infoE E) (by simpa [E.len] using E.zc) (all_oneCell_toArray (E.one a)))
end
section
variable {w : World} {q : Int × Blk} {t : TypeId}
theorem pair_new (w : World) (q : Int × Blk) (t : TypeId) : (w.alloc (.cells (dt q).toArray t)).cell? ⟨w.heap.size, 0, none⟩ = some (.int .i64 q.1) ∧ (w.alloc (.cells (dt q).toArray t)).rangeAt w.heap.size 1 (cel q.2) := by
  have h := bV w (dt q) t
  refine ⟨h 0 _ rfl, fun j v hj => ?_⟩
  have := h (j + 1) v hj
  rwa [show 0 + (j + 1) = 1 + j from by omega] at this
theorem RdE.pairs {s t : TypeId} {und : Tryz.prog.underlying s = some (.slice t)} {info : (Tryz.prog.info? t).map (fun i => (i.zero, i.size, i.bytes)) = some (some (pairV 0 al), 65, 72)} {B n k : Nat} {A : Option Addr} {l : List (Int × Blk)}
    (h : RdE (pairE s t und info) w B A n l) (hk : k < n) : ∃ b off, A = some ⟨b, off, none⟩ ∧ b < B ∧ w.rangeAt b (off + k * 65) (dt (l.getD k (0, al))) := h.2 k hk
end
def ptr (x : Nat) : Value := .pointer (some ⟨x, 0, none⟩)
def ptrE (s t : TypeId) (und : Tryz.prog.underlying s = some (.slice t)) (info : (Tryz.prog.info? t).map (fun i => (i.zero, i.size, i.bytes)) = some (some (.pointer none), 1, 8)) : Elt Nat where
  s := s
  t := t
  n := 1
  by_ := 8
  cel := fun x => [ptr x]
  d := 0
  z := .pointer none
  pos := by omega
  small := by omega
  len := fun _ => rfl
  one := fun a v hv => by simp only [List.mem_singleton] at hv; subst hv; rfl
  und := und
  info := info
  zc := rfl
section
variable {s t : TypeId} {und : Tryz.prog.underlying s = some (.slice t)} {info : (Tryz.prog.info? t).map (fun i => (i.zero, i.size, i.bytes)) = some (some (.pointer none), 1, 8)} {w : World} {B n k : Nat} {A : Option Addr} {l : List Nat}
theorem RdE.ptr (h : RdE (ptrE s t und info) w B A n l) (hk : k < n) : ∃ b off, A = some ⟨b, off, none⟩ ∧ b < B ∧ w.cell? ⟨b, off + k, none⟩ = some (.pointer (some ⟨l.getD k 0, 0, none⟩)) := by
  obtain ⟨b, off, e, hb, hc⟩ := h.2 k hk
  have := hc 0 (Go.Proofs.YtcafafdimcecpaaGreatDoor.ptr (l.getD k 0)) rfl
  exact ⟨b, off, e, hb, by simpa [ptrE, Go.Proofs.YtcafafdimcecpaaGreatDoor.ptr] using this⟩
end
structure BKind where
  K : DvK
  s : TypeId
  t : TypeId
  und : Tryz.prog.underlying s = some (.slice t)
  info : (Tryz.prog.info? t).map (fun i => (i.zero, i.size, i.bytes)) = some (some (.pointer none), 1, 8)
  o : TypeId
  cs : Value → Nat → Bool → Nat → Array Value
  ne : t ≠ o
def BKind.E (k : BKind) : Elt Nat := ptrE k.s k.t k.und k.info
structure BenAt (k : BKind) (w : World) (p : Nat) (v : Value) (Fs : Nat → Nat → Prop) (ps : List Nat) (M : BenS) : Prop where
  at_ : w.heap[p]? = some (.cells (k.cs v M.left M.b9 M.steps) k.o)
  row : aB k.E w 0 v ps
  devs : Devs k.K w Fs ps M.ds
  apart : ∀ i, i < M.ds.length → ∀ b, Fs i b → b ≠ p ∧ v.ownBlock ≠ some b
  one : 1 ≤ M.ds.length
  cap : M.ds.length ≤ 17
def dE (p : Nat) (v : Value) (Fs : Nat → Nat → Prop) (n : Nat) (b : Nat) : Prop := b = p ∨ v.ownBlock = some b ∨ ∃ i, i < n ∧ Fs i b
section
variable {k : BKind} {w w' : World} {p : Nat} {v : Value} {Fs : Nat → Nat → Prop} {ps : List Nat} {M : BenS} {G F' : Nat → Prop} {i : Nat}
theorem BenAt.rowp (h : BenAt k w p v Fs ps M) : v.ownBlock ≠ some p := h.row.cq h.at_ k.ne
theorem BenAt.lt (h : BenAt k w p v Fs ps M) : ∀ b, dE p v Fs M.ds.length b → b < w.heap.size := by
  intro b hb
  rcases hb with rfl | hb | ⟨i, hi, hb⟩
  · exact aP h.at_
  · exact h.row.own_lt b hb
  · exact h.devs.lt i hi b hb
theorem BenAt.only (h : BenAt k w p v Fs ps M) (ho : Only G w w') (hn : ∀ b, dE p v Fs M.ds.length b → ¬ G b) : BenAt k w' p v Fs ps M :=
  ⟨ho.keep h.at_ (hn p (.inl rfl)), h.row.only ho fun b hb => hn b (.inr (.inl hb)), h.devs.only ho fun i hi b hb => hn b (.inr (.inr ⟨i, hi, hb⟩)), h.apart, h.one, h.cap⟩
theorem BenAt.below (h : BenAt k w p v Fs ps M) (hb : Below w.heap.size w w') : BenAt k w' p v Fs ps M := h.only (Only.of_below (fun _ => False) hb) fun _ _ e => e
theorem BenAt.len (h : BenAt k w p v Fs ps M) : ps.length = M.ds.length := h.devs.len
theorem BenAt.obj (h : BenAt k w p v Fs ps M) (left : Nat) (b9 : Bool) (steps : Nat) (ho : Only (fun b => b = p) w w') (hc : w'.heap[p]? = some (.cells (k.cs v left b9 steps) k.o)) : BenAt k w' p v Fs ps ⟨M.ds, left, b9, steps⟩ :=
  ⟨hc, h.row.only ho fun b hb e => h.rowp (by rw [hb, e]), h.devs.only ho fun i hi b hb e => (h.apart i hi b hb).1 e, h.apart, h.one, h.cap⟩
theorem BenAt.turn (h : BenAt k w p v Fs ps M) (hi : i < M.ds.length) (ho : Only (Fs i) w w') (hg : Grow w (Fs i) F') {d : DevS} (hd : k.K.Dv w' F' (ps.getD i 0) d.S d.L d.g) :
    BenAt k w' p v (upF Fs i F') ps (M.put i d) := by
  refine ⟨ho.keep h.at_ (fun e => (h.apart i hi p e).1 rfl), h.row.only ho fun b hb e => (h.apart i hi b e).2 hb, h.devs.turn hi ho hg hd, fun j hj b hb => ?_, by show 1 ≤ (M.ds.set i d).length; rw [List.length_set]; exact h.one, by show (M.ds.set i d).length ≤ 17; rw [List.length_set]; exact h.cap⟩
  have hj' : j < M.ds.length := by have : j < (M.ds.set i d).length := hj; rwa [List.length_set] at this
  rcases hb with ⟨e, hb⟩ | ⟨e, hb⟩
  · rcases hg b hb with hb | hb
    · exact h.apart i hi b hb
    · have h1 := aP h.at_
      exact ⟨fun e => by omega, fun e => by have := h.row.own_lt b e; omega⟩
  · exact h.apart j hj' b hb
theorem footB_turn (hi : i < M.ds.length) (ho : Only (Fs i) w w') : Only (dE p v Fs M.ds.length) w w' := ho.widen fun b hb => .inr (.inr ⟨i, hi, hb⟩)
theorem footB_obj (n : Nat) (ho : Only (fun b => b = p) w w') : Only (dE p v Fs n) w w' := ho.widen fun b hb => .inl hb
theorem footB_grow {n : Nat} (hi : i < n) (hg : Grow w (Fs i) F') {n' : Nat} (hn : n' = n) : Grow w (dE p v Fs n) (dE p v (upF Fs i F') n') := by
  subst hn
  intro b hb
  rcases hb with e | e | ⟨j, hj, hb⟩
  · exact .inl (.inl e)
  · exact .inl (.inr (.inl e))
  · rcases hb with ⟨e, hb⟩ | ⟨e, hb⟩
    · rcases hg b hb with hb | hb
      · exact .inl (.inr (.inr ⟨i, hi, hb⟩))
      · exact .inr hb
    · exact .inl (.inr (.inr ⟨j, hj, hb⟩))
theorem BenAt.slice (h : BenAt k w p v Fs ps M) : ∃ g c, v = .slice (some ⟨g, 0, none⟩) M.ds.length c ∧ M.ds.length ≤ c ∧ c ≤ maxLen := by
  have hl := h.len
  have h1 := h.one
  rcases h.row.2 with ⟨rfl, h0⟩ | ⟨g, cap, cur, rfl, _, _, hc1, hc2, _⟩
  · omega
  · exact ⟨g, cap, by rw [hl], by omega, hc2⟩
theorem BenAt.cell {g c : Nat} (h : BenAt k w p (.slice (some ⟨g, 0, none⟩) M.ds.length c) Fs ps M) (hi : i < M.ds.length) : w.cell? ⟨g, i, none⟩ = some (.pointer (some ⟨ps.getD i 0, 0, none⟩)) := by
  have hr : RdE k.E w w.heap.size (some ⟨g, 0, none⟩) M.ds.length ps := h.row.rd
  obtain ⟨b, off, e, _, hc⟩ := RdE.ptr (und := k.und) (info := k.info) hr hi
  injection e with e
  injection e with e1 e2
  subst e1 e2
  rw [Nat.zero_add] at hc
  exact hc
theorem BenAt.frozen {g c : Nat} (h : BenAt k w p (.slice (some ⟨g, 0, none⟩) M.ds.length c) Fs ps M) (j : Nat) : w.frozen? ⟨g, j, none⟩ = false := by
  obtain ⟨_, _, post, hg, _⟩ := h.row.parts
  exact frozen_of_row w g j _ _ hg
theorem BenAt.swap {g c : Nat} {w1 : World} (h : BenAt k w p (.slice (some ⟨g, 0, none⟩) M.ds.length c) Fs ps M) (hi : i < M.ds.length) (hb : Below w.heap.size w w1) (hF : ∀ b, F' b → w.heap.size ≤ b) {p' : Nat} {d : DevS} (hd : k.K.Dv w1 F' p' d.S d.L d.g) :
    BenAt k (w1.setCell ⟨g, i, none⟩ (.pointer (some ⟨p', 0, none⟩))) p (.slice (some ⟨g, 0, none⟩) M.ds.length c) (upF Fs i F') (ps.set i p') (M.put i d) := by
  have h1 := h.below hb
  have ho : Only (fun b => b = g) w1 (w1.setCell ⟨g, i, none⟩ (.pointer (some ⟨p', 0, none⟩))) := (Only.refl (fun b => b = g) w1).setCell (p := ⟨g, i, none⟩) (.inl rfl) _
  have hgl : g < w.heap.size := h.row.own_lt g rfl
  have hl := h.len
  have hrow : aB k.E (w1.setCell ⟨g, i, none⟩ (.pointer (some ⟨p', 0, none⟩))) 0 (.slice (some ⟨g, 0, none⟩) M.ds.length c) (ps.set i p') := by
    have := h1.row.store hi p'
    rwa [show i * k.E.n = i from by show i * 1 = i; omega] at this
  refine ⟨ho.keep h1.at_ fun e => h.rowp (by rw [e]; rfl), by show aB _ _ _ _ _; exact hrow, ?_, fun j hj b hb' => ?_, by show 1 ≤ (M.ds.set i d).length; rw [List.length_set]; exact h.one, by show (M.ds.set i d).length ≤ 17; rw [List.length_set]; exact h.cap⟩
  · have hoo : Only (fun b => b = g) w (w1.setCell ⟨g, i, none⟩ (.pointer (some ⟨p', 0, none⟩))) := (Only.of_below (fun b => b = g) hb).trans ho fun b hb => .inl hb
    exact h.devs.set hi hoo (fun j hj _ b hb' e => (h.apart j hj b hb').2 (by rw [e]; rfl)) (fun b hb' => .inr (hF b hb')) (k.K.only hd ho fun b hb' e => by have := hF b hb'; omega)
  · have hj' : j < M.ds.length := by have : j < (M.ds.set i d).length := hj; rwa [List.length_set] at this
    rcases hb' with ⟨e, hb'⟩ | ⟨e, hb'⟩
    · have h2 := hF b hb'
      have h3 := aP h.at_
      exact ⟨fun e => by omega, fun e => by have := h.row.own_lt b e; omega⟩
    · exact h.apart j hj' b hb'
end
theorem BenS.put_len (M : BenS) (k : Nat) (d : DevS) : (M.put k d).ds.length = M.ds.length := by show (M.ds.set k d).length = _; rw [List.length_set]
section
variable {k : BKind} {w w' : World} {p : Nat} {v : Value} {Fs : Nat → Nat → Prop} {ps : List Nat} {M : BenS}
def Left (k : BKind) (w : World) (p : Nat) (v : Value) (Fs : Nat → Nat → Prop) (ps : List Nat) (n : Nat) (M' : BenS) (w' : World) : Prop :=
  ∃ Fs' ps', BenAt k w' p v Fs' ps' M' ∧ Only (dE p v Fs n) w w' ∧ Grow w (dE p v Fs n) (dE p v Fs' M'.ds.length)
theorem Left.same (h : BenAt k w p v Fs ps M) {M' : BenS} (e : M' = M) : Left k w p v Fs ps M.ds.length M' w := by
  subst e; exact ⟨Fs, ps, h, Only.refl _ _, Grow.same _ _⟩
theorem Left.turn (h : BenAt k w p v Fs ps M) {i : Nat} {F' : Nat → Prop} {d : DevS} (hi : i < M.ds.length) (ho : Only (Fs i) w w') (hg : Grow w (Fs i) F') (hd : k.K.Dv w' F' (ps.getD i 0) d.S d.L d.g) {M' : BenS} (e : M' = M.put i d) : Left k w p v Fs ps M.ds.length M' w' := by
  subst e
  exact ⟨_, _, h.turn hi ho hg hd, footB_turn hi ho, footB_grow hi hg (M.put_len i d)⟩
theorem Left.behind {w1 : World} {n : Nat} {M' : BenS} (ho : Only (fun b => b = p) w w1) (h : Left k w1 p v Fs ps n M' w') : Left k w p v Fs ps n M' w' := by
  obtain ⟨Fs', ps', h1, h2, h3⟩ := h
  refine ⟨Fs', ps', h1, (footB_obj n ho).trans h2 fun b hb => .inl hb, fun b hb => ?_⟩
  rcases h3 b hb with e | e
  · exact .inl e
  · exact .inr (Nat.le_trans ho.size e)
theorem Left.obj {M' : BenS} (h : BenAt k w' p v Fs ps M') (ho : Only (fun b => b = p) w w') {n : Nat} (hn : M'.ds.length = n) : Left k w p v Fs ps n M' w' := by
  subst hn
  exact ⟨Fs, ps, h, footB_obj _ ho, Grow.same _ _⟩
theorem Left.below_ (h : BenAt k w p v Fs ps M) (hb : Below w.heap.size w w') {M' : BenS} (e : M' = M) : Left k w p v Fs ps M.ds.length M' w' := by
  subst e
  exact ⟨Fs, ps, h.below hb, Only.of_below _ hb, Grow.same _ _⟩
theorem Left.above {w1 : World} {n : Nat} {M' : BenS} (hb : Below w.heap.size w w1) (h : Left k w1 p v Fs ps n M' w') : Left k w p v Fs ps n M' w' := by
  obtain ⟨Fs', ps', h1, h2, h3⟩ := h
  refine ⟨Fs', ps', h1, (Only.of_below _ hb).trans h2 fun b hb => .inl hb, fun b hb' => ?_⟩
  rcases h3 b hb' with e | e
  · exact .inl e
  · exact .inr (Nat.le_trans hb.size e)
def ej (k : BKind) (w0 wr : World) (p : Nat) (v : Value) (Fs : Nat → Nat → Prop) (ps : List Nat) (M : BenS) (P : List Int) (j : Nat) (Fs' : Nat → Nat → Prop) : Prop :=
  BenAt k wr p v Fs' ps ⟨(cQ M.ds P j).1, M.left, M.b9, M.steps⟩ ∧ Only (dE p v Fs M.ds.length) w0 wr ∧ Grow w0 (dE p v Fs M.ds.length) (dE p v Fs' M.ds.length)
theorem ej.zero (h : BenAt k w p v Fs ps M) (P : List Int) : ej k w w p v Fs ps M P 0 Fs := by
  refine ⟨?_, Only.refl _ _, Grow.same _ _⟩
  rw [show (cQ M.ds P 0).1 = M.ds from by rw [cQ]]
  exact h
theorem ej.next {w0 w' : World} {Fs' : Nat → Nat → Prop} {F'' : Nat → Prop} {P : List Int} {j : Nat} (h : ej k w0 w p v Fs ps M P j Fs') (hj : j < M.ds.length) (ho : Only (Fs' j) w w') (hg : Grow w (Fs' j) F'')
    (hd : k.K.Dv w' F'' (ps.getD j 0) (crI (M.ds.getD j bk).S (M.ds.getD j bk).L (cQ M.ds P j).2 (M.ds.getD j bk).L.length) [] (M.ds.getD j bk).g) : ej k w0 w' p v Fs ps M P (j + 1) (upF Fs' j F'') := by
  obtain ⟨h1, h2, h3⟩ := h
  have hl : (cQ M.ds P j).1.length = M.ds.length := eM j M.ds P
  have hj' : j < (⟨(cQ M.ds P j).1, M.left, M.b9, M.steps⟩ : BenS).ds.length := by show j < (cQ M.ds P j).1.length; rw [hl]; exact hj
  have h4 := h1.turn hj' ho hg (d := ⟨crI (M.ds.getD j bk).S (M.ds.getD j bk).L (cQ M.ds P j).2 (M.ds.getD j bk).L.length, [], (M.ds.getD j bk).g⟩) hd
  refine ⟨?_, h2.trans ho fun b hb => ?_, fun b hb => ?_⟩
  · rw [(crIn_succ j M.ds P hj).1]
    exact h4
  · exact h3 b (.inr (.inr ⟨j, hj, hb⟩))
  · rcases footB_grow (p := p) (v := v) hj hg rfl b hb with e | e
    · exact h3 b e
    · exact .inr (Nat.le_trans h2.size e)
theorem ej.dev {w0 : World} {Fs' : Nat → Nat → Prop} {P : List Int} {j : Nat} (h : ej k w0 w p v Fs ps M P j Fs') (hj : j < M.ds.length) : k.K.Dv w (Fs' j) (ps.getD j 0) (M.ds.getD j bk).S (M.ds.getD j bk).L (M.ds.getD j bk).g := by
  have := h.1.devs.at_ j (by show j < (cQ M.ds P j).1.length; rw [eM]; exact hj)
  rwa [crIn_off j M.ds P j (Nat.le_refl _)] at this
end
def newD (k : Int) : DevS := ⟨List.replicate k.toNat al, [], false⟩
theorem newS6_ds (ks : List Int) : (newS6 ks).ds = ks.map newD := rfl
structure Making (kd : BKind) (w wr : World) (v : Value) (Fs : Nat → Nat → Prop) (ps : List Nat) (ds : List DevS) (left : Nat) (b9 : Bool) (steps : Nat) : Prop where
  at_ : wr.heap[w.heap.size]? = some (.cells (kd.cs v left b9 steps) kd.o)
  row : aB kd.E wr w.heap.size v ps
  devs : Devs kd.K wr Fs ps ds
  apart : ∀ i, i < ds.length → ∀ b, Fs i b → w.heap.size < b ∧ v.ownBlock ≠ some b
  below : Below w.heap.size w wr
section
variable {kd : BKind} {w wr w1 w3 : World} {v v' : Value} {Fs : Nat → Nat → Prop} {F' : Nat → Prop} {ps : List Nat} {ds : List DevS} {p' : Nat} {d : DevS} {o2 : Obj} {left steps : Nat} {b9 : Bool}
theorem Making.next (hcs : ∀ v v', (kd.cs v left b9 steps).setIfInBounds 0 v' = kd.cs v' left b9 steps) (h : Making kd w wr v Fs ps ds left b9 steps) (hb1 : Below wr.heap.size wr w1) (hF : ∀ b, F' b → wr.heap.size ≤ b) (hd : kd.K.Dv w1 F' p' d.S d.L d.g)
    (hm : aB kd.E w3 w.heap.size v' (ps ++ [p'])) (hg : (w1.alloc o2).grownBy w3 v.ownBlock) (ho : ∀ x, v'.ownBlock = some x → v.ownBlock = some x ∨ w1.heap.size + 1 ≤ x) :
    Making kd w (w3.setCell ⟨w.heap.size, 0, none⟩ v') v' (upF Fs ds.length F') (ps ++ [p']) (ds ++ [d]) left b9 steps := by
  have hx := aP h.at_
  have h1 := hb1.size
  have hsz : (w1.alloc o2).heap.size = w1.heap.size + 1 := World.size_alloc _ _
  have hvl : ∀ b, v.ownBlock = some b → b < wr.heap.size := h.row.own_lt
  have o3 : Only (fun b => v.ownBlock = some b) w1 w3 := (Only.of_below _ ((Below.refl _ w1).alloc (Nat.le_refl _) o2)).trans ((Only.refl (fun b => v.ownBlock = some b) _).grown hg fun k e => .inl e) fun b hb => .inl hb
  have hvx : v.ownBlock ≠ some w.heap.size := h.row.cq h.at_ kd.ne
  have hat1 := bx h.at_ hb1
  have hat3 := o3.keep hat1 hvx
  have o4 : Only (fun b => b = w.heap.size ∨ v.ownBlock = some b) w1 (w3.setCell ⟨w.heap.size, 0, none⟩ v') := (o3.widen fun b hb => .inr hb).setCell (p := ⟨w.heap.size, 0, none⟩) (.inl (.inl rfl)) _
  have hv3 : v'.ownBlock ≠ some w.heap.size := hm.cq hat3 kd.ne
  have hdv := h.devs.push hb1 hF hd
  have hap : ∀ i, i < (ds ++ [d]).length → ∀ b, upF Fs ds.length F' i b → w.heap.size < b ∧ v.ownBlock ≠ some b ∧ b < w1.heap.size := fun i hi b hb => by
    have hlt := hdv.lt i hi b hb
    rcases hb with ⟨e, hb⟩ | ⟨e, hb⟩
    · have := hF b hb
      exact ⟨by omega, fun e => by have := hvl b e; omega, hlt⟩
    · rw [List.length_append, List.length_singleton] at hi
      exact ⟨(h.apart i (by omega) b hb).1, (h.apart i (by omega) b hb).2, hlt⟩
  refine ⟨?_, hm.only (cp w3 w.heap.size 0 v') fun b hb e => hv3 (by rw [hb, e]), hdv.only o4 fun i hi b hb e => ?_, fun i hi b hb => ⟨(hap i hi b hb).1, fun e => ?_⟩, ?_⟩
  · have := heap_setCell_same w3 w.heap.size 0 _ _ v' hat3
    rw [hcs] at this
    exact this
  · rcases e with e | e
    · have := (hap i hi b hb).1; omega
    · exact (hap i hi b hb).2.1 e
  · rcases ho b e with e | e
    · exact (hap i hi b hb).2.1 e
    · have := (hap i hi b hb).2.2; omega
  · have hb01 : Below w.heap.size w w1 := h.below.trans (hb1.mono h.below.size)
    refine hb01.trans (o4.below (fun b hb => ?_) hb01.size)
    rcases hb with e | e
    · omega
    · exact h.row.lt_own b e
theorem Making.done (h : Making kd w wr v Fs ps ds left b9 steps) (h1 : 1 ≤ ds.length) (h2 : ds.length ≤ 17) : BenAt kd wr w.heap.size v Fs ps ⟨ds, left, b9, steps⟩ ∧ (∀ b, dE w.heap.size v Fs ds.length b → w.heap.size ≤ b) ∧ Below w.heap.size w wr :=
  ⟨⟨h.at_, h.row.base (Nat.zero_le _), h.devs, fun i hi b hb => ⟨by have := (h.apart i hi b hb).1; omega, (h.apart i hi b hb).2⟩, h1, h2⟩, fun b hb => by
    rcases hb with e | e | ⟨i, hi, e⟩
    · omega
    · exact h.row.lt_own b e
    · have := (h.apart i hi b e).1; omega, h.below⟩
end
def dS (kd : BKind) (w : World) (ks : List Int) (e : Ending) (w' : World) : Prop :=
  Below w.heap.size w w' ∧ ((newOk ks ∧ ∃ p v Fs ps, e = .returned (.tuple #[.pointer (some ⟨p, 0, none⟩), .int .i64 0]) ∧ BenAt kd w' p v Fs ps (newS6 ks) ∧ ∀ b, dE p v Fs (newS6 ks).ds.length b → w.heap.size ≤ b) ∨ (¬ newOk ks ∧ e = .returned (.tuple #[.pointer none, .int .i64 2])))
theorem dS.no {kd : BKind} {w w' : World} {ks : List Int} (hb : Below w.heap.size w w') (hn : ¬ newOk ks) {e : Ending} (he : e = .returned (.tuple #[.pointer none, .int .i64 2])) : dS kd w ks e w' := ⟨hb, .inr ⟨hn, he⟩⟩
theorem take_map_succ {ks : List Int} {j : Nat} (h : j < ks.length) : (ks.take (j + 1)).map newD = (ks.take j).map newD ++ [newD (ks.getD j 0)] := by
  rw [List.take_add_one, List.getD, List.getElem?_eq_getElem h, List.map_append]; rfl
structure BIds where
  read : FuncId
  write : FuncId
  flush : FuncId
  fail : FuncId
  insert : FuncId
  arm : FuncId
  crash : FuncId
  sure : FuncId
  rot : FuncId
  ef : FuncId
  b9 : FuncId
  steps : FuncId
structure BenS.Wf (M : BenS) : Prop where
  one : 1 ≤ M.ds.length
  cap : M.ds.length ≤ 17
  len : ∀ i, i < M.ds.length → 1 ≤ (M.ds.getD i bk).S.length ∧ (M.ds.getD i bk).S.length ≤ 512
structure Ben (I : BIds) where
  Bn : World → (Nat → Prop) → Nat → BenS → Prop
  lt : ∀ {w F p M}, Bn w F p M → ∀ b, F b → b < w.heap.size
  only : ∀ {w w' F G p M}, Bn w F p M → Only G w w' → (∀ b, F b → ¬ G b) → Bn w' F p M
  wf : ∀ {w F p M}, Bn w F p M → M.Wf
  read : ∀ {w F p M} (d n : Int), Bn w F p M → Calls Tryz.prog I.read #[.pointer (some ⟨p, 0, none⟩), .int .i64 d, .int .i64 n] w fun e w' => e = .returned (.tuple #[blk (cF M d n), .int .i64 (bT M d n)]) ∧ Below w.heap.size w w'
  sure : ∀ {w F p M} (d n : Int), Bn w F p M → Calls Tryz.prog I.sure #[.pointer (some ⟨p, 0, none⟩), .int .i64 d, .int .i64 n] w fun e w' => e = .returned (.tuple #[blk (suB6 M d n), .int .i64 (suE6 M d n)]) ∧ Below w.heap.size w w'
  write : ∀ {w F p M} (d n : Int) (b : Blk), Room M 1 → Bn w F p M → Calls Tryz.prog I.write #[.pointer (some ⟨p, 0, none⟩), .int .i64 d, .int .i64 n, blk b] w fun e w' => e = .returned (.int .i64 (wrE6 M d n)) ∧ ∃ F', Bn w' F' p (wrS6 M d n b) ∧ Only F w w' ∧ Grow w F F'
  flush : ∀ {w F p M} (d : Int), Room M 1 → Bn w F p M → Calls Tryz.prog I.flush #[.pointer (some ⟨p, 0, none⟩), .int .i64 d] w fun e w' => e = .returned (.int .i64 (flE6 M d)) ∧ ∃ F', Bn w' F' p (flS6 M d) ∧ Only F w w' ∧ Grow w F F'
  fail : ∀ {w F p M} (d : Int), Bn w F p M → Calls Tryz.prog I.fail #[.pointer (some ⟨p, 0, none⟩), .int .i64 d] w fun e w' => e = .returned (.int .i64 (dr M d)) ∧ ∃ F', Bn w' F' p (faS6 M d) ∧ Only F w w' ∧ Grow w F F'
  insert : ∀ {w F p M} (d : Int), Bn w F p M → Calls Tryz.prog I.insert #[.pointer (some ⟨p, 0, none⟩), .int .i64 d] w fun e w' => e = .returned (.int .i64 (inE6 M d)) ∧ ∃ F', Bn w' F' p (inS6 M d) ∧ Only F w w' ∧ Grow w F F'
  arm : ∀ {w F p M} (n : Int), Bn w F p M → Calls Tryz.prog I.arm #[.pointer (some ⟨p, 0, none⟩), .int .i64 n] w fun e w' => e = .returned (.int .i64 (arE6 M n)) ∧ ∃ F', Bn w' F' p (arS6 M n) ∧ Only F w w' ∧ Grow w F F'
  crash : ∀ {w F p M A n c P}, Pk w F A n c P → Bn w F p M → Calls Tryz.prog I.crash #[.pointer (some ⟨p, 0, none⟩), .slice A n c] w fun e w' => e = .returned (.int .i64 0) ∧ ∃ F', Bn w' F' p (crS6 M P) ∧ Only F w w' ∧ Grow w F F'
  rot : ∀ {w F p M} (d n i : Int) (u : UInt8), Bn w F p M → Calls Tryz.prog I.rot #[.pointer (some ⟨p, 0, none⟩), .int .i64 d, .int .i64 n, .int .i64 i, .int .u8 (u.toNat : Int)] w fun e w' => e = .returned (.int .i64 (roE6 M d n i)) ∧ ∃ F', Bn w' F' p (roS6 M d n i u) ∧ Only F w w' ∧ Grow w F F'
  ef : ∀ {w F p M} (d : Int), Bn w F p M → Calls Tryz.prog I.ef #[.pointer (some ⟨p, 0, none⟩), .int .i64 d] w fun e w' => e = .returned (.int .i64 (bY M d)) ∧ Below w.heap.size w w'
  b9 : ∀ {w F p M}, Bn w F p M → Calls Tryz.prog I.b9 #[.pointer (some ⟨p, 0, none⟩)] w fun e w' => e = .returned (.bool M.b9) ∧ Below w.heap.size w w'
  steps : ∀ {w F p M}, Bn w F p M → Calls Tryz.prog I.steps #[.pointer (some ⟨p, 0, none⟩)] w fun e w' => e = .returned (.int .i64 (M.steps : Int)) ∧ Below w.heap.size w w'
theorem Ben.below {I : BIds} (R : Ben I) {w w' : World} {F : Nat → Prop} {p : Nat} {M : BenS} (h : R.Bn w F p M) (k : Below w.heap.size w w') : R.Bn w' F p M := R.only h (Only.of_below (fun _ => False) k) fun _ _ e => e
section
variable {k : BKind} {w w' : World} {F G : Nat → Prop} {p : Nat} {M M' : BenS}
def NewB (Bn : World → (Nat → Prop) → Nat → BenS → Prop) (w : World) (ks : List Int) (e : Ending) (w' : World) : Prop :=
  Below w.heap.size w w' ∧ ((newOk ks ∧ ∃ p F, e = .returned (.tuple #[.pointer (some ⟨p, 0, none⟩), .int .i64 0]) ∧ Bn w' F p (newS6 ks) ∧ ∀ b, F b → w.heap.size ≤ b) ∨ (¬ newOk ks ∧ e = .returned (.tuple #[.pointer none, .int .i64 2])))
def At {I : BIds} (R : Ben I) (w0 : World) (B : Nat) (w : World) (p : Nat) (M : BenS) : Prop := ∃ F, R.Bn w F p M ∧ (∀ b, F b → B ≤ b) ∧ Below B w0 w ∧ B ≤ w0.heap.size
def InB (k : BKind) (w : World) (F : Nat → Prop) (p : Nat) (M : BenS) : Prop := ∃ v Fs ps, F = dE p v Fs M.ds.length ∧ BenAt k w p v Fs ps M
theorem InB.lt (h : InB k w F p M) : ∀ b, F b → b < w.heap.size := by
  obtain ⟨v, Fs, ps, rfl, h⟩ := h
  exact h.lt
theorem InB.only (h : InB k w F p M) (ho : Only G w w') (hn : ∀ b, F b → ¬ G b) : InB k w' F p M := by
  obtain ⟨v, Fs, ps, rfl, h⟩ := h
  exact ⟨v, Fs, ps, rfl, h.only ho hn⟩
theorem Left.out {v : Value} {Fs : Nat → Nat → Prop} {ps : List Nat} (h : Left k w p v Fs ps M.ds.length M' w') : ∃ F', InB k w' F' p M' ∧ Only (dE p v Fs M.ds.length) w w' ∧ Grow w (dE p v Fs M.ds.length) F' := by
  obtain ⟨Fs', ps', h1, h2, h3⟩ := h
  exact ⟨_, ⟨v, Fs', ps', rfl, h1⟩, h2, h3⟩
end
def LooE : Elt (Int × Blk) := pairE 152 177 Tryz.underlying152 (by kernel_rfl)
structure RefD (w : World) (p : Nat) (vS vL : Value) (S : List Blk) (L : List (Int × Blk)) (g : Bool) : Prop where
  at_ : w.heap[p]? = some (.cells #[vS, vL, .bool g] 154)
  S_ : aB BlkE w 0 vS S
  L_ : aB LooE w 0 vL L
section
variable {w w' : World} {p : Nat} {vS vL : Value} {S : List Blk} {L : List (Int × Blk)} {g : Bool} {F : Nat → Prop}
theorem RefD.lt (h : RefD w p vS vL S L g) : ∀ k, foot p vS vL k → k < w.heap.size := by
  intro k hk
  rcases hk with rfl | hk | hk
  · exact (Array.getElem?_eq_some_iff.1 h.at_).1
  · exact h.S_.own_lt k hk
  · exact h.L_.own_lt k hk
theorem RefD.only (h : RefD w p vS vL S L g) (k : Only F w w') (hn : ∀ b, foot p vS vL b → ¬ F b) : RefD w' p vS vL S L g :=
  ⟨k.keep h.at_ (hn p (.inl rfl)), h.S_.only k fun b hb => hn b (.inr (.inl hb)), h.L_.only k fun b hb => hn b (.inr (.inr hb))⟩
theorem RefD.below (h : RefD w p vS vL S L g) (k : Below w.heap.size w w') : RefD w' p vS vL S L g := h.only (Only.of_below (fun _ => False) k) fun _ _ e => e
end
theorem r_asks (p : Nat) (vS vL : Value) (S : List Blk) (L : List (Int × Blk)) (g : Bool) (n : Int) (w : World) (h : RefD w p vS vL S L g) :
    Calls Tryz.prog 84 #[.pointer (some ⟨p, 0, none⟩), .int .i64 n] w fun e w' => e = .returned (.int .i64 (cd S g n)) ∧ w = w' := by
  obtain ⟨c0, c1, c2⟩ := cells3 h.at_
  obtain ⟨A, c, rfl, hc1, hc2⟩ := h.S_.form
  by_cases h0 : n < 0
  · have HE := Lib.hid (askE_out (S := S) (n := n) g (by omega))
    go_enter Tryz.func84, Tryz.ntmps84
    go_wp2
    go_ret
    exact ⟨aM HE.out.symm, rfl⟩
  · by_cases h1 : n < S.length
    · cases g
      · have HE := Lib.hid (fa (S := S) (n := n) (by omega))
        go_enter Tryz.func84, Tryz.ntmps84
        go_wp2
        go_ret
        exact ⟨aM HE.out.symm, rfl⟩
      · have HE := Lib.hid (askE_dead (S := S) (n := n) (by omega))
        go_enter Tryz.func84, Tryz.ntmps84
        go_wp2
        go_ret
        exact ⟨aM HE.out.symm, rfl⟩
    · have HE := Lib.hid (askE_out (S := S) (n := n) g (by omega))
      go_enter Tryz.func84, Tryz.ntmps84
      go_wp2
      go_ret
      exact ⟨aM HE.out.symm, rfl⟩
end Go.Proofs.YtcafafdimcecpaaGreatDoor
