import Derived.Test.YtnliphgjcaippaaGreatDoorHsag
import Derived.OrdersHeld
import Derived.Test.YtnliphgjcaippaaGreatDoorHsaf
import Derived.Deep.DeepCutAuto
import Derived.Test.YtnliphgjcaippaaGreatDoorHsaa
import Derived.Test.YtnliphgjcaippaaGreatDoorHsZ
namespace Go.Proofs.YtnliphgjcaippaaGreatDoor
open Go.RowKit
set_option linter.unusedVariables false
set_option maxRecDepth 100000
theorem bt_pad {b : List UInt8} {j : Nat} : bt (cW b) j = if j < b.length then bt b j else 0 := by
  unfold cW
  split
  · rename_i h; exact dq h
  · rename_i h; rw [du (by omega), bt_noughts]
theorem bt_head {n : Nat} {b : List UInt8} {j : Nat} : bt (cx n b) j = if j < 8 then bt (aC 8 8 n) j else if j < 8 + b.length then bt b (j - 8) else 0 := by
  unfold cx
  split
  · rename_i h; exact dq (by rw [ar]; exact h)
  · rename_i h
    rw [du (by rw [ar]; omega), ar, bt_pad]
    by_cases h2 : j < 8 + b.length
    · rw [if_pos (by omega), if_pos h2]
    · rw [if_neg (by omega), if_neg h2]
theorem bt_seal {n : Nat} {b : List UInt8} {j : Nat} (hb : b.length ≤ 44) : bt (co n b) j = if j < 52 then bt (cx n b) j else if j < 56 then bt (aC 8 4 (more 0 (cx n b))) (j - 52) else bt (aC 8 8 n) (j - 56) := by
  have h52 := df n hb
  unfold co
  split
  · rename_i h; exact dq (by omega)
  · rename_i h
    rw [du (by omega), h52]
    split
    · rename_i h2; exact dq (by rw [ar]; omega)
    · rename_i h2; rw [du (by rw [ar]; omega), ar, show j - 52 - 4 = j - 56 from by omega]
def noSum (n : Nat) (b : List UInt8) : List UInt8 := splice (splice (splice au.toList 0 (aC 8 8 n)) 56 (aC 8 8 n)) 8 b
theorem noSum_1 (n : Nat) : (splice au.toList 0 (aC 8 8 n)).length = 64 := by rw [length_splice _ _ _ (by simp [ar])]; simp
theorem noSum_2 (n : Nat) : (splice (splice au.toList 0 (aC 8 8 n)) 56 (aC 8 8 n)).length = 64 := by rw [length_splice _ _ _ (by rw [noSum_1, ar]; omega), noSum_1]
section
variable {n : Nat} {b : List UInt8} (hb : b.length ≤ 44)
include hb
theorem ez : (noSum n b).length = 64 := by unfold noSum; rw [length_splice _ _ _ (by rw [noSum_2]; omega), noSum_2]
theorem bt_noSum {j : Nat} : bt (noSum n b) j = if 8 ≤ j ∧ j < 8 + b.length then bt b (j - 8) else if 56 ≤ j ∧ j < 64 then bt (aC 8 8 n) (j - 56) else if j < 8 then bt (aC 8 8 n) j else 0 := by
  unfold noSum
  have hz : bt au.toList j = 0 := by
    have : au.toList = List.replicate 64 0 := by decide
    rw [this, bt_noughts]
  rw [bt_splice (by rw [noSum_2]; omega), bt_splice (by rw [noSum_1, ar]; omega), bt_splice (by simp [ar]), ar, hz]
  congr 2
  by_cases h : j < 8
  · rw [if_pos (by omega), if_pos h, Nat.sub_zero]
  · rw [if_neg (by omega), if_neg h]
theorem noSum_head : piece (noSum n b) 0 52 = cx n b := by
  refine dl (by rw [bJ (by rw [ez hb]; omega), df n hb]) fun j hj => ?_
  rw [bJ (by rw [ez hb]; omega)] at hj
  rw [eM hj, Nat.zero_add, bt_noSum hb, bt_head]
  by_cases h8 : j < 8
  · rw [if_neg (by omega), if_neg (by omega), if_pos h8, if_pos h8]
  · by_cases h2 : j < 8 + b.length
    · rw [if_pos (by omega), if_neg h8, if_pos h2]
    · rw [if_neg (by omega), if_neg (by omega), if_neg h8, if_neg h8, if_neg h2]
theorem noSum_seal : splice (noSum n b) 52 (aC 8 4 (more 0 (cx n b))) = co n b := by
  have h64 := ez (n := n) hb
  refine dl (by rw [length_splice _ _ _ (by rw [h64, ar]; omega), h64, ew n hb]) fun j hj => ?_
  rw [length_splice _ _ _ (by rw [h64, ar]; omega), h64] at hj
  rw [bt_splice (by rw [h64, ar]; omega), bt_seal hb, ar, bt_noSum hb, bt_head]
  by_cases h52 : j < 52
  · rw [if_neg (by omega), if_pos h52]
    by_cases h8 : j < 8
    · rw [if_neg (by omega), if_neg (by omega), if_pos h8, if_pos h8]
    · by_cases h2 : j < 8 + b.length
      · rw [if_pos (by omega), if_neg h8, if_pos h2]
      · rw [if_neg (by omega), if_neg (by omega), if_neg h8, if_neg h8, if_neg h2]
  · by_cases h56 : j < 56
    · rw [if_pos (by omega), if_neg h52, if_pos h56]
    · rw [if_neg (by omega), if_neg h52, if_neg h56, if_neg (by omega), if_pos (by omega)]
end
theorem cells5 {w : World} {b : Nat} {t : TypeId} {x y z u v : Value} (h : w.heap[b]? = some (.cells #[x, y, z, u, v] t (0, 0))) : w.cell? ⟨b, 0, none⟩ = some x ∧ w.cell? ⟨b, 1, none⟩ = some y ∧ w.cell? ⟨b, 2, none⟩ = some z ∧ w.cell? ⟨b, 3, none⟩ = some u ∧ w.cell? ⟨b, 4, none⟩ = some v := by
  refine ⟨?_, ?_, ?_, ?_, ?_⟩
  · rw [cell_of_row w b 0 _ t (0, 0) h]; rfl
  · rw [cell_of_row w b 1 _ t (0, 0) h]; rfl
  · rw [cell_of_row w b 2 _ t (0, 0) h]; rfl
  · rw [cell_of_row w b 3 _ t (0, 0) h]; rfl
  · rw [cell_of_row w b 4 _ t (0, 0) h]; rfl
def PartsAt (w : World) (p g : Nat) : Prop := w.heap[p]? = some (.cells (dX g) 171 (0, 0))
theorem PartsAt.cells {w : World} {p g : Nat} (h : PartsAt w p g) : w.cell? ⟨p, 0, none⟩ = some (.slice (some ⟨g, 0, none⟩) 8 8) ∧ w.cell? ⟨p, 1, none⟩ = some (.slice (some ⟨g, 8, none⟩) 44 44) ∧ w.cell? ⟨p, 2, none⟩ = some (.slice (some ⟨g, 52, none⟩) 4 4) ∧ w.cell? ⟨p, 3, none⟩ = some (.slice (some ⟨g, 56, none⟩) 8 8) ∧ w.cell? ⟨p, 4, none⟩ = some (.slice (some ⟨g, 0, none⟩) 52 52) := cells5 h
theorem PartsAt.grown {w w' : World} {p g k : Nat} (h : PartsAt w p g) (hk : p ≠ k) (hb : w.grownBy w' (some k)) : PartsAt w' p g := (hb.block p (aD h) (fun e => hk (by injection e))).trans h
theorem PartsAt.below {w w' : World} {p g B : Nat} (h : PartsAt w p g) (hB : p < B) (hb : Below B w w') : PartsAt w' p g := blk_keep2 h hB hb
structure PutW (B : Nat) (w w' : World) (r g p : Nat) (l : List UInt8) : Prop where
  res : bK w' r 58 au.toList
  row : bK w' g 58 l
  par : PartsAt w' p g
  bel : Below B w w'
  r0 : B ≤ r
  g0 : B ≤ g
  rg : r ≠ g
  pg : p ≠ g
theorem PutW.turn {B : Nat} {w w1 w2 : World} {r g p : Nat} {l l' : List UInt8} (h : PutW B w w1 r g p l) (hr : bK w2 g 58 l') (hg : w1.grownBy w2 (some g)) (hB : B ≤ w.heap.size) : PutW B w w2 r g p l' :=
  ⟨h.res.grown h.rg hg, hr, h.par.grown h.pg hg, h.bel.grown hg (Nat.le_trans hB h.bel.size) (fun k hk => by injection hk with e; have := h.g0; omega), h.r0, h.g0, h.rg, h.pg⟩
theorem PutW.draw {B : Nat} {w w1 : World} {r g p : Nat} {l : List UInt8} (h : PutW B w w1 r g p l) : PutW B w w1.drew r g p l := ⟨h.res, h.row, h.par, bd h.bel, h.r0, h.g0, h.rg, h.pg⟩
section
variable {ρ : Operand → Value} {o : Oper} {x y z : Operand} {w : World} {t : TypeId} {n : Nat} {a : Value} {ad : Addr} {A : Option Addr} {m c : Nat}
theorem exec_cv32 (ho : o.op = .convert 47 23 x) (hx : ρ x = .int .u32 (n : Int)) (hn : n < 4294967296) : (execOp ρ o).run Tryz.prog w = .ok (.value (.int .u64 (n : Int))) w := by
  have h : IntKind.u64.wrap (n : Int) = (n : Int) := IntWalk.u64_in _ ⟨by omega, by omega⟩
  have hc : (convert 47 23 (.int .u32 (n : Int))).run Tryz.prog w = .ok (.int .u64 (n : Int)) w := by simp [convert, go_sem, h]
  unfold execOp
  simp only [ho, hx, Sem.run_bind, hc, Result.andThen_ok, Sem.run_pure]
theorem ldS (h : w.cell? ad = some (.slice A m c)) : (Instr.loadAt 100 (.pointer (some ad))).run Tryz.prog w = .ok (.slice A m c) w := by simp [go_sem, h]
theorem faP2 {b : Nat} : (Instr.fieldAt 171 (.pointer (some ⟨b, 0, none⟩)) 2).run Tryz.prog w = .ok (.pointer (some ⟨b, 2, none⟩)) w := by kernel_rfl
theorem faP4 {b : Nat} : (Instr.fieldAt 171 (.pointer (some ⟨b, 0, none⟩)) 4).run Tryz.prog w = .ok (.pointer (some ⟨b, 4, none⟩)) w := by kernel_rfl
end
set_option maxHeartbeats 1000000 in
theorem put_arg (m c : Nat) (A : Option Addr) (b : List UInt8) (w : World) (hb : b.length = m) :
    Calls Tryz.prog 130 #[.int .u64 0, .slice A m c] w fun e w' => e = .returned (.tuple #[blk (cX 0 b), .int .i64 (putE 0 b : Nat)]) ∧ Below w.heap.size w w' := by
  have hA := (Below.refl w.heap.size w).alloc (Nat.le_refl _) (.cells (cel au).toArray 58)
  have HT := Lib.hid (dj w au 58)
  have HA := Lib.hid hA
  clear hA
  rw [show cX 0 b = au from rfl, show putE 0 b = 2 from rfl]
  go_enter Tryz.func130, Tryz.ntmps130
  go_wp2_with (first | (refine ag rfl (aQ rfl) ?_) | (refine ag rfl (cn (c := au) (parts := []) rfl rfl) ?_) | (refine aN rfl (bj rfl rfl rfl HT.out) ?_))
  refine bodyPost_ret (bQ rfl _ _ _ rfl (World.rangeAt_setCells_same _ _ _ _ (by rw [az]; exact HT.out))) rfl ⟨rfl, below_setCells HA.out (Nat.le_refl _) _⟩
set_option maxHeartbeats 1000000 in
theorem put_long (n m c : Nat) (A : Option Addr) (b : List UInt8) (w : World) (hb : b.length = m) (h0 : 0 < n) (hm : 44 < m) (hm2 : m ≤ maxLen) :
    Calls Tryz.prog 130 #[.int .u64 n, .slice A m c] w fun e w' => e = .returned (.tuple #[blk (cX n b), .int .i64 (putE n b : Nat)]) ∧ Below w.heap.size w w' := by
  have hA := (Below.refl w.heap.size w).alloc (Nat.le_refl _) (.cells (cel au).toArray 58)
  have HT := Lib.hid (dj w au 58)
  have HA := Lib.hid hA
  have hE : putE n b = 3 := by unfold putE; rw [if_neg (by omega), if_pos (by omega)]
  have hB : cX n b = au := by unfold cX; rw [hE]; rfl
  rw [hE, hB]
  unfold maxLen at hm2
  clear hA hE hB hb
  have hz : ((n : Int) == 0) = false := by simp; omega
  go_enter Tryz.func130, Tryz.ntmps130
  go_wp2_with (first | (refine ag rfl (aQ rfl) ?_) | (refine ag rfl (cn (c := au) (parts := []) rfl rfl) ?_) | (refine aN rfl (bj rfl rfl rfl HT.out) ?_))
  refine bodyPost_ret (bQ rfl _ _ _ rfl (World.rangeAt_setCells_same _ _ _ _ (by rw [az]; exact HT.out))) rfl ⟨rfl, below_setCells HA.out (Nat.le_refl _) _⟩
theorem splice_pad {a x : List UInt8} (h : a.length + x.length ≤ 44) : splice (cW a) a.length x = cW (a ++ x) := by
  unfold splice cW
  rw [List.take_append_of_le_length (Nat.le_refl _), List.take_length, List.drop_append]
  rw [List.drop_of_length_le (by omega), List.nil_append, List.drop_replicate, List.append_assoc, List.length_append]
  congr 3
  omega
def z44 : List UInt8 := List.replicate 44 0
theorem z44_length : z44.length = 44 := rfl
def aL (x : Sup) : List Value := .int .u64 x.id :: .int .i64 x.self :: aH x.ros
def sup (x : Sup) : Value := .agg (aL x).toArray
theorem ax (x : Sup) : (aL x).length = 23 := by simp [aL, bc]
theorem celS_one (x : Sup) : ∀ v ∈ aL x, v.oneCell' = true := by
  intro v hv
  simp only [aL, List.mem_cons] at hv
  rcases hv with rfl | rfl | hv
  · rfl
  · rfl
  · exact celR_one _ v hv
theorem dA : (Tryz.prog.info? 62).map (·.size) = some 23 := by kernel_rfl
theorem size44 : (Tryz.prog.info? 161).map (·.size) = some 44 := by kernel_rfl
theorem zeroS_info : (Tryz.prog.info? 62).map (fun i => i.zero) = some (some (sup a7)) := by kernel_rfl
theorem zero44_info : (Tryz.prog.info? 161).map (fun i => i.zero) = some (some (arr z44)) := by kernel_rfl
section
variable {ρ : Operand → Value} {o : Oper} {x y : Operand} {w : World} {b off : Nat}
theorem bw {c : Sup} (ho : o.op = .load 62 x) (hx : ρ x = .pointer (some ⟨b, off, none⟩)) (hc : w.rangeAt b off (aL c)) : (execOp ρ o).run Tryz.prog w = .ok (.value (sup c)) w :=
  cd Tryz.underlying62 rfl (by rw [ax]; exact dA) ho hx hc
theorem eO {l : List UInt8} (hl : l.length = 44) (ho : o.op = .load 161 x) (hx : ρ x = .pointer (some ⟨b, off, none⟩)) (hc : w.rangeAt b off (vals l)) : (execOp ρ o).run Tryz.prog w = .ok (.value (arr l)) w :=
  cd Tryz.underlying161 rfl (by rw [aT, hl]; exact size44) ho hx hc
theorem dI {c : Sup} (ho : o.op = .box 62 x) (hx : ρ x = sup c) : (execOp ρ o).run Tryz.prog w = .ok (.value (.pointer (some ⟨w.heap.size, 0, none⟩))) (w.alloc (.cells (aL c).toArray 62)) := cy ho hx
theorem aX (ho : o.op = .alloc 62) : (execOp ρ o).run Tryz.prog w = .ok (.value (.pointer (some ⟨w.heap.size, 0, none⟩))) (w.alloc (.cells (aL a7).toArray 62)) := cZ zeroS_info ho
theorem exec_alloc44 (ho : o.op = .alloc 161) : (execOp ρ o).run Tryz.prog w = .ok (.value (.pointer (some ⟨w.heap.size, 0, none⟩))) (w.alloc (.cells (vals z44).toArray 161)) := cZ zero44_info ho
theorem bZ {c d : Sup} (ho : o.op = .store 62 x y) (hx : ρ x = .pointer (some ⟨w.heap.size, 0, none⟩)) (hy : ρ y = sup c) : (execOp ρ o).run Tryz.prog (w.alloc (.cells (aL d).toArray 62)) = .ok .skip (w.alloc (.cells (aL c).toArray 62)) :=
  eE (by rw [ax]; exact dA) (by rw [ax, ax]) (celS_one c) ho hx hy
theorem bP {c : Sup} (ho : o.op = .store 62 x y) (hx : ρ x = .pointer (some ⟨b, off, none⟩)) (hy : ρ y = sup c) (ht : w.there b off 23) : (execOp ρ o).run Tryz.prog w = .ok .skip (w.setCells b off (aL c)) :=
  eD (by rw [ax]; exact dA) (celS_one c) ho hx hy (by rw [ax]; exact ht)
theorem run_bldS (w : World) : (Instr.build 62 #[]).run Tryz.prog w = .ok (sup a7) w := by kernel_rfl
theorem dt (ho : o.op = .build 62 #[]) : (execOp ρ o).run Tryz.prog w = .ok (.value (sup a7)) w := exec_bld0 ho (run_bldS w)
end
theorem celS_eq (x : Sup) : aL x = [.int .u64 x.id, .int .i64 x.self] ++ aH x.ros := rfl
section
variable {ρ : Operand → Value} {o : Oper} {x y : Operand} {w : World} {t : TypeId}
theorem guard44 : Tryz.prog.eqGuardType Tryz.prog.depth 161 = false := by kernel_rfl
theorem exec_ne44 {a b : List UInt8} (c : Bool) (ha : a.length = 44) (hb : b.length = 44) (ho : o.op = .binOp .neq 161 x y t) (hx : ρ x = arr a) (hy : ρ y = arr b) (h : decide (a = b) = c) : (execOp ρ o).run Tryz.prog w = .ok (.value (.bool (!c))) w := by
  subst h; exact exec_neT guard44 (run_eqArr Tryz.underlying161 w a b ha hb 9998) ho hx hy
end
def bx (w : World) (b : Nat) (x : Sup) : Prop := w.heap[b]? = some (.cells (aL x).toArray 62 (0, 0))
section
variable {w w' : World} {b : Nat} {x : Ros} {y : Sup}
theorem bx.range (h : bx w b y) : w.rangeAt b 0 (aL y) := a4 h
theorem bx.rosr (h : bx w b y) : w.rangeAt b 2 (aH y.ros) := by
  have := dN (k := 2) (ds := [.int .u64 y.id, .int .i64 y.self]) (es := aH y.ros) (fs := []) h.range (by simp [celS_eq]) rfl
  rwa [Nat.zero_add] at this
theorem bx.sts (h : bx w b y) : w.rangeAt b 5 (vals y.ros.st.toList) := dN (k := 3) h.rosr (celR_eq y.ros) rfl
theorem bx.cells (h : bx w b y) : w.cell? ⟨b, 0, none⟩ = some (.int .u64 y.id) ∧ w.cell? ⟨b, 1, none⟩ = some (.int .i64 y.self) ∧ w.cell? ⟨b, 2, none⟩ = some (.int .i64 y.ros.m) ∧ w.cell? ⟨b, 3, none⟩ = some (.int .i64 y.ros.s) ∧ w.cell? ⟨b, 4, none⟩ = some (.int .i64 y.ros.r) ∧ w.cell? ⟨b, 21, none⟩ = some (.int .i64 y.ros.cur) ∧ w.cell? ⟨b, 22, none⟩ = some (.bool y.ros.gone) := by
  have hr := dN (k := 19) (ds := cU y.ros ++ vals y.ros.st.toList) (es := [.int .i64 y.ros.cur, .bool y.ros.gone]) (fs := []) h.rosr (by simp [celR_eq]) (by simp [cU, aT])
  exact ⟨h.range 0 _ rfl, h.range 1 _ rfl, h.range 2 _ rfl, h.range 3 _ rfl, h.range 4 _ rfl, hr 0 _ rfl, hr 1 _ rfl⟩
theorem bx.sta (h : bx w b y) {j : Nat} (hj : j < 16) : w.cell? ⟨b, 5 + j, none⟩ = some (.int .u8 (sta y.ros j)) := h.sts j _ (er (by simpa using hj))
theorem bx.below {B : Nat} (h : bx w b y) (hB : b < B) (hb : Below B w w') : bx w' b y := blk_keep2 h hB hb
theorem bx.new (w : World) (y : Sup) : bx (w.alloc (.cells (aL y).toArray 62)) w.heap.size y := heap_alloc_new w _
theorem bx.past (h : bx w b y) (o : Obj) : bx (w.alloc o) b y := bk h o
theorem bx.rd (h : bx w b y) : Rd w w.heap.size (some ⟨b, 5, none⟩) 16 y.ros.st.toList :=
  ⟨by simp, fun k hk => ⟨b, 5, rfl, aD h, h.sta hk⟩⟩
end
set_option maxHeartbeats 1000000 in
theorem pgmay (x : Ros) (w : World) : Calls Tryz.prog 76 #[geo x] w fun e w' => e = .returned (.bool (geoB x)) ∧ Below w.heap.size w w' := by
  have h1 := eI (x := x)
  have h2 := geoB_not (x := x)
  generalize geoB x = g at *
  obtain ⟨m, s, r, st, cur, gone⟩ := x
  simp only at h1 h2
  have H1 := Lib.hid h1
  have H2 := Lib.hid h2
  clear h1 h2
  show Calls Tryz.prog 76 #[.agg #[.int .i64 m, .int .i64 s, .int .i64 r]] w _
  go_enter Tryz.func76, Tryz.ntmps76
  go_wp2
  all_goals
    go_ret
    refine ⟨aO ?_, (Below.refl _ _).alloc (Nat.le_refl _) _⟩
    first
      | (refine Eq.symm (H2.out.2 ?_); omega)
      | (rw [Bool.eq_iff_iff, H1.out, decide_eq_true_iff]; omega)
set_option maxHeartbeats 1000000 in
theorem rgmay (x : Ros) (w : World) : Calls Tryz.prog 84 #[geo x] w fun e w' => e = .returned (.bool (geoB x)) ∧ Below w.heap.size w w' := by
  have h1 := eI (x := x)
  have h2 := geoB_not (x := x)
  generalize geoB x = g at *
  obtain ⟨m, s, r, st, cur, gone⟩ := x
  simp only at h1 h2
  have H1 := Lib.hid h1
  have H2 := Lib.hid h2
  clear h1 h2
  show Calls Tryz.prog 84 #[.agg #[.int .i64 m, .int .i64 s, .int .i64 r]] w _
  go_enter Tryz.func84, Tryz.ntmps84
  go_wp2
  all_goals
    go_ret
    refine ⟨aO ?_, (Below.refl _ _).alloc (Nat.le_refl _) _⟩
    first
      | (refine Eq.symm (H2.out.2 ?_); omega)
      | (rw [Bool.eq_iff_iff, H1.out, decide_eq_true_iff]; omega)
theorem boxS_new (w : World) (x : Sup) : bx (w.alloc (.cells (aL x).toArray 62)) w.heap.size x ∧ Below w.heap.size w (w.alloc (.cells (aL x).toArray 62)) ∧ w.heap.size < (w.alloc (.cells (aL x).toArray 62)).heap.size :=
  ⟨bx.new w x, (Below.refl w.heap.size w).alloc (Nat.le_refl _) _, by simp only [World.size_alloc]; omega⟩
theorem pevent (n : Nat) (w : World) : Calls Tryz.prog 127 #[.int .u64 n] w fun e w' => e = .returned (.bool (evB n)) ∧ w = w' := by
  by_cases h : 1 ≤ n
  · go_enter Tryz.func127, Tryz.ntmps127
    go_wp2
    go_ret
    refine ⟨aO ?_, rfl⟩
    unfold evB
    rw [decide_eq_decide]
    omega
  · have h0 : n = 0 := by omega
    subst h0
    go_enter Tryz.func127, Tryz.ntmps127
    go_wp2
    go_ret
    exact ⟨rfl, rfl⟩
set_option maxHeartbeats 1000000 in
theorem pheal (x : Ros) (w : World) : Calls Tryz.prog 157 #[ros x] w fun e w' => e = .returned (.int .i64 (cF x : Nat)) ∧ Below w.heap.size w w' := by
  obtain ⟨h1, h2, h3⟩ := cj w x
  have HR := Lib.hid h1
  have HB := Lib.hid h2
  clear h1 h2 h3
  have HL := Lib.hid (stL_length x.st)
  have HH : Hid (cF x = healK x.st.toList 16) := Lib.hid rfl
  go_enter Tryz.func157, Tryz.ntmps157
  go_wp2_with (first | (refine af rfl (aP rfl rfl) ?_) | (refine af rfl (cY HL.out rfl rfl ?_) ?_; (with_reducible exact HR.out.sts)) | fail)
  generalize w.alloc (.cells (aH x).toArray 28) = w1 at *
  generalize x.st.toList = l at *
  go_loop [3, 8] (fun n i => ∃ j : Nat, j ≤ 16 ∧ i = .int .i64 j ∧ n = .int .i64 (healK l j : Nat)) (fun _ i => 16 - (intOf i).toNat)
  case atStart => exact ⟨0, Nat.zero_le _, rfl, rfl⟩
  case round =>
    obtain ⟨j, hj, rfl, rfl⟩ := hrel
    by_cases hlt : j < 16
    · have hs := Lib.hid (healK_succ l j)
      have hle := healK_le l j
      generalize healK l j = n at *
      by_cases h2 : bt l j = 2
      · rw [if_pos h2] at hs
        have hd : (bt l j == 2) = true := by rw [h2]; rfl
        clear h2
        go_wp2_with (first | (refine af rfl (cN (l := l) (j := j) HL.out hlt rfl rfl rfl) ?_) | fail)
        go_round
        case rel => exact ⟨j + 1, by omega, by go_num, by rw [hs.out]; go_num⟩
        case measure => simp [intOf]; omega
      · rw [if_neg h2] at hs
        have hd : (bt l j == 2) = false := by simpa using h2
        clear h2
        go_wp2_with (first | (refine af rfl (cN (l := l) (j := j) HL.out hlt rfl rfl rfl) ?_) | fail)
        go_round
        case rel => exact ⟨j + 1, by omega, by go_num, by rw [hs.out, Nat.add_zero]⟩
        case measure => simp [intOf]; omega
    · have e : j = 16 := by omega
      subst e
      go_wp2
      go_ret
      exact ⟨by rw [HH.out]; rfl, HB.out⟩
set_option maxHeartbeats 1000000 in
theorem pcur (x : Ros) (w : World) : Calls Tryz.prog 145 #[ros x] w fun e w' => e = .returned (.bool (curB x)) ∧ Below w.heap.size w w' := by
  obtain ⟨h1, h2, h3⟩ := cj w x
  have HR := Lib.hid h1
  have HB := Lib.hid h2
  have HZ := Lib.hid h3
  clear h1 h2 h3
  have HC : Hid (curB x = if cF x = 0 then decide (x.cur = 0) else decide (0 ≤ x.cur ∧ x.cur < x.s)) := Lib.hid rfl
  go_enter Tryz.func145, Tryz.ntmps145
  go_wp2_with (first | (refine af rfl (aP rfl rfl) ?_) | (refine af rfl (aR (c := x) rfl rfl ?_) ?_; (with_reducible exact HR.out.range)) | fail)
  generalize w.alloc (.cells (aH x).toArray 28) = w1 at *
  refine (pheal x w1).mono ?_
  rintro e w2 ⟨rfl, hb⟩
  obtain ⟨c0, c1, c2, c3, c4⟩ := (HR.out.below HZ.out hb).cells
  have HB2 := Lib.hid (HB.out.trans (hb.mono (Nat.le_of_lt HZ.out)))
  clear hb
  generalize x.cur = c at *
  generalize x.s = s at *
  by_cases h0 : cF x = 0
  · rw [if_pos h0] at HC
    rw [h0]
    go_wp2
    go_ret
    exact ⟨aO (by rw [HC.out, Bool.eq_iff_iff]; simp), HB2.out⟩
  · rw [if_neg h0] at HC
    have hd : ((cF x : Int) == 0) = false := by simp; omega
    by_cases hc : 0 ≤ c
    · go_wp2
      go_ret
      exact ⟨aO (by rw [HC.out, decide_eq_decide]; omega), HB2.out⟩
    · have hlt : c < 0 := by omega
      go_wp2
      go_ret
      exact ⟨aO (by rw [HC.out]; simp; omega), HB2.out⟩
set_option linter.unusedSimpArgs false
def memL (x : Ros) : List UInt8 := splice (List.replicate 16 0) 0 (x.st.toList.take x.m.toNat)
theorem memL_length {x : Ros} : (memL x).length = 16 := by
  unfold memL
  rw [length_splice _ _ _ (by simp; omega)]
  simp
theorem bt_memL {x : Ros} (h0 : 0 ≤ x.m) (h16 : x.m ≤ 16) {k : Nat} (hk : k < 16) : bt (memL x) k = if (k : Int) < x.m then sta x k else 0 := by
  unfold memL
  have hl : (x.st.toList.take x.m.toNat).length = x.m.toNat := by simp; omega
  rw [bt_splice (by rw [hl]; simp; omega), hl, bt_noughts]
  by_cases h : (k : Int) < x.m
  · rw [if_pos (by omega), if_pos h]
    unfold sta bt
    simp only [List.getD, Nat.sub_zero, List.getElem?_take_of_lt (show k < x.m.toNat by omega)]
  · rw [if_neg (by omega), if_neg h]
theorem memL_big {x : Ros} (h0 : 0 ≤ x.m) (h16 : x.m ≤ 16) {k : Nat} (hk : k < 16) (hb : 2 < bt (memL x) k) : staB x = false := by
  rw [Bool.eq_false_iff]
  intro h
  have := (of_staB h).1 k hk
  rw [bt_memL h0 h16 hk] at hb
  split at hb <;> omega
theorem memL_all {x : Ros} (h0 : 0 ≤ x.m) (h16 : x.m ≤ 16) (h : ∀ k, k < 16 → bt (memL x) k ≤ 2) : staB x = decide (memL x = x.st.toList) := by
  rw [Bool.eq_iff_iff, decide_eq_true_iff, staB_iff]
  constructor
  · rintro ⟨h1, h2⟩
    refine dl (by rw [memL_length]; simp) fun k hk => ?_
    rw [memL_length] at hk
    rw [bt_memL h0 h16 hk]
    split
    · rfl
    · exact (h2 k hk (by omega)).symm
  · intro e
    have h3 : ∀ k, k < 16 → sta x k = bt (memL x) k := fun k hk => by rw [e]; rfl
    refine ⟨fun k hk => by rw [h3 k hk]; exact h k hk, fun k hk hm => ?_⟩
    rw [h3 k hk, bt_memL h0 h16 hk, if_neg (by omega)]
section
variable {ρ : Operand → Value} {o : Oper} {x z : Operand} {w : World} {g off : Nat}
theorem dZ (ho : o.op = .slice 26 x none none none) (hx : ρ x = .pointer (some ⟨g, off, none⟩)) : (execOp ρ o).run Tryz.prog w = .ok (.value (.slice (some ⟨g, off, none⟩) 16 16)) w := by
  have h : (Instr.sliceAt 26 (.pointer (some ⟨g, off, none⟩)) none none none).run Tryz.prog w = .ok (.slice (some ⟨g, off, none⟩) 16 16) w := by
    simp [Instr.sliceAt, Instr.sliceBounds, Instr.sliceBound, Instr.sureAddr, asIntOf, run_underlying Tryz.underlying26, Tryz.sizeOf5, Addr.add_mid]
  unfold execOp
  simp only [ho, hx, Option.map_none, Sem.run_bind, h, Result.andThen_ok, Sem.run_pure]
theorem exec_first16 {m : Int} (h0 : 0 < m) (h16 : m ≤ 16) (ho : o.op = .slice 26 x none (some z) none) (hx : ρ x = .pointer (some ⟨g, off, none⟩)) (hz : ρ z = .int .i64 m) : (execOp ρ o).run Tryz.prog w = .ok (.value (.slice (some ⟨g, off, none⟩) m.toNat 16)) w := by
  obtain ⟨n, rfl⟩ := Int.eq_ofNat_of_zero_le (Int.le_of_lt h0)
  have h : (Instr.sliceAt 26 (.pointer (some ⟨g, off, none⟩)) none (some (.int .i64 (n : Int))) none).run Tryz.prog w = .ok (.slice (some ⟨g, off, none⟩) n 16) w := by
    have e1 : (0 ≤ (n : Int) ∧ (n : Int) ≤ 16) := by omega
    have e2 : n ≤ 16 := by omega
    simp [Instr.sliceAt, Instr.sliceBounds, Instr.sliceBound, Instr.sureAddr, asIntOf, run_underlying Tryz.underlying26, Tryz.sizeOf5, Addr.add_mid, e1, e2]
  unfold execOp
  simp only [ho, hx, hz, Option.map_none, Option.map_some, Sem.run_bind, h, Result.andThen_ok, Sem.run_pure, Int.toNat_natCast]
end
set_option maxHeartbeats 2000000 in
theorem pstates (x : Ros) (w : World) (h0 : 0 < x.m) (h16 : x.m ≤ 16) : Calls Tryz.prog 144 #[ros x] w fun e w' => e = .returned (.bool (staB x && decide (cF x ≤ 1))) ∧ Below w.heap.size w w' := by
  obtain ⟨h1, h2, h3⟩ := cj w x
  have HR := Lib.hid (h1.past (.cells (vals (List.replicate 16 0)).toArray 26))
  have HB := Lib.hid (h2.alloc h2.size (.cells (vals (List.replicate 16 0)).toArray 26))
  have HM : Hid (bK ((w.alloc (.cells (aH x).toArray 28)).alloc (.cells (vals (List.replicate 16 0)).toArray 26)) (w.heap.size + 1) 26 (List.replicate 16 0)) := by
    have := bK.new (w.alloc (.cells (aH x).toArray 28)) (List.replicate 16 0) 26
    rw [World.size_alloc] at this
    exact Lib.hid this
  clear h1 h2 h3
  have HML := Lib.hid (memL_length (x := x))
  have HSL := Lib.hid (stL_length x.st)
  have HBIG : Hid (∀ k, k < 16 → 2 < bt (memL x) k → staB x = false) := Lib.hid fun k hk hb => memL_big (by omega) h16 hk hb
  have HALL : Hid ((∀ k, k < 16 → bt (memL x) k ≤ 2) → staB x = decide (memL x = x.st.toList)) := Lib.hid fun h => memL_all (by omega) h16 h
  have HDEF : Hid (splice (List.replicate 16 0) 0 (x.st.toList.take x.m.toNat) = memL x) := Lib.hid rfl
  go_enter Tryz.func144, Tryz.ntmps144
  go_wp2_with (first | (refine af rfl (aP rfl rfl) ?_) | (refine af rfl (exec_alloc16 rfl) ?_) | fail)
  simp only [World.size_alloc]
  generalize (w.alloc (.cells (aH x).toArray 28)).alloc (.cells (vals (List.replicate 16 0)).toArray 26) = w1 at *
  have c0 := HR.out.cells.1
  have HRD := Lib.hid (HR.out.rd (m := x.m.toNat) (by omega))
  refine wp_region_still_tail 6 (by kernel_rfl) (by kernel_rfl) ?_
  simp only [List.take_succ_cons, List.take_zero, List.drop_succ_cons, List.drop_zero]
  refine aK rfl (dZ rfl (ev rfl)) ?_
  simp only [Act.put, aa, ac, ae]
  refine aK rfl (aj rfl (ev rfl) faR1) ?_
  simp only [Act.put, aa, ac, ae]
  refine aK rfl (aj rfl (ev rfl) cD) ?_
  simp only [Act.put, aa, ac, ae]
  refine aK rfl (aj rfl (ev rfl) faG0) ?_
  simp only [Act.put, aa, ac, ae]
  refine aK rfl (aq rfl (ev rfl) (aW c0)) ?_
  simp only [Act.put, aa, ac, ae]
  refine aK rfl (exec_first16 h0 h16 rfl (ev rfl) (ev rfl)) ?_
  simp only [Act.put, aa, ac, ae]
  refine wpStill_nil ?_
  change wpList _ _ _ _ _ (World.drew _)
  refine dw rfl _ _ rfl (w.heap.size + 1) 0 16 16 x.m.toNat 16 _ _ 26 (List.replicate 16 0) (x.st.toList.take x.m.toNat) (ev rfl) (ev rfl) HM.out.draw HRD.out (by omega) (by simp; omega) ?_
  intro w2 hr2 hg2
  rw [HDEF.out] at hr2
  have HR2 : Hid (bl w2 w.heap.size x) := Lib.hid ((hg2.block w.heap.size (aD HR.out) (fun e => by injection e with e; omega)).trans HR.out)
  have HM2 := Lib.hid hr2
  have HM2R := Lib.hid (a4 hr2)
  have HB2 : Hid (Below w.heap.size w w2) := Lib.hid ((bd HB.out).grown hg2 HB.out.size (fun k hk => by injection hk with e; omega))
  have HZ2 : Hid (w.heap.size < w2.heap.size) := Lib.hid (aD HR2.out)
  clear hr2 hg2 HR HM HB HRD c0
  simp only [Act.put, aa, ac, ae]
  refine wpList_nil ?_
  go_wp2_with (first | (refine af rfl (cY HML.out rfl rfl ?_) ?_; (with_reducible exact HM2R.out)) | fail)
  have HW2 := Lib.hid (show w2 = w2 from rfl)
  go_loop [14] (fun i => ∃ j : Nat, j ≤ 16 ∧ i = .int .i64 j ∧ ∀ k, k < j → bt (memL x) k ≤ 2) (fun i => 16 - (intOf i).toNat)
  case atStart => exact ⟨0, Nat.zero_le _, rfl, fun k hk => absurd hk (by omega)⟩
  case round =>
    obtain ⟨j, hj, rfl, hall⟩ := hrel
    have HA := Lib.hid hall
    clear hall
    by_cases hlt : j < 16
    · by_cases h2 : 2 < bt (memL x) j
      · have HF := Lib.hid (HBIG.out j hlt h2)
        go_wp2_with (first | (refine af rfl (cN (l := memL x) (j := j) HML.out hlt rfl rfl rfl) ?_) | fail)
        go_ret
        exact ⟨aO (by rw [HF.out]; rfl), HB2.out⟩
      · have h2' : bt (memL x) j ≤ 2 := by omega
        have HN : Hid (∀ k, k < j + 1 → bt (memL x) k ≤ 2) := Lib.hid fun k hk => by
          by_cases e : k = j
          · rw [e]; exact h2'
          · exact HA.out k (by omega)
        go_wp2_with (first | (refine af rfl (cN (l := memL x) (j := j) HML.out hlt rfl rfl rfl) ?_) | fail)
        go_round
        case rel => exact ⟨j + 1, by omega, by go_num, HN.out⟩
        case measure => simp [intOf]; omega
    · have e : j = 16 := by omega
      subst e
      have HE := Lib.hid (HALL.out HA.out)
      cases hs : staB x
      · rw [hs] at HE
        have HD : Hid (decide (memL x = x.st.toList) = false) := Lib.hid HE.out.symm
        have HS := Lib.hid hs
        clear hs HE
        go_wp2_with (first | (refine af rfl (cY HML.out rfl rfl ?_) ?_; (with_reducible exact HM2R.out)) | (refine af rfl (cY HSL.out rfl rfl ?_) ?_; (with_reducible exact HR2.out.sts)) | (refine af rfl (exec_eq16 false HML.out HSL.out rfl rfl rfl HD.out) ?_) | fail)
        go_ret
        exact ⟨aO (by rw [HS.out]; rfl), HB2.out⟩
      · rw [hs] at HE
        have HD : Hid (decide (memL x = x.st.toList) = true) := Lib.hid HE.out.symm
        have HS := Lib.hid hs
        clear hs HE
        go_wp2_with (first | (refine af rfl (cY HML.out rfl rfl ?_) ?_; (with_reducible exact HM2R.out)) | (refine af rfl (cY HSL.out rfl rfl ?_) ?_; (with_reducible exact HR2.out.sts)) | (refine af rfl (exec_eq16 true HML.out HSL.out rfl rfl rfl HD.out) ?_) | (refine ag (by rfl) (aR (c := x) rfl rfl ?_) ?_; (with_reducible exact HR2.out.range)) | fail)
        refine (pheal x w2).mono ?_
        rintro e w3 ⟨rfl, hb⟩
        have HB3 := Lib.hid (HB2.out.trans (hb.mono (Nat.le_of_lt HZ2.out)))
        clear hb
        go_wp2
        go_ret
        exact ⟨aO (by rw [HS.out, Bool.true_and, decide_eq_decide]; omega), HB3.out⟩
set_option maxHeartbeats 2000000 in
theorem proster (x : Ros) (w : World) : Calls Tryz.prog 134 #[ros x] w fun e w' => e = .returned (.bool (aS x)) ∧ Below w.heap.size w w' := by
  have HF := Lib.hid (fine_split x)
  obtain ⟨h1, h2, h3⟩ := cj w x
  have HR := Lib.hid h1
  have HB := Lib.hid h2
  have HZ := Lib.hid h3
  clear h1 h2 h3
  go_enter Tryz.func134, Tryz.ntmps134
  go_wp2_with (first | (refine af rfl (aP rfl rfl) ?_) | (refine af rfl (cR (c := x) rfl rfl ?_) ?_; (with_reducible exact HR.out.geo)) | fail)
  generalize w.alloc (.cells (aH x).toArray 28) = w1 at *
  refine (pgmay x w1).mono ?_
  rintro e w2 ⟨rfl, hb⟩
  have HR2 := Lib.hid (HR.out.below HZ.out hb)
  have HB2 := Lib.hid (HB.out.trans (hb.mono (Nat.le_of_lt HZ.out)))
  have HZ2 := Lib.hid (aD HR2.out)
  clear hb HR HB HZ
  cases hg : geoB x
  · rw [hg] at HF
    go_wp2_with fail
    go_ret
    exact ⟨aO (by rw [HF.out]; rfl), HB2.out⟩
  · rw [hg] at HF
    have hgg := eI.1 hg
    clear hg
    go_wp2_with (first | (refine ag (by rfl) (aR (c := x) rfl rfl ?_) ?_; (with_reducible exact HR2.out.range)) | fail)
    refine (pstates x w2 (by omega) (by omega)).mono ?_
    rintro e w3 ⟨rfl, hb⟩
    have HR3 := Lib.hid (HR2.out.below HZ2.out hb)
    have HB3 := Lib.hid (HB2.out.trans (hb.mono (Nat.le_of_lt HZ2.out)))
    have HZ3 := Lib.hid (aD HR3.out)
    clear hb HR2 HB2 HZ2 hgg
    generalize (staB x && decide (cF x ≤ 1)) = p at *
    cases p
    · go_wp2_with fail
      go_ret
      exact ⟨aO (by rw [HF.out]; rfl), HB3.out⟩
    · go_wp2_with (first | (refine ag (by rfl) (aR (c := x) rfl rfl ?_) ?_; (with_reducible exact HR3.out.range)) | fail)
      refine (pcur x w3).mono ?_
      rintro e w4 ⟨rfl, hb⟩
      have HB4 := Lib.hid (HB3.out.trans (hb.mono (Nat.le_of_lt HZ3.out)))
      clear hb
      generalize curB x = q at *
      go_wp2_with fail
      go_ret
      exact ⟨aO (by rw [HF.out]; rfl), HB4.out⟩
theorem sup_split (x : Sup) : supB x = (decide (x.id ≠ 0) && (aS x.ros && decide (0 ≤ x.self ∧ x.self < x.ros.m))) := by unfold supB; rw [Bool.and_assoc]
set_option maxHeartbeats 2000000 in
theorem psmay (x : Sup) (w : World) : Calls Tryz.prog 128 #[sup x] w fun e w' => e = .returned (.bool (supB x)) ∧ Below w.heap.size w w' := by
  have HF := Lib.hid (sup_split x)
  obtain ⟨h1, h2, h3⟩ := boxS_new w x
  have HR := Lib.hid h1
  have HB := Lib.hid h2
  have HZ := Lib.hid h3
  obtain ⟨c0, c1, c2, c3, c4, c5, c6⟩ := h1.cells
  clear h1 h2 h3
  go_enter Tryz.func128, Tryz.ntmps128
  by_cases hid : x.id = 0
  · rw [decide_eq_false (by simpa using hid)] at HF
    have hd : ((x.id : Int) != 0) = false := by rw [hid]; rfl
    go_wp2_with (first | (refine af rfl (dI rfl rfl) ?_) | fail)
    go_ret
    exact ⟨aO (by rw [HF.out]; rfl), HB.out⟩
  · rw [decide_eq_true (by simpa using hid)] at HF
    have hd : ((x.id : Int) != 0) = true := by simp; omega
    go_wp2_with (first | (refine af rfl (dI rfl rfl) ?_) | (refine ag (by rfl) (aR (c := x.ros) rfl rfl ?_) ?_; (with_reducible exact HR.out.rosr)) | fail)
    generalize w.alloc (.cells (aL x).toArray 62) = w1 at *
    clear c0 c1 c2 c3 c4 c5 c6
    refine (proster x.ros w1).mono ?_
    rintro e w2 ⟨rfl, hb⟩
    obtain ⟨c0, c1, c2, c3, c4, c5, c6⟩ := (HR.out.below HZ.out hb).cells
    have HB2 := Lib.hid (HB.out.trans (hb.mono (Nat.le_of_lt HZ.out)))
    clear hb HR HB HZ hd hid
    generalize aS x.ros = p at *
    generalize x.self = a at *
    generalize x.ros.m = m at *
    cases p
    · go_wp2_with fail
      go_ret
      exact ⟨aO (by rw [HF.out]; rfl), HB2.out⟩
    · by_cases ha : 0 ≤ a
      · go_wp2
        go_ret
        exact ⟨aO (by rw [HF.out]; simp [ha]), HB2.out⟩
      · have ha' : a < 0 := by omega
        go_wp2
        go_ret
        exact ⟨aO (by rw [HF.out]; simp; omega), HB2.out⟩
def unw (ops : Array Oper) : List Oper → Act → Bool
  | [], _ => true
  | r :: rs, a => !(Region.wanted r (yielded ops a.tmps)) && unw ops rs (a.put r.dst undef)
def aY : List Oper → Act → Act
  | [], a => a
  | r :: rs, a => aY rs (a.put r.dst undef)
section
variable {P : Program} {ops : Array Oper} {rest l : List Oper} {o : Oper} {a : Act} {w w' : World} {Q : Exit → Act → World → Prop} {v : Value}
theorem wpList_unw : ∀ (rs : List Oper) (a : Act), unw ops rs a = true → wpList P ops Q rest (aY rs a) w → wpList P ops Q (rs ++ rest) a w
  | [], _, _, h => h
  | r :: rs, a, hu, h => by
    simp only [unw, Bool.and_eq_true, Bool.not_eq_true'] at hu
    refine wpList_step fun K hK => ?_
    rw [if_neg (by rw [hu.1]; exact Bool.false_ne_true)]
    exact hK _ _ (wpList_unw rs _ hu.2 h)
theorem aF (n : Nat) (hw : Region.wanted o (yielded ops a.tmps) = true) (h : (execOp a.eval o).run P w = .ok (.value v) w') (hu : unw ops (l.take n) (a.put o.dst v) = true) (hr : wpList P ops Q (l.drop n) (aY (l.take n) (a.put o.dst v)) w') : wpList P ops Q (o :: l) a w :=
  ag hw h (by have := wpList_unw (P := P) (Q := Q) (l.take n) _ hu hr; rwa [List.take_append_drop] at this)
end
end Go.Proofs.YtnliphgjcaippaaGreatDoor
