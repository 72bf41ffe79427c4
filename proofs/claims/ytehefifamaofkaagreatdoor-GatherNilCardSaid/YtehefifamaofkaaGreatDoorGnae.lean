import Derived.Test.YtehefifamaofkaaGreatDoorGnad
import Derived.Deep.DeepCutAuto
import Derived.Laws.EntriesVeiled
namespace Go.Proofs.YtehefifamaofkaaGreatDoor
set_option maxHeartbeats 8000000
open Go.Proofs.Tryz
open Go.RowKit
set_option linter.unusedVariables false
set_option maxRecDepth 100000
theorem ym {b : List UInt8} {j : Nat} : bt (dh b) j = if j < b.length then bt b j else 0 := by
 unfold dh
 split
 ·rename_i h; exact dG h
 ·rename_i h; rw [dK (by omega), iZ]
theorem rL {n : Nat} {b : List UInt8} {j : Nat} : bt (dj n b) j = if j < 8 then bt (aZ 8 8 n) j else if j < 8 + b.length then bt b (j - 8) else 0 := by
 unfold dj
 split
 ·rename_i h; exact dG (by rw [aD]; exact h)
 ·rename_i h
  rw [dK (by rw [aD]; omega), aD, ym];by_cases h2 : j < 8 + b.length
  ·rw [if_pos (by omega), if_pos h2]
  ·rw [if_neg (by omega), if_neg h2]
theorem xm {n : Nat} {b : List UInt8} {j : Nat} (hb : b.length <= 44) : bt (cF n b) j = if j < 52 then bt (dj n b) j else if j < 56 then bt (aZ 8 4 (more 0 (dj n b))) (j - 52) else bt (aZ 8 8 n) (j - 56) := by
 have h52 := dH n hb;unfold cF
 split
 ·rename_i h; exact dG (by omega)
 ·rename_i h
  rw [dK (by omega), h52]
  split
  ·rename_i h2; exact dG (by rw [aD]; omega)
  ·rename_i h2; rw [dK (by rw [aD]; omega), aD, show j - 52 - 4 = j - 56 from by omega]
def jg (n : Nat) (b : List UInt8) : List UInt8 := splice (splice (splice aA.toList 0 (aZ 8 8 n)) 56 (aZ 8 8 n)) 8 b
theorem ku (n : Nat) : (splice aA.toList 0 (aZ 8 8 n)).length = 64 := by rw [length_splice _ _ _ (by simp [aD])]; simp
theorem kE (n : Nat) : (splice (splice aA.toList 0 (aZ 8 8 n)) 56 (aZ 8 8 n)).length = 64 := by rw [length_splice _ _ _ (by rw [ku, aD]; omega), ku]
section
variable {n : Nat} {b : List UInt8} (hb : b.length <= 44)
include hb
theorem fe : (jg n b).length = 64 := by unfold jg; rw [length_splice _ _ _ (by rw [kE]; omega), kE]
theorem oP {j : Nat} : bt (jg n b) j = if 8 <= j /\ j < 8 + b.length then bt b (j - 8) else if 56 <= j /\ j < 64 then bt (aZ 8 8 n) (j - 56) else if j < 8 then bt (aZ 8 8 n) j else 0 := by
 unfold jg;have hz : bt aA.toList j = 0 := by
  have : aA.toList = List.replicate 64 0 := by decide
  rw [this, iZ]
 rw [fR (by rw [kE]; omega), fR (by rw [ku, aD]; omega), fR (by simp [aD]), aD, hz]
 congr 2
 by_cases h : j < 8
 ·rw [if_pos (by omega), if_pos h, Nat.sub_zero]
 ·rw [if_neg (by omega), if_neg h]
theorem qW : piece (jg n b) 0 52 = dj n b := by
 refine fQ (by rw [cy (by rw [fe hb]; omega), dH n hb]) fun j hj => ?_
 rw [cy (by rw [fe hb]; omega)] at hj;rw [ot hj, Nat.zero_add, oP hb, rL];by_cases h8 : j < 8
 ·rw [if_neg (by omega), if_neg (by omega), if_pos h8, if_pos h8]
 ·by_cases h2 : j < 8 + b.length
  ·rw [if_pos (by omega), if_neg h8, if_pos h2]
  ·rw [if_neg (by omega), if_neg (by omega), if_neg h8, if_neg h8, if_neg h2]
theorem pl : splice (jg n b) 52 (aZ 8 4 (more 0 (dj n b))) = cF n b := by
 have h64 := fe (n := n) hb;refine fQ (by rw [length_splice _ _ _ (by rw [h64, aD]; omega), h64, gA n hb]) fun j hj => ?_
 rw [length_splice _ _ _ (by rw [h64, aD]; omega), h64] at hj;rw [fR (by rw [h64, aD]; omega), xm hb, aD, oP hb, rL];by_cases h52 : j < 52
 ·rw [if_neg (by omega), if_pos h52];by_cases h8 : j < 8
  ·rw [if_neg (by omega), if_neg (by omega), if_pos h8, if_pos h8]
  ·by_cases h2 : j < 8 + b.length
   ·rw [if_pos (by omega), if_neg h8, if_pos h2]
   ·rw [if_neg (by omega), if_neg (by omega), if_neg h8, if_neg h8, if_neg h2]
 ·by_cases h56 : j < 56
  ·rw [if_pos (by omega), if_neg h52, if_pos h56]
  ·rw [if_neg (by omega), if_neg h52, if_neg h56, if_neg (by omega), if_pos (by omega)]
end
theorem cells5 {w : World} {b : Nat} {t : TypeId} {x y z u v : Value} (h : w.heap[b]? = some (.cells #[x, y, z, u, v] t (0, 0))) : w.cell? ⟨b, 0, none⟩ = some x /\ w.cell? ⟨b, 1, none⟩ = some y /\ w.cell? ⟨b, 2, none⟩ = some z /\ w.cell? ⟨b, 3, none⟩ = some u /\ w.cell? ⟨b, 4, none⟩ = some v := by
 refine ⟨?_, ?_, ?_, ?_, ?_⟩
 ·rw [cell_of_row w b 0 _ t (0, 0) h]; rfl
 ·rw [cell_of_row w b 1 _ t (0, 0) h]; rfl
 ·rw [cell_of_row w b 2 _ t (0, 0) h]; rfl
 ·rw [cell_of_row w b 3 _ t (0, 0) h]; rfl
 ·rw [cell_of_row w b 4 _ t (0, 0) h]; rfl
def PartsAt (w : World) (p g : Nat) : Prop := w.heap[p]? = some (.cells (eE g) 171 (0, 0))
theorem PartsAt.cells {w : World} {p g : Nat} (h : PartsAt w p g) : w.cell? ⟨p, 0, none⟩ = some (.slice (some ⟨g, 0, none⟩) 8 8) /\ w.cell? ⟨p, 1, none⟩ = some (.slice (some ⟨g, 8, none⟩) 44 44) /\ w.cell? ⟨p, 2, none⟩ = some (.slice (some ⟨g, 52, none⟩) 4 4) /\ w.cell? ⟨p, 3, none⟩ = some (.slice (some ⟨g, 56, none⟩) 8 8) /\ w.cell? ⟨p, 4, none⟩ = some (.slice (some ⟨g, 0, none⟩) 52 52) := cells5 h
theorem PartsAt.grown {w w' : World} {p g k : Nat} (h : PartsAt w p g) (hk : p ≠ k) (hb : w.grownBy w' (some k)) : PartsAt w' p g := (hb.block p (aX h) (fun e => hk (by injection e))).trans h
theorem PartsAt.below {w w' : World} {p g B : Nat} (h : PartsAt w p g) (hB : p < B) (hb : Below B w w') : PartsAt w' p g := jN h hB hb
structure lw (B : Nat) (w w' : World) (r g p : Nat) (l : List UInt8) : Prop where
 res : cg w' r 29 aA.toList
 row : cg w' g 29 l
 par : PartsAt w' p g
 bel : Below B w w'
 r0 : B <= r
 g0 : B <= g
 rg : r ≠ g
 pg : p ≠ g
theorem lw.turn {B : Nat} {w w1 w2 : World} {r g p : Nat} {l l' : List UInt8} (h : lw B w w1 r g p l) (hr : cg w2 g 29 l') (hg : w1.grownBy w2 (some g)) (hB : B <= w.heap.size) : lw B w w2 r g p l' :=
 ⟨h.res.grown h.rg hg, hr, h.par.grown h.pg hg, h.bel.grown hg (ap hB h.bel.size) (fun k hk => by injection hk with e; have := h.g0; omega), h.r0, h.g0, h.rg, h.pg⟩
theorem lw.draw {B : Nat} {w w1 : World} {r g p : Nat} {l : List UInt8} (h : lw B w w1 r g p l) : lw B w w1.drew r g p l := ⟨h.res, h.row, h.par, bd h.bel, h.r0, h.g0, h.rg, h.pg⟩
section
variable {ρ : Operand -> Value} {o : Oper} {x y z : Operand} {w : World} {t : TypeId} {n : Nat} {a : Value} {ad : Addr} {A : Option Addr} {m c : Nat}
theorem jO (ho : o.op = .convert 59 30 x) (hx : ρ x = .int .u32 (n : Int)) (hn : n < 4294967296) : (execOp ρ o).run prog w = .ok (.value (.int .u64 (n : Int))) w := by
 have h : IntKind.u64.wrap (n : Int) = (n : Int) := IntWalk.u64_in _ ⟨by omega, by omega⟩;have hc : (convert 59 30 (.int .u32 (n : Int))).run prog w = .ok (.int .u64 (n : Int)) w := by simp [convert, go_sem, h]
 unfold execOp;simp only [ho, hx, Sem.run_bind, hc, Result.andThen_ok, Sem.run_pure]
theorem ldS (h : w.cell? ad = some (.slice A m c)) : (Instr.loadAt 116 (.pointer (some ad))).run prog w = .ok (.slice A m c) w := by simp [go_sem, h]
theorem yI {b : Nat} : (Instr.fieldAt 171 (.pointer (some ⟨b, 0, none⟩)) 2).run prog w = .ok (.pointer (some ⟨b, 2, none⟩)) w := by kernel_rfl
theorem y5 {b : Nat} : (Instr.fieldAt 171 (.pointer (some ⟨b, 0, none⟩)) 4).run prog w = .ok (.pointer (some ⟨b, 4, none⟩)) w := by kernel_rfl
end
theorem xo (m c : Nat) (A : Option Addr) (b : List UInt8) (w : World) (hb : b.length = m) :
  Calls prog 121 #[.int .u64 0, .slice A m c] w fun e w' => e = .returned (.tuple #[blk (eM 0 b), .int .i64 (eA 0 b : Nat)]) /\ Below w.heap.size w w' := by
 have hA := (Below.refl w.heap.size w).alloc ai (.cells (cel aA).toArray 29);have HT := ae (eC w aA 29);have HA := ae hA;clear hA;rw [show eM 0 b = aA from rfl, show eA 0 b = 2 from rfl];go_enter func121, ntmps121;go_wp2_with (first | (refine av rfl (bJ rfl) ?_) | (refine av rfl (cG (c := aA) (parts := []) rfl rfl) ?_) | (refine a9 rfl (bv rfl rfl rfl HT.out) ?_));refine bodyPost_ret (cE rfl _ _ _ rfl (World.rangeAt_setCells_same _ _ _ _ (by rw [aI]; exact HT))) rfl ⟨rfl, below_setCells HA ai _⟩
theorem vA (n m c : Nat) (A : Option Addr) (b : List UInt8) (w : World) (hb : b.length = m) (h0 : 0 < n) (hm : 44 < m) (hm2 : m <= maxLen) :
  Calls prog 121 #[.int .u64 n, .slice A m c] w fun e w' => e = .returned (.tuple #[blk (eM n b), .int .i64 (eA n b : Nat)]) /\ Below w.heap.size w w' := by
 have hA := (Below.refl w.heap.size w).alloc ai (.cells (cel aA).toArray 29);have HT := ae (eC w aA 29);have HA := ae hA;have hE : eA n b = 3 := by unfold eA; rw [if_neg (by omega), if_pos (by omega)]
 have hB : eM n b = aA := by unfold eM; rw [hE]; rfl
 rw [hE, hB];unfold maxLen at hm2;clear hA hE hB hb;have hz : ((n : Int) == 0) = false := by simp; omega
 go_enter func121, ntmps121;go_wp2_with (first | (refine av rfl (bJ rfl) ?_) | (refine av rfl (cG (c := aA) (parts := []) rfl rfl) ?_) | (refine a9 rfl (bv rfl rfl rfl HT.out) ?_));refine bodyPost_ret (cE rfl _ _ _ rfl (World.rangeAt_setCells_same _ _ _ _ (by rw [aI]; exact HT))) rfl ⟨rfl, below_setCells HA ai _⟩
theorem lz {a x : List UInt8} (h : a.length + x.length <= 44) : splice (dh a) a.length x = dh (a ++ x) := by
 unfold splice dh;rw [List.take_append_of_le_length ai, List.take_length, List.drop_append];rw [List.drop_of_length_le (by omega), List.nil_append, List.drop_replicate, List.append_assoc, List.length_append]
 congr 3
 omega
def z44 : List UInt8 := List.replicate 44 0
theorem qo : z44.length = 44 := rfl
def aS (x : Sup) : List Value := .int .u64 x.id :: .int .i64 x.self :: aQ x.ros
def sup (x : Sup) : Value := .agg (aS x).toArray
theorem aG (x : Sup) : (aS x).length = 23 := by simp [aS, aU]
theorem kX (x : Sup) : ∀ v ∈ aS x, v.oneCell' = true := by
 intro v hv;simp only [aS, List.mem_cons] at hv;rcases hv with rfl | rfl | hv
 ·rfl
 ·rfl
 ·exact fW _ v hv
theorem eQ : (prog.info? 37).map (·.size) = some 23 := by kernel_rfl
theorem jL : (prog.info? 162).map (·.size) = some 44 := by kernel_rfl
theorem pZ : (prog.info? 37).map (fun i => i.zero) = some (some (sup bg)) := by kernel_rfl
theorem oV : (prog.info? 162).map (fun i => i.zero) = some (some (arr z44)) := by kernel_rfl
section
variable {ρ : Operand -> Value} {o : Oper} {x y : Operand} {w : World} {b off : Nat}
theorem cn {c : Sup} (ho : o.op = .load 37 x) (hx : ρ x = .pointer (some ⟨b, off, none⟩)) (hc : w.rangeAt b off (aS c)) : (execOp ρ o).run prog w = .ok (.value (sup c)) w :=
 ec underlying37 rfl (by rw [aG]; exact eQ) ho hx hc
theorem fB {l : List UInt8} (hl : l.length = 44) (ho : o.op = .load 162 x) (hx : ρ x = .pointer (some ⟨b, off, none⟩)) (hc : w.rangeAt b off (vals l)) : (execOp ρ o).run prog w = .ok (.value (arr l)) w :=
 ec underlying162 rfl (by rw [bf, hl]; exact jL) ho hx hc
theorem fX {c : Sup} (ho : o.op = .box 37 x) (hx : ρ x = sup c) : (execOp ρ o).run prog w = .ok (.value (.pointer (some ⟨w.heap.size, 0, none⟩))) (w.alloc (.cells (aS c).toArray 37)) := et ho hx
theorem bk (ho : o.op = .alloc 37) : (execOp ρ o).run prog w = .ok (.value (.pointer (some ⟨w.heap.size, 0, none⟩))) (w.alloc (.cells (aS bg).toArray 37)) := dl pZ ho
theorem i6 (ho : o.op = .alloc 162) : (execOp ρ o).run prog w = .ok (.value (.pointer (some ⟨w.heap.size, 0, none⟩))) (w.alloc (.cells (vals z44).toArray 162)) := dl oV ho
theorem cm {c d : Sup} (ho : o.op = .store 37 x y) (hx : ρ x = .pointer (some ⟨w.heap.size, 0, none⟩)) (hy : ρ y = sup c) : (execOp ρ o).run prog (w.alloc (.cells (aS d).toArray 37)) = .ok .skip (w.alloc (.cells (aS c).toArray 37)) :=
 fP (by rw [aG]; exact eQ) (by rw [aG, aG]) (kX c) ho hx hy
theorem cp {c : Sup} (ho : o.op = .store 37 x y) (hx : ρ x = .pointer (some ⟨b, off, none⟩)) (hy : ρ y = sup c) (ht : w.there b off 23) : (execOp ρ o).run prog w = .ok .skip (w.setCells b off (aS c)) :=
 el (by rw [aG]; exact eQ) (kX c) ho hx hy (by rw [aG]; exact ht)
theorem vg (w : World) : (Instr.build 37 #[]).run prog w = .ok (sup bg) w := by kernel_rfl
theorem er (ho : o.op = .build 37 #[]) : (execOp ρ o).run prog w = .ok (.value (sup bg)) w := fN ho (vg w)
end
theorem xX (x : Sup) : aS x = [.int .u64 x.id, .int .i64 x.self] ++ aQ x.ros := rfl
section
variable {ρ : Operand -> Value} {o : Oper} {x y : Operand} {w : World} {t : TypeId}
theorem xy : prog.eqGuardType prog.depth 162 = false := by kernel_rfl
theorem mE {a b : List UInt8} (c : Bool) (ha : a.length = 44) (hb : b.length = 44) (ho : o.op = .binOp .neq 162 x y t) (hx : ρ x = arr a) (hy : ρ y = arr b) (h : decide (a = b) = c) : (execOp ρ o).run prog w = .ok (.value (.bool (!c))) w := by
 subst h; exact vy xy (mr underlying162 w a b ha hb 9998) ho hx hy
end
def bU (w : World) (b : Nat) (x : Sup) : Prop := w.heap[b]? = some (.cells (aS x).toArray 37 (0, 0))
section
variable {w w' : World} {b : Nat} {x : Ros} {y : Sup}
theorem bU.range (h : bU w b y) : w.rangeAt b 0 (aS y) := bK h
theorem bU.mM (h : bU w b y) : w.rangeAt b 2 (aQ y.ros) := by
 have := dJ (k := 2) (ds := [.int .u64 y.id, .int .i64 y.self]) (es := aQ y.ros) (fs := []) h.range (by simp [xX]) rfl;rwa [Nat.zero_add] at this
theorem bU.cells (h : bU w b y) : w.cell? ⟨b, 0, none⟩ = some (.int .u64 y.id) /\ w.cell? ⟨b, 1, none⟩ = some (.int .i64 y.self) /\ w.cell? ⟨b, 2, none⟩ = some (.int .i64 y.ros.m) /\ w.cell? ⟨b, 3, none⟩ = some (.int .i64 y.ros.s) /\ w.cell? ⟨b, 4, none⟩ = some (.int .i64 y.ros.r) /\ w.cell? ⟨b, 21, none⟩ = some (.int .i64 y.ros.cur) /\ w.cell? ⟨b, 22, none⟩ = some (.bool y.ros.gone) := by
 have hr := dJ (k := 19) (ds := dn y.ros ++ vals y.ros.st.toList) (es := [.int .i64 y.ros.cur, .bool y.ros.gone]) (fs := []) h.mM (by simp [fC]) (by simp [dn, bf]);exact ⟨h.range 0 _ rfl, h.range 1 _ rfl, h.range 2 _ rfl, h.range 3 _ rfl, h.range 4 _ rfl, hr 0 _ rfl, hr 1 _ rfl⟩
theorem bU.below {B : Nat} (h : bU w b y) (hB : b < B) (hb : Below B w w') : bU w' b y := jN h hB hb
theorem bU.new (w : World) (y : Sup) : bU (w.alloc (.cells (aS y).toArray 37)) w.heap.size y := heap_alloc_new w _
theorem bU.past (h : bU w b y) (o : Obj) : bU (w.alloc o) b y := bq h o
end
theorem yj (x : Ros) (w : World) : Calls prog 90 #[geo x] w fun e w' => e = .returned (.bool (dM x)) /\ Below w.heap.size w w' := by
 have h1 := gJ (x := x);have h2 := oF (x := x);generalize dM x = g at *;obtain ⟨m, s, r, st, cur, gone⟩ := x;simp only at h1 h2;have H1 := ae h1;have H2 := ae h2;clear h1 h2
 show Calls prog 90 #[.agg #[.int .i64 m, .int .i64 s, .int .i64 r]] w _
 go_enter func90, ntmps90;go_wp2
 all_goals
  go_ret;refine ⟨bh ?_, aj.alloc ai _⟩
  first
   |(refine Eq.symm (H2.out.2 ?_); omega)
   |(rw [Bool.eq_iff_iff, H1.out, decide_eq_true_iff]; omega)
theorem z8 (x : Ros) (w : World) : Calls prog 89 #[geo x] w fun e w' => e = .returned (.bool (dM x)) /\ Below w.heap.size w w' := by
 have h1 := gJ (x := x);have h2 := oF (x := x);generalize dM x = g at *;obtain ⟨m, s, r, st, cur, gone⟩ := x;simp only at h1 h2;have H1 := ae h1;have H2 := ae h2;clear h1 h2
 show Calls prog 89 #[.agg #[.int .i64 m, .int .i64 s, .int .i64 r]] w _
 go_enter func89, ntmps89;go_wp2
 all_goals
  go_ret;refine ⟨bh ?_, aj.alloc ai _⟩
  first
   |(refine Eq.symm (H2.out.2 ?_); omega)
   |(rw [Bool.eq_iff_iff, H1.out, decide_eq_true_iff]; omega)
theorem lJ (w : World) (x : Sup) : bU (w.alloc (.cells (aS x).toArray 37)) w.heap.size x /\ Below w.heap.size w (w.alloc (.cells (aS x).toArray 37)) /\ w.heap.size < (w.alloc (.cells (aS x).toArray 37)).heap.size :=
 ⟨bU.new w x, (Below.refl w.heap.size w).alloc ai _, by simp only [World.size_alloc]; omega⟩
theorem vB (n : Nat) (w : World) : Calls prog 118 #[.int .u64 n] w fun e w' => e = .returned (.bool (evB n)) /\ w = w' := by
 by_cases h : 1 <= n
 ·go_enter func118, ntmps118;go_wp2;go_ret;refine ⟨bh ?_, rfl⟩;unfold evB;rw [decide_eq_decide];omega
 ·have h0 : n = 0 := by omega
  subst h0;go_enter func118, ntmps118;go_wp2;go_ret;exact ⟨rfl, rfl⟩
theorem yk (x : Ros) (w : World) : Calls prog 149 #[ros x] w fun e w' => e = .returned (.int .i64 (cu x : Nat)) /\ Below w.heap.size w w' := by
 obtain ⟨h1, h2, h3⟩ := cP w x;have HR := ae h1;have HB := ae h2;clear h1 h2 h3;have HL := ae (gy x.st);have HH : Hid (cu x = eR x.st.toList 16) := ae rfl;go_enter func149, ntmps149;go_wp2_with (first | (refine au rfl (bc rfl rfl) ?_) | (refine au rfl (di HL.out rfl rfl ?_) ?_; (with_reducible exact HR.out.sts)) | fail);generalize w.alloc (.cells (aQ x).toArray 35) = w1 at *;generalize x.st.toList = l at *
 go_loop [3, 8] (fun n i => ∃ j : Nat, j <= 16 /\ i = .int .i64 j /\ n = .int .i64 (eR l j : Nat)) (fun _ i => 16 - (intOf i).toNat)
 case atStart => exact ⟨0, Nat.zero_le _, rfl, rfl⟩
 case round =>
  obtain ⟨j, hj, rfl, rfl⟩ := hrel;by_cases hlt : j < 16
  ·have hs := ae (gl l j);have hle := kV l j;generalize eR l j = n at *;by_cases h2 : bt l j = 2
   ·rw [if_pos h2] at hs;have hd : (bt l j == 2) = true := by rw [h2]; rfl
    clear h2;go_wp2_with (first | (refine au rfl (du (l := l) (j := j) HL hlt rfl rfl rfl) ?_) | fail)
    go_round
    case rel => exact ⟨j + 1, by omega, by go_num, by rw [hs.out]; go_num⟩
    case measure => simp [intOf]; omega
   ·rw [if_neg h2] at hs;have hd : (bt l j == 2) = false := by simpa using h2
    clear h2;go_wp2_with (first | (refine au rfl (du (l := l) (j := j) HL hlt rfl rfl rfl) ?_) | fail)
    go_round
    case rel => exact ⟨j + 1, by omega, by go_num, by rw [hs.out, Nat.add_zero]⟩
    case measure => simp [intOf]; omega
  ·have e : j = 16 := by omega
   subst e;go_wp2;go_ret;exact ⟨by rw [HH.out]; rfl, HB⟩
theorem aaK (x : Ros) (w : World) : Calls prog 140 #[ros x] w fun e w' => e = .returned (.bool (oG x)) /\ Below w.heap.size w w' := by
 obtain ⟨h1, h2, h3⟩ := cP w x;have HR := ae h1;have HB := ae h2;have HZ := ae h3;clear h1 h2 h3;have HC : Hid (oG x = if cu x = 0 then decide (x.cur = 0) else decide (0 <= x.cur /\ x.cur < x.s)) := ae rfl;go_enter func140, ntmps140;go_wp2_with (first | (refine au rfl (bc rfl rfl) ?_) | (refine au rfl (bn (c := x) rfl rfl ?_) ?_; (with_reducible exact HR.out.range)) | fail);generalize w.alloc (.cells (aQ x).toArray 35) = w1 at *;refine (yk x w1).mono ?_;rintro e w2 ⟨rfl, hb⟩;obtain ⟨c0, c1, c2, c3, c4⟩ := (HR.out.below HZ hb).cells;have HB2 := ae (HB.out.trans (hb.mono (Nat.le_of_lt HZ)));clear hb;generalize x.cur = c at *;generalize x.s = s at *;by_cases h0 : cu x = 0
 ·rw [if_pos h0] at HC;rw [h0];go_wp2;go_ret;exact ⟨bh (by rw [HC.out, Bool.eq_iff_iff]; simp), HB2⟩
 ·rw [if_neg h0] at HC;have hd : ((cu x : Int) == 0) = false := by simp; omega
  by_cases hc : 0 <= c
  ·go_wp2;go_ret;exact ⟨bh (by rw [HC.out, decide_eq_decide]; omega), HB2⟩
  ·have hlt : c < 0 := by omega
   go_wp2;go_ret;exact ⟨bh (by rw [HC.out]; simp; omega), HB2⟩
set_option linter.unusedSimpArgs false
def fM (x : Ros) : List UInt8 := splice (List.replicate 16 0) 0 (x.st.toList.take x.m.toNat)
theorem ic {x : Ros} : (fM x).length = 16 := by
 unfold fM;rw [length_splice _ _ _ (by simp; omega)];simp
theorem mY {x : Ros} (h0 : 0 <= x.m) (h16 : x.m <= 16) {k : Nat} (hk : k < 16) : bt (fM x) k = if (k : Int) < x.m then sta x k else 0 := by
 unfold fM;have hl : (x.st.toList.take x.m.toNat).length = x.m.toNat := by simp; omega
 rw [fR (by rw [hl]; simp; omega), hl, iZ];by_cases h : (k : Int) < x.m
 ·rw [if_pos (by omega), if_pos h];unfold sta bt;simp only [List.getD, Nat.sub_zero, List.getElem?_take_of_lt (show k < x.m.toNat by omega)]
 ·rw [if_neg (by omega), if_neg h]
theorem vi {x : Ros} (h0 : 0 <= x.m) (h16 : x.m <= 16) {k : Nat} (hk : k < 16) (hb : 2 < bt (fM x) k) : ew x = false := by
 rw [Bool.eq_false_iff];intro h;have := (gr h).1 k hk;rw [mY h0 h16 hk] at hb
 split at hb <;> omega
theorem vH {x : Ros} (h0 : 0 <= x.m) (h16 : x.m <= 16) (h : ∀ k, k < 16 -> bt (fM x) k <= 2) : ew x = decide (fM x = x.st.toList) := by
 rw [Bool.eq_iff_iff, decide_eq_true_iff, fY]
 constructor
 ·rintro ⟨h1, h2⟩;refine fQ (by rw [ic]; simp) fun k hk => ?_
  rw [ic] at hk;rw [mY h0 h16 hk]
  split
  ·rfl
  ·exact (h2 k hk (by omega)).symm
 ·intro e;have h3 : ∀ k, k < 16 -> sta x k = bt (fM x) k := fun k hk => by rw [e]; rfl
  refine ⟨fun k hk => by rw [h3 k hk]; exact h k hk, fun k hk hm => ?_⟩;rw [h3 k hk, mY h0 h16 hk, if_neg (by omega)]
section
variable {ρ : Operand -> Value} {o : Oper} {x z : Operand} {w : World} {g off : Nat}
theorem iP (ho : o.op = .slice 33 x none none none) (hx : ρ x = .pointer (some ⟨g, off, none⟩)) : (execOp ρ o).run prog w = .ok (.value (.slice (some ⟨g, off, none⟩) 16 16)) w := by
 have h : (Instr.sliceAt 33 (.pointer (some ⟨g, off, none⟩)) none none none).run prog w = .ok (.slice (some ⟨g, off, none⟩) 16 16) w := by
  simp [Instr.sliceAt, Instr.sliceBounds, Instr.sliceBound, Instr.sureAddr, asIntOf, run_underlying underlying33, Tryz.sizeOf5, Addr.add_mid]
 unfold execOp;simp only [ho, hx, Option.map_none, Sem.run_bind, h, Result.andThen_ok, Sem.run_pure]
theorem m8 {m : Int} (h0 : 0 < m) (h16 : m <= 16) (ho : o.op = .slice 33 x none (some z) none) (hx : ρ x = .pointer (some ⟨g, off, none⟩)) (hz : ρ z = .int .i64 m) : (execOp ρ o).run prog w = .ok (.value (.slice (some ⟨g, off, none⟩) m.toNat 16)) w := by
 obtain ⟨n, rfl⟩ := Int.eq_ofNat_of_zero_le (Int.le_of_lt h0);have h : (Instr.sliceAt 33 (.pointer (some ⟨g, off, none⟩)) none (some (.int .i64 (n : Int))) none).run prog w = .ok (.slice (some ⟨g, off, none⟩) n 16) w := by
  have e1 : (0 <= (n : Int) /\ (n : Int) <= 16) := by omega
  have e2 : n <= 16 := by omega
  simp [Instr.sliceAt, Instr.sliceBounds, Instr.sliceBound, Instr.sureAddr, asIntOf, run_underlying underlying33, Tryz.sizeOf5, Addr.add_mid, e1, e2]
 unfold execOp;simp only [ho, hx, hz, Option.map_none, Option.map_some, Sem.run_bind, h, Result.andThen_ok, Sem.run_pure, Int.toNat_natCast]
end
theorem xZ (x : Ros) (w : World) (h0 : 0 < x.m) (h16 : x.m <= 16) : Calls prog 139 #[ros x] w fun e w' => e = .returned (.bool (ew x && decide (cu x <= 1))) /\ Below w.heap.size w w' := by
 obtain ⟨h1, h2, h3⟩ := cP w x;have HR := ae (h1.past (.cells (vals (List.replicate 16 0)).toArray 33));have HB := ae (h2.alloc h2.size (.cells (vals (List.replicate 16 0)).toArray 33));have HM : Hid (cg ((w.alloc (.cells (aQ x).toArray 35)).alloc (.cells (vals (List.replicate 16 0)).toArray 33)) (w.heap.size + 1) 33 (List.replicate 16 0)) := by
  have := cg.new (w.alloc (.cells (aQ x).toArray 35)) (List.replicate 16 0) 33;rw [World.size_alloc] at this;exact ae this
 clear h1 h2 h3;have HML := ae (ic (x := x));have HSL := ae (gy x.st);have HBIG : Hid (∀ k, k < 16 -> 2 < bt (fM x) k -> ew x = false) := ae fun k hk hb => vi (by omega) h16 hk hb
 have HALL : Hid ((∀ k, k < 16 -> bt (fM x) k <= 2) -> ew x = decide (fM x = x.st.toList)) := ae fun h => vH (by omega) h16 h
 have HDEF : Hid (splice (List.replicate 16 0) 0 (x.st.toList.take x.m.toNat) = fM x) := ae rfl;go_enter func139, ntmps139;go_wp2_with (first | (refine au rfl (bc rfl rfl) ?_) | (refine au rfl (nj rfl) ?_) | fail);simp only [World.size_alloc];generalize (w.alloc (.cells (aQ x).toArray 35)).alloc (.cells (vals (List.replicate 16 0)).toArray 33) = w1 at *;have c0 := HR.out.cells.1;have HRD := ae (HR.out.rd (m := x.m.toNat) (by omega));refine wp_region_still_tail 6 (by kernel_rfl) (by kernel_rfl) ?_;simp only [ac];refine aM rfl (iP rfl abd) ?_;simp only [aa];refine aM rfl (ax rfl abd lX) ?_;simp only [aa];refine aM rfl (ax rfl abd qy) ?_;simp only [aa];refine aM rfl (ax rfl abd sq) ?_;simp only [aa];refine aM rfl (aF rfl abd (dw c0)) ?_;simp only [aa];refine aM rfl (m8 h0 h16 rfl abd abd) ?_;simp only [aa];refine wpStill_nil ?_;change wpList _ _ _ _ _ (World.drew _);refine dI rfl _ _ rfl (w.heap.size + 1) 0 16 16 x.m.toNat 16 _ _ 33 (List.replicate 16 0) (x.st.toList.take x.m.toNat) abd abd HM.out.draw HRD (by omega) (by simp; omega) ?_;intro w2 hr2 hg2;rw [HDEF.out] at hr2;have HR2 : Hid (bw w2 w.heap.size x) := ae ((hg2.block w.heap.size (aX HR) (fun e => by injection e with e; omega)).trans HR);have HM2 := ae hr2;have HM2R := ae (bK hr2);have HB2 : Hid (Below w.heap.size w w2) := ae ((bd HB).grown hg2 HB.out.size (fun k hk => by injection hk with e; omega));have HZ2 : Hid (w.heap.size < w2.heap.size) := ae (aX HR2);clear hr2 hg2 HR HM HB HRD c0;simp only [aa];refine ag ?_;go_wp2_with (first | (refine au rfl (di HML.out rfl rfl ?_) ?_; (with_reducible exact HM2R.out)) | fail);have HW2 := ae (show w2 = w2 from rfl)
 go_loop [14] (fun i => ∃ j : Nat, j <= 16 /\ i = .int .i64 j /\ ∀ k, k < j -> bt (fM x) k <= 2) (fun i => 16 - (intOf i).toNat)
 case atStart => exact ⟨0, Nat.zero_le _, rfl, fun k hk => absurd hk (by omega)⟩
 case round =>
  obtain ⟨j, hj, rfl, hall⟩ := hrel;have HA := ae hall;clear hall;by_cases hlt : j < 16
  ·by_cases h2 : 2 < bt (fM x) j
   ·have HF := ae (HBIG.out j hlt h2);go_wp2_with (first | (refine au rfl (du (l := fM x) (j := j) HML hlt rfl rfl rfl) ?_) | fail);go_ret;exact ⟨bh (by rw [HF.out]; rfl), HB2⟩
   ·have h2' : bt (fM x) j <= 2 := by omega
    have HN : Hid (∀ k, k < j + 1 -> bt (fM x) k <= 2) := ae fun k hk => by
     by_cases e : k = j
     ·rw [e]; exact h2'
     ·exact HA.out k (by omega)
    go_wp2_with (first | (refine au rfl (du (l := fM x) (j := j) HML hlt rfl rfl rfl) ?_) | fail)
    go_round
    case rel => exact ⟨j + 1, by omega, by go_num, HN⟩
    case measure => simp [intOf]; omega
  ·have e : j = 16 := by omega
   subst e;have HE := ae (HALL.out HA);cases hs : ew x
   ·rw [hs] at HE;have HD : Hid (decide (fM x = x.st.toList) = false) := ae HE.out.symm;have HS := ae hs;clear hs HE;go_wp2_with (first | (refine au rfl (di HML.out rfl rfl ?_) ?_; (with_reducible exact HM2R.out)) | (refine au rfl (di HSL.out rfl rfl ?_) ?_; (with_reducible exact HR2.out.sts)) | (refine au rfl (mC false HML.out HSL.out rfl rfl rfl HD.out) ?_) | fail);go_ret;exact ⟨bh (by rw [HS.out]; rfl), HB2⟩
   ·rw [hs] at HE;have HD : Hid (decide (fM x = x.st.toList) = true) := ae HE.out.symm;have HS := ae hs;clear hs HE;go_wp2_with (first | (refine au rfl (di HML.out rfl rfl ?_) ?_; (with_reducible exact HM2R.out)) | (refine au rfl (di HSL.out rfl rfl ?_) ?_; (with_reducible exact HR2.out.sts)) | (refine au rfl (mC true HML.out HSL.out rfl rfl rfl HD.out) ?_) | (refine av (by rfl) (bn (c := x) rfl rfl ?_) ?_; (with_reducible exact HR2.out.range)) | fail);refine (yk x w2).mono ?_;rintro e w3 ⟨rfl, hb⟩;have HB3 := ae (HB2.out.trans (hb.mono (Nat.le_of_lt HZ2)));clear hb;go_wp2;go_ret;exact ⟨bh (by rw [HS.out, Bool.true_and, decide_eq_decide]; omega), HB3⟩
theorem xg (x : Ros) (w : World) : Calls prog 126 #[ros x] w fun e w' => e = .returned (.bool (aW x)) /\ Below w.heap.size w w' := by
 have HF := ae (lN x);obtain ⟨h1, h2, h3⟩ := cP w x;have HR := ae h1;have HB := ae h2;have HZ := ae h3;clear h1 h2 h3;go_enter func126, ntmps126;go_wp2_with (first | (refine au rfl (bc rfl rfl) ?_) | (refine au rfl (cv (c := x) rfl rfl ?_) ?_; (with_reducible exact HR.out.geo)) | fail);generalize w.alloc (.cells (aQ x).toArray 35) = w1 at *;refine (yj x w1).mono ?_;rintro e w2 ⟨rfl, hb⟩;have HR2 := ae (HR.out.below HZ hb);have HB2 := ae (HB.out.trans (hb.mono (Nat.le_of_lt HZ)));have HZ2 := ae (aX HR2);clear hb HR HB HZ;cases hg : dM x
 ·rw [hg] at HF;go_wp2_with fail;go_ret;exact ⟨bh (by rw [HF.out]; rfl), HB2⟩
 ·rw [hg] at HF;have hgg := gJ.1 hg;clear hg;go_wp2_with (first | (refine av (by rfl) (bn (c := x) rfl rfl ?_) ?_; (with_reducible exact HR2.out.range)) | fail);refine (xZ x w2 (by omega) (by omega)).mono ?_;rintro e w3 ⟨rfl, hb⟩;have HR3 := ae (HR2.out.below HZ2 hb);have HB3 := ae (HB2.out.trans (hb.mono (Nat.le_of_lt HZ2)));have HZ3 := ae (aX HR3);clear hb HR2 HB2 HZ2 hgg;generalize (ew x && decide (cu x <= 1)) = p at *;cases p
  ·go_wp2_with fail;go_ret;exact ⟨bh (by rw [HF.out]; rfl), HB3⟩
  ·go_wp2_with (first | (refine av (by rfl) (bn (c := x) rfl rfl ?_) ?_; (with_reducible exact HR3.out.range)) | fail);refine (aaK x w3).mono ?_;rintro e w4 ⟨rfl, hb⟩;have HB4 := ae (HB3.out.trans (hb.mono (Nat.le_of_lt HZ3)));clear hb;generalize oG x = q at *;go_wp2_with fail;go_ret;exact ⟨bh (by rw [HF.out]; rfl), HB4⟩
theorem sf (x : Sup) : ef x = (decide (x.id ≠ 0) && (aW x.ros && decide (0 <= x.self /\ x.self < x.ros.m))) := by unfold ef; rw [Bool.and_assoc]
theorem ya (x : Sup) (w : World) : Calls prog 119 #[sup x] w fun e w' => e = .returned (.bool (ef x)) /\ Below w.heap.size w w' := by
 have HF := ae (sf x);obtain ⟨h1, h2, h3⟩ := lJ w x;have HR := ae h1;have HB := ae h2;have HZ := ae h3;obtain ⟨c0, c1, c2, c3, c4, c5, c6⟩ := h1.cells;clear h1 h2 h3;go_enter func119, ntmps119;by_cases hid : x.id = 0
 ·rw [al (by simpa using hid)] at HF;have hd : ((x.id : Int) != 0) = false := by rw [hid]; rfl
  go_wp2_with (first | (refine au rfl (fX rfl rfl) ?_) | fail);go_ret;exact ⟨bh (by rw [HF.out]; rfl), HB⟩
 ·rw [am (by simpa using hid)] at HF;have hd : ((x.id : Int) != 0) = true := by simp; omega
  go_wp2_with (first | (refine au rfl (fX rfl rfl) ?_) | (refine av (by rfl) (bn (c := x.ros) rfl rfl ?_) ?_; (with_reducible exact HR.out.mM)) | fail);generalize w.alloc (.cells (aS x).toArray 37) = w1 at *;clear c0 c1 c2 c3 c4 c5 c6;refine (xg x.ros w1).mono ?_;rintro e w2 ⟨rfl, hb⟩;obtain ⟨c0, c1, c2, c3, c4, c5, c6⟩ := (HR.out.below HZ hb).cells;have HB2 := ae (HB.out.trans (hb.mono (Nat.le_of_lt HZ)));clear hb HR HB HZ hd hid;generalize aW x.ros = p at *;generalize x.self = a at *;generalize x.ros.m = m at *;cases p
  ·go_wp2_with fail;go_ret;exact ⟨bh (by rw [HF.out]; rfl), HB2⟩
  ·by_cases ha : 0 <= a
   ·go_wp2;go_ret;exact ⟨bh (by rw [HF.out]; simp [ha]), HB2⟩
   ·have ha' : a < 0 := by omega
    go_wp2;go_ret;exact ⟨bh (by rw [HF.out]; simp; omega), HB2⟩
def unw (ops : Array Oper) : List Oper -> Act -> Bool
 |[], _ => true
 |r :: rs, a => !(Region.wanted r (yielded ops a.tmps)) && unw ops rs (a.put r.dst undef)
def bu : List Oper -> Act -> Act
 |[], a => a
 |r :: rs, a => bu rs (a.put r.dst undef)
section
variable {P : Program} {ops : Array Oper} {rest l : List Oper} {o : Oper} {a : Act} {w w' : World} {Q : Exit -> Act -> World -> Prop} {v : Value}
theorem lP : ∀ (rs : List Oper) (a : Act), unw ops rs a = true -> wpList P ops Q rest (bu rs a) w -> wpList P ops Q (rs ++ rest) a w
 |[], _, _, h => h
 |r :: rs, a, hu, h => by
  simp only [unw, Bool.and_eq_true, Bool.not_eq_true'] at hu;refine wpList_step fun K hK => ?_
  rw [if_neg (by rw [hu.1]; exact Bool.false_ne_true)];exact hK _ _ (lP rs _ hu.2 h)
theorem aN (n : Nat) (hw : Region.wanted o (yielded ops a.tmps) = true) (h : (execOp a.eval o).run P w = .ok (.value v) w') (hu : unw ops (l.take n) (a.put o.dst v) = true) (hr : wpList P ops Q (l.drop n) (bu (l.take n) (a.put o.dst v)) w') : wpList P ops Q (o :: l) a w :=
 av hw h (by have := lP (P := P) (Q := Q) (l.take n) _ hu hr; rwa [List.take_append_drop] at this)
end
theorem ye (x : Ros) (w : World) : Calls prog 65 #[ros x] w fun e w' => e = .returned (.bool (aW x)) /\ Below w.heap.size w w' := by
 have HGE : Hid (dM x = false -> aW x = false) := ae fun h => by unfold aW; rw [h]; rfl
 have HOK : Hid (dM x = true -> ew x = true -> aW x = (decide (cu x <= 1) && decide (0 <= x.cur /\ x.cur < x.s /\ (cu x = 1 \/ x.cur = 0)))) := ae fun h h' => by unfold aW; rw [h, h', Bool.true_and, Bool.true_and]
 have HNO : Hid (∀ j, j < 16 -> (2 < sta x j \/ (x.m <= (j : Int) /\ sta x j ≠ 0)) -> aW x = false) := ae fun j => zF
 have HSTA := ae (fY (x := x));obtain ⟨h1, h2, h3⟩ := cP w x;have HR := ae h1;have HB := ae h2;have HZ := ae h3;clear h1 h2 h3;have HH : Hid (cu x = eR x.st.toList 16) := ae rfl;have HST : Hid (∀ j, sta x j = bt x.st.toList j) := ae fun _ => rfl
 go_enter func65, ntmps65;go_wp2_with (first | (refine au rfl (bc rfl rfl) ?_) | (refine au rfl (cv (c := x) rfl rfl ?_) ?_; (with_reducible exact HR.out.geo)) | fail);generalize w.alloc (.cells (aQ x).toArray 35) = w1 at *;refine (z8 x w1).mono ?_;rintro e w2 ⟨rfl, hb⟩;have HR2 := ae (HR.out.below HZ hb);have HB2 := ae (HB.out.trans (hb.mono (Nat.le_of_lt HZ)));clear hb HR HB HZ;cases hg : dM x
 ·have HF := ae (HGE.out hg);clear hg;go_wp2_with fail;go_ret;exact ⟨by rw [HF.out]; rfl, HB2⟩
 ·have HOK2 := ae (HOK.out hg);clear hg HOK HGE;have HM := ae HR2.out.cells.1;have HSS := ae HR2.out.cells.2.1;have HCU := ae HR2.out.cells.2.2.2.1;go_wp2_with fail
  go_loop [3, 4] (fun n i => ∃ j : Nat, j <= 16 /\ i = .int .i64 j /\ n = .int .i64 (eR x.st.toList j : Nat) /\ (∀ k, k < j -> sta x k <= 2) /\ (∀ k : Nat, k < j -> x.m <= (k : Int) -> sta x k = 0)) (fun _ i => 16 - (intOf i).toNat)
  case atStart => exact ⟨0, Nat.zero_le _, rfl, rfl, fun k hk => absurd hk (by omega), fun k hk => absurd hk (by omega)⟩
  case round =>
   obtain ⟨j, hj, rfl, rfl, ha1, ha2⟩ := hrel;have HA1 := ae ha1;have HA2 := ae ha2;clear ha1 ha2;by_cases hlt : j < 16
   ·have HC := ae (HR2.out.sta hlt);have HS := ae (gl x.st.toList j);have hle := kV x.st.toList j;generalize eR x.st.toList j = n at *;go_upto_region 7 with fail;refine bj 1 ?_;refine aa3 (ax rfl abd lX) ?_;refine aa3 (cY rfl abd abd (nt hlt)) ?_;refine aa3 (aF rfl abd (oy HC)) ?_;by_cases g2 : 2 < sta x j
    ·have HF := ae (HNO.out j hlt (.inl g2));have H17 : Hid (decide ((2 : Int) < sta x j) = true) := ae (am g2);clear g2;refine aa3 (dA true rfl abd evk H17) ?_;refine aN 12 rfl (aO rfl abd) (by kernel_rfl) ?_;simp only [bu, ac, aa];refine aK 1 ?_;go_wp2_with fail;go_ret;exact ⟨by rw [HF.out]; rfl, HB2⟩
    ·have H17 : Hid (decide ((2 : Int) < sta x j) = false) := ae (al g2);have HLE : Hid (sta x j <= 2) := ae (by omega);refine aa3 (dA false rfl abd evk H17) ?_;refine runs 2 ?_;refine aba (ax rfl abd qy) ?_;refine aba (ax rfl abd sq) ?_;refine aba (aF rfl abd (dw HM)) ?_;by_cases gm : x.m <= (j : Int)
     ·have H23 : Hid (decide (x.m <= (j : Int)) = true) := ae (am gm);refine aba (cl true rfl abd abd H23) ?_;refine runs 2 ?_;refine aba (ax rfl abd lX) ?_;refine aba (cY rfl abd abd (nt hlt)) ?_;refine aba (aF rfl abd (oy HC)) ?_;by_cases g0 : sta x j = 0
      ·have H29 : Hid ((sta x j != 0) = false) := ae (by rw [g0]; rfl);have HEQ := ae g0;clear g2 gm g0;refine aba (aT false rfl abd evk H29) ?_;refine aK 2 ?_;have cs := HC.out;rw [HEQ.out] at cs;go_wp2_with fail
       go_round
       case rel =>
        refine ⟨j + 1, by omega, by go_num, ?_, fun k hk => ?_, fun k hk hm => ?_⟩
        ·rw [HS.out, if_neg (by rw [<- HST.out, HEQ.out]; omega), Nat.add_zero]
        ·by_cases e : k = j
         ·rw [e]; exact HLE
         ·exact HA1.out k (by omega)
        ·by_cases e : k = j
         ·rw [e]; exact HEQ
         ·exact HA2.out k (by omega) hm
       case measure => simp [intOf]; omega
      ·have HF := ae (HNO.out j hlt (.inr ⟨gm, g0⟩));have H29 : Hid ((sta x j != 0) = true) := ae (by simpa using g0);clear g2 gm g0;refine aba (aT true rfl abd evk H29) ?_;refine aK 2 ?_;go_wp2_with fail;go_ret;exact ⟨by rw [HF.out]; rfl, HB2⟩
     ·have H23 : Hid (decide (x.m <= (j : Int)) = false) := ae (al gm);have HGM := ae gm;clear g2 gm;refine aba (cl false rfl abd abd H23) ?_;refine aN 5 aaY (aO rfl abd) (by kernel_rfl) ?_;simp only [bu, ac, aa];refine aK 2 ?_;have cs := HC.out;have HN1 : Hid (∀ k, k < j + 1 -> sta x k <= 2) := ae fun k hk => by
       by_cases e : k = j
       ·rw [e]; exact HLE
       ·exact HA1.out k (by omega)
      have HN2 : Hid (∀ k : Nat, k < j + 1 -> x.m <= (k : Int) -> sta x k = 0) := ae fun k hk hm => by
       by_cases e : k = j
       ·rw [e] at hm; exact absurd hm HGM
       ·exact HA2.out k (by omega) hm
      by_cases h2 : sta x j = 2
      ·have hd : (sta x j == 2) = true := by rw [h2]; rfl
       have HEQ := ae h2;clear h2;go_wp2_with fail
       go_round
       case rel => exact ⟨j + 1, by omega, by go_num, by rw [HS.out, if_pos (by rw [<- HST.out, HEQ.out])]; go_num, HN1, HN2⟩
       case measure => simp [intOf]; omega
      ·have hd : (sta x j == 2) = false := by simpa using h2
       have HEQ := ae h2;clear h2;go_wp2_with fail
       go_round
       case rel => exact ⟨j + 1, by omega, by go_num, by rw [HS.out, if_neg (by rw [<- HST.out]; exact HEQ.out), Nat.add_zero], HN1, HN2⟩
       case measure => simp [intOf]; omega
   ·have e : j = 16 := by omega
    subst e;have HF := ae (HOK2.out (HSTA.out.2 ⟨HA1, HA2⟩));rw [HH.out] at HF;have hle := kV x.st.toList 16;generalize eR x.st.toList 16 = n at *;clear HA1 HA2 HNO HSTA hlt hj HST HOK2;obtain ⟨c, hc⟩ : ∃ c, x.cur = c := ⟨_, rfl⟩;obtain ⟨s, hs⟩ : ∃ s, x.s = s := ⟨_, rfl⟩;rw [hc, hs] at HF;rw [hc] at HCU;rw [hs] at HSS;clear hc hs;go_upto_region 11 with fail;refine bj 1 ?_;by_cases q1 : n <= 1
    ·have H40 : Hid (decide ((n : Int) <= 1) = true) := ae (am (by omega));refine aa3 (fU true rfl abd evk H40) ?_;refine runs 1 ?_;refine aba (ax rfl abd xD) ?_;refine aba (aF rfl abd (dw HCU)) ?_;by_cases q2 : 0 <= c
     ·have H44 : Hid (decide ((0 : Int) <= c) = true) := ae (am q2);refine aba (cl true rfl abd evk H44) ?_;refine runs 2 ?_;refine aba (ax rfl abd xD) ?_;refine aba (aF rfl abd (dw HCU)) ?_;refine aba (ax rfl abd qy) ?_;refine aba (ax rfl abd yZ) ?_;refine aba (aF rfl abd (dw HSS)) ?_;by_cases q3 : c < s
      ·have H52 : Hid (decide (c < s) = true) := ae (am q3);refine aba (bF true rfl abd abd H52) ?_;refine runs 3 ?_;by_cases q4 : n = 1
       ·have H56 : Hid (((n : Int) == 1) = true) := ae (by rw [q4]; rfl);refine aba (aE true rfl abd evk H56) ?_;refine aN 3 aaY (aO rfl abd) (by kernel_rfl) ?_;simp only [bu, ac, aa];refine aK 3 ?_;go_wp2_with fail;go_ret;exact ⟨bh (by rw [HF.out]; rw [am q1, am (by omega)]; rfl), HB2⟩
       ·have H56 : Hid (((n : Int) == 1) = false) := ae (by simp; omega);refine aba (aE false rfl abd evk H56) ?_;refine runs 1 ?_;refine aba (ax rfl abd xD) ?_;refine aba (aF rfl abd (dw HCU)) ?_;by_cases q5 : c = 0
        ·have H60 : Hid ((c == 0) = true) := ae (by simpa using q5);refine aba (aE true rfl abd evk H60) ?_;refine aK 3 ?_;go_wp2_with fail;go_ret;exact ⟨bh (by rw [HF.out]; rw [am q1, am (by omega)]; rfl), HB2⟩
        ·have H60 : Hid ((c == 0) = false) := ae (by simpa using q5);refine aba (aE false rfl abd evk H60) ?_;refine aK 3 ?_;go_wp2_with fail;go_ret;exact ⟨bh (by rw [HF.out]; rw [am q1, al (by omega)]; rfl), HB2⟩
      ·have H52 : Hid (decide (c < s) = false) := ae (al q3);refine aba (bF false rfl abd abd H52) ?_;refine runs 1 ?_;refine aN 7 rfl (aO rfl abd) (by kernel_rfl) ?_;simp only [bu, ac, aa];refine aK 2 ?_;go_wp2_with fail;go_ret;exact ⟨bh (by rw [HF.out]; rw [am q1, al (by omega)]; rfl), HB2⟩
     ·have H44 : Hid (decide ((0 : Int) <= c) = false) := ae (al q2);refine aba (cl false rfl abd evk H44) ?_;refine runs 1 ?_;refine aN 6 rfl (aO rfl abd) (by kernel_rfl) ?_;simp only [bu, ac, aa];refine runs 1 ?_;refine aN 7 rfl (aO rfl abd) (by kernel_rfl) ?_;simp only [bu, ac, aa];refine aK 2 ?_;go_wp2_with fail;go_ret;exact ⟨bh (by rw [HF.out]; rw [am q1, al (by omega)]; rfl), HB2⟩
    ·have H40 : Hid (decide ((n : Int) <= 1) = false) := ae (al (by omega));refine aa3 (fU false rfl abd evk H40) ?_;refine aN 3 rfl (aO rfl abd) (by kernel_rfl) ?_;simp only [bu, ac, aa];refine runs 1 ?_;refine aN 6 rfl (aO rfl abd) (by kernel_rfl) ?_;simp only [bu, ac, aa];refine runs 1 ?_;refine aN 7 rfl (aO rfl abd) (by kernel_rfl) ?_;simp only [bu, ac, aa];refine aK 2 ?_;go_wp2_with fail;go_ret;exact ⟨bh (by rw [HF.out]; rw [al q1]; rfl), HB2⟩
theorem jh (s : Int) (w : World) (h1 : 1 <= s) (h2 : s <= 8) : Calls prog 144 #[.int .i64 s] w fun e w' => e = .returned (.bool true) /\ w = w' := by
 go_enter func144, ntmps144;go_wp2;go_ret;exact ⟨rfl, rfl⟩
theorem qQ {d : Nat} (h1 : 1 <= d) (h2 : d <= 8) : d = 1 \/ d = 2 \/ d = 3 \/ d = 4 \/ d = 5 \/ d = 6 \/ d = 7 \/ d = 8 := by omega
def bytesOf (m d : Nat) : Nat := (m * d + 7) / 8
theorem mF (m d : Nat) (w : World) (h1 : 1 <= d) (h2 : d <= 8) (hm : m <= 4611686018427387904) : Calls prog 145 #[.int .i64 m, .int .i64 d] w fun e w' => e = .returned (.int .i64 (bytesOf m d)) /\ w = w' := by
 rcases qQ h1 h2 with rfl | rfl | rfl | rfl | rfl | rfl | rfl | rfl
 all_goals
  clear h1 h2;go_enter func145, ntmps145;go_wp2;go_ret;exact ⟨bz (by unfold bytesOf; omega), rfl⟩
theorem mD (m d : Nat) (w : World) (h1 : 1 <= d) (h2 : d <= 8) (hm : m <= 4611686018427387904) : Calls prog 146 #[.int .i64 m, .int .i64 d] w fun e w' => e = .returned (.tuple #[.int .i64 (m * d / 8 : Nat), .int .i64 (m * d % 8 : Nat)]) /\ w = w' := by
 rcases qQ h1 h2 with rfl | rfl | rfl | rfl | rfl | rfl | rfl | rfl
 all_goals
  clear h1 h2;go_enter func146, ntmps146;go_wp2;go_ret2;exact ⟨oO (by omega) (by omega), rfl⟩
theorem kM (a d : Nat) (w : World) (ha : a <= 8) (h2 : d <= 8) (h : 8 < a + d) : Calls prog 147 #[.int .i64 a, .int .i64 d] w fun e w' => e = .returned (.bool true) /\ w = w' := by
 go_enter func147, ntmps147;go_wp2;go_ret;exact ⟨bh (by simp; omega), rfl⟩
theorem mG (a d : Nat) (w : World) (ha : a <= 8) (h2 : d <= 8) (h : ¬ 8 < a + d) : Calls prog 147 #[.int .i64 a, .int .i64 d] w fun e w' => e = .returned (.bool false) /\ w = w' := by
 go_enter func147, ntmps147;go_wp2;go_ret;exact ⟨bh (by simp; omega), rfl⟩
theorem fits_int (n c : Int) (w : World) (hn : 0 <= n) (h0 : 0 <= c) (h64 : c <= 64) : Calls prog 143 #[.int .u64 n, .int .i64 c] w fun e w' => e = .returned (.bool (pR n.toNat c.toNat)) /\ w = w' := by
 obtain ⟨m, rfl⟩ := Int.eq_ofNat_of_zero_le hn;rw [Int.toNat_natCast];exact oR m c w h0 h64
def narrow (d : Nat) (l : List UInt8) : Bool := l.all fun u => decide (u.toNat < 2 ^ d)
theorem fj {d : Nat} {l : List UInt8} (h : narrow d l = true) : ∀ u ∈ l, u.toNat < 2 ^ d := by
 intro u hu;have := List.all_eq_true.1 h u hu
 simpa using this
theorem vX {l : List UInt8} {d j : Nat} (hall : narrow d l = true) (hj : j < l.length) : pR (bt l j).toNat (d : Int).toNat = true := by
 unfold pR;rw [Int.toNat_natCast, decide_eq_true_eq, dE hj, Int.toNat_natCast];exact fj hall _ (List.getElem_mem hj)
theorem tQ {X ab : Nat} (hX : X < 256) (hab : ab <= 7) : IntKind.u16.wrap ((X : Int) * 2 ^ ab) = ((X * 2 ^ ab : Nat) : Int) := by
 have h2 : 2 ^ ab <= 2 ^ 7 := Nat.pow_le_pow_right (by omega) hab;have h3 : X * 2 ^ ab <= 255 * 2 ^ 7 := Nat.mul_le_mul (by omega) h2;have e : ((X : Int) * 2 ^ ab) = ((X * 2 ^ ab : Nat) : Int) := by push_cast; rfl
 rw [e];exact IntWalk.u16_in _ ⟨by omega, by omega⟩
theorem rP {x1 X ab : Nat} (h1 : x1 < 256) (hX : X < 256) (hab : ab <= 7) : bits .or .u8 (x1 : Int) (IntKind.u16.wrap ((X : Int) * 2 ^ ab) % 256) = ((x1 ||| (X * 2 ^ ab % 2 ^ 8) : Nat) : Int) := by
 rw [tQ hX hab];exact u8_or_nat x1 (X * 2 ^ ab % 256) h1 (Nat.mod_lt _ (by decide))
theorem xx {x2 X ab : Nat} (h1 : x2 < 256) (hX : X < 256) (hab : ab <= 7) : bits .or .u8 (x2 : Int) (IntKind.u16.wrap ((X : Int) * 2 ^ ab) / 256 % 256) = ((x2 ||| (X * 2 ^ ab / 2 ^ 8) : Nat) : Int) := by
 rw [tQ hX hab];have h2 : 2 ^ ab <= 2 ^ 7 := Nat.pow_le_pow_right (by omega) hab;have h3 : X * 2 ^ ab <= 255 * 2 ^ 7 := Nat.mul_le_mul (by omega) h2;have e : (((X * 2 ^ ab : Nat) : Int) / 256 % 256) = ((X * 2 ^ ab / 256 : Nat) : Int) := by omega
 rw [e];exact u8_or_nat x2 (X * 2 ^ ab / 256) h1 (by omega)
theorem vW {w : World} {g t q ab i d V X : Nat} {e : TypeId} (hrow : w.rowIs g e t (fun k => .int .u8 (dg V k : Nat))) (hV : V < 2 ^ (i * d)) (hX : X < 2 ^ d) (hd : d <= 8) (hq : i * d / 8 = q) (hab : i * d % 8 = ab) :
  ((w.setCell ⟨g, q, none⟩ (.int .u8 (bits .or .u8 (dg V q : Nat) (IntKind.u16.wrap ((X : Int) * 2 ^ ab) % 256)))).setCell ⟨g, q + 1, none⟩ (.int .u8 (bits .or .u8 (dg V (q + 1) : Nat) (IntKind.u16.wrap ((X : Int) * 2 ^ ab) / 256 % 256)))).rowIs g e t
   (fun k => .int .u8 (dg (V + 2 ^ (i * d) * X) k : Nat)) := by
 have hX8 : X < 256 := aq hX (Nat.pow_le_pow_right (by omega) hd);have h7 : ab <= 7 := by omega
 refine ((hrow.set q _).set (q + 1) _).congr fun k hk => ?_
 rw [rP (iL _ _) hX8 h7, xx (iL _ _) hX8 h7, wl hV hX hd hq hab]
 show (if k = q + 1 then _ else if k = q then _ else _) = _
 split
 ·rfl
 ·split <;> rfl
theorem qp {w : World} {g t q ab i d V X : Nat} {e : TypeId} (hrow : w.rowIs g e t (fun k => .int .u8 (dg V k : Nat))) (hV : V < 2 ^ (i * d)) (hX : X < 2 ^ d) (hd : d <= 8) (hs : ab + d <= 8) (hq : i * d / 8 = q) (hab : i * d % 8 = ab) :
  (w.setCell ⟨g, q, none⟩ (.int .u8 (bits .or .u8 (dg V q : Nat) (IntKind.u16.wrap ((X : Int) * 2 ^ ab) % 256)))).rowIs g e t
   (fun k => .int .u8 (dg (V + 2 ^ (i * d) * X) k : Nat)) := by
 have hX8 : X < 256 := aq hX (Nat.pow_le_pow_right (by omega) hd);refine (hrow.set q _).congr fun k hk => ?_
 rw [rP (iL _ _) hX8 (by omega), qf hV hX hs hq hab]
 show (if k = q then _ else _) = _
 split <;> rfl
theorem wR (A : Option Addr) (n c N d B : Nat) (l : List UInt8) (w : World) (HB : Hid (B = w.heap.size)) (hl : Rd w N A n l) (hN : N <= B) (hn : n <= 140737488351232) (h1 : 1 <= d) (h2 : d <= 8) (hall : narrow d l = true) :
  Calls prog 130 #[.slice A n c, .int .i64 d] w fun e w' => ∃ v, e = .returned (.tuple #[v, .int .i64 0]) /\ Own w' B v (aZ 8 (bytesOf n d) (val d l)) /\ Below B w w' := by
 have HA := ae hall;clear hall;have hBle : B <= w.heap.size := Nat.le_of_eq HB;have htot : bytesOf n d <= 140737488355328 := by unfold bytesOf; have := Nat.mul_le_mul_left n h2; omega
 have hmk := run_make_row' (P := prog) 116 5 (.int .u8 0) 1 underlying116 pO rfl .i64 .i64 (bytesOf n d) (by omega) (by omega);go_enter func130, ntmps130;go_wp2_with (first | (go_at_call 144; refine (jh _ _ (by omega) (by omega)).mono ?_; rintro e w' ⟨rfl, rfl⟩))
 go_loop [18] (fun i => ∃ j : Nat, j <= n /\ i = .int .i64 j) (fun i => n - (intOf i).toNat)
 case atStart => exact ⟨0, Nat.zero_le _, rfl⟩
 case round =>
  obtain ⟨j, hj, rfl⟩ := hrel;by_cases hlt : j < n
  ·obtain ⟨bA, oA, rfl, hA, cA⟩ := hl.2 j hlt;have hlo := iI l j;have hhi := jS l j;go_wp2_with fail;refine (fits_int _ _ _ hlo (by omega) (by omega)).mono ?_;rintro e w' ⟨rfl, rfl⟩;rw [vX HA.out (by have := hl.1; omega)];go_wp2
   go_round
   case rel => exact ⟨j + 1, by omega, by go_num⟩
   case measure => simp [intOf]; omega
  ·have e : j = n := by omega
   subst e;go_wp2_with fail;refine (mF _ _ _ h1 h2 (by omega)).mono ?_;rintro e w' ⟨rfl, rfl⟩;go_wp2;clear hmk;have hr0 := World.rowIs_made w (Value.int .u8 0) (bytesOf j d) 5;have hbl0 : Below B w (w.alloc (.cells (madeCells #[Value.int .u8 0] (bytesOf j d)) 5)) := aj.alloc hBle _;generalize w.heap.size = g at hr0 hBle ⊢
   go_loopw [35] (fun i wr => ∃ i' : Nat, i' <= j /\ i = .int .i64 i' /\ wr.rowIs g 5 (bytesOf j d) (fun k => .int .u8 (dg (val d (l.take i')) k : Nat)) /\ Below B w wr) (fun i _ => j - (intOf i).toNat)
   case atStart => exact ⟨0, Nat.zero_le _, rfl, hr0.congr fun k _ => by simp [val, dg], hbl0⟩
   case round =>
    clear hbl0 hr0;obtain ⟨i, hi, rfl, hrow, hbl⟩ := hrel;by_cases hlt : i < j
    ·go_wp2_with fail;refine (mD _ _ _ h1 h2 (by omega)).mono ?_;rintro e w' ⟨rfl, rfl⟩;have hab : i * d % 8 <= 7 := by omega
     have hq1 : i * d / 8 < bytesOf j d := by
      unfold bytesOf;have h3 : (i + 1) * d <= j * d := Nat.mul_le_mul_right d hlt;rw [Nat.succ_mul] at h3;omega
     have hq2 : 8 < i * d % 8 + d -> i * d / 8 + 1 < bytesOf j d := by
      unfold bytesOf;have h3 : (i + 1) * d <= j * d := Nat.mul_le_mul_right d hlt;rw [Nat.succ_mul] at h3;omega
     generalize hq : i * d / 8 = q at *;generalize ha : i * d % 8 = ab at *;have HQ := ae hq;have HAB := ae ha;clear hq ha;obtain ⟨bA, oA, rfl, hA, cA⟩ := (hl.below (hbl.mono hN)).2 i hlt;have hlo := iI l i;have hhi := jS l i;have hc1 := hrow.cell hq1;have hf1 := hrow.frozen q;have hf2 := hrow.frozen (q + 1);generalize hV : val d (l.take i) = V at *;have HV := ae hV;clear hV;have hd1 := iL V q;generalize hx : dg V q = x1 at *;have HX := ae hx;clear hx;by_cases hsp : 8 < ab + d
     ·have hq3 := hq2 hsp;have hc2 := hrow.cell hq3;have hd2 := iL V (q + 1);generalize hx : dg V (q + 1) = x2 at *;have HX2 := ae hx;clear hx hq2;go_wp2_with fail;refine (kM _ _ _ (by omega) h2 hsp).mono ?_;rintro e w' ⟨rfl, rfl⟩;go_wp2;go_roundw
      case rel =>
       refine ⟨i + 1, by omega, by go_num, ?_, (hbl.setCell hBle _).setCell hBle _⟩;have hl' : i < l.length := by have := hl.1; omega
       rw [iK hl', HV.out, <- HX.out, <- HX2.out, dE hl'];exact vW hrow (by rw [<- HV.out]; exact jR (fj HA.out) (by omega)) (fj HA.out _ (List.getElem_mem hl')) h2 HQ.out HAB.out
      case measure => simp [intOf]; omega
     ·clear hq2;go_wp2_with fail;refine (mG _ _ _ (by omega) h2 hsp).mono ?_;rintro e w' ⟨rfl, rfl⟩;go_wp2;go_roundw
      case rel =>
       refine ⟨i + 1, by omega, by go_num, ?_, hbl.setCell hBle _⟩;have hl' : i < l.length := by have := hl.1; omega
       rw [iK hl', HV.out, <- HX.out, dE hl'];exact qp hrow (by rw [<- HV.out]; exact jR (fj HA) (by omega)) (fj HA _ (List.getElem_mem hl')) h2 (by omega) HQ HAB
      case measure => simp [intOf]; omega
    ·have e : i = j := by omega
     subst e;go_wp2;go_ret2;refine ⟨_, rfl, Own.py (aD _ _ _) hBle hrow ai (by unfold maxLen; omega) ?_ ?_, hbl⟩
     ·intro k hk;have hk' : k < (aZ 8 (bytesOf i d) (val d l)).length := by rw [aD]; exact hk
      rw [dE hk', gp (by omega) hk', List.take_of_length_le (by have := hl.1; omega)]
      rfl
     ·intro k;have := iL (val d (l.take i)) k;omega
theorem qJ (b : List UInt8) (q : Nat) : (dg (val 8 b) q : Nat) = bt b q := by
 unfold dg bt;rw [me (mV b)]
theorem y7 {d : Nat} (h1 : 1 <= d) (h2 : d <= 8) : IntKind.u16.wrap (IntKind.u16.wrap (2 ^ d) - 1) = ((2 ^ d - 1 : Nat) : Int) := by
 rcases qQ h1 h2 with rfl | rfl | rfl | rfl | rfl | rfl | rfl | rfl <;> rfl
theorem ou {d y : Nat} (h1 : 1 <= d) (h2 : d <= 8) (hy : y < 65536) : bits .and .u16 (y : Int) (IntKind.u16.wrap (IntKind.u16.wrap (2 ^ d) - 1)) % 256 = ((y % 2 ^ d : Nat) : Int) := by
 have h3 : 2 ^ d <= 2 ^ 8 := Nat.pow_le_pow_right (by omega) h2;have h4 : y % 2 ^ d < 2 ^ d := Nat.mod_lt _ (Nat.pow_pos (by omega));rw [y7 h1 h2, u16_and_nat y _ hy (by omega), Nat.and_two_pow_sub_one_eq_mod];omega
theorem rE {d m V j : Nat} (h2 : d <= 8) (hj : j < m) : bt (aZ d m V) j = ((V / 2 ^ (j * d) % 2 ^ d : Nat) : Int) := by
 have hl : j < (aZ d m V).length := by rw [aD]; exact hj
 rw [dE hl, gp h2 hl, Nat.mul_comm d j]
theorem sa {b : List UInt8} {q ab d j m : Nat} (h1 : 1 <= d) (h2 : d <= 8) (hj : j < m) (hq : j * d / 8 = q) (hab : j * d % 8 = ab) :
  bits .and .u16 (bits .or .u16 (bt b q) (bt b (q + 1) * 256) / 2 ^ ab) (IntKind.u16.wrap (IntKind.u16.wrap (2 ^ d) - 1)) % 256 = bt (aZ d m (val 8 b)) j := by
 subst hq hab;rw [<- qJ, <- qJ];have l1 := iL (val 8 b) (j * d / 8);have l2 := iL (val 8 b) (j * d / 8 + 1);have e : ((dg (val 8 b) (j * d / 8 + 1) : Nat) : Int) * 256 = ((dg (val 8 b) (j * d / 8 + 1) * 256 : Nat) : Int) := by omega
 rw [e, u16_or_nat _ _ (by omega) (by omega), Nat.or_comm, nat_join 8 _ _ (Nat.mul_mod_left _ (2 ^ 8)) l1];have e2 : (((dg (val 8 b) (j * d / 8 + 1) * 256 + dg (val 8 b) (j * d / 8) : Nat) : Int) / 2 ^ (j * d % 8)) = (((dg (val 8 b) (j * d / 8) + 2 ^ 8 * dg (val 8 b) (j * d / 8 + 1)) / 2 ^ (j * d % 8) : Nat) : Int) := by
  have e3 : ((2 : Int) ^ (j * d % 8)) = ((2 ^ (j * d % 8) : Nat) : Int) := by push_cast; rfl
  rw [e3, show dg (val 8 b) (j * d / 8 + 1) * 256 + dg (val 8 b) (j * d / 8) = dg (val 8 b) (j * d / 8) + 2 ^ 8 * dg (val 8 b) (j * d / 8 + 1) from by omega]
  rfl
 have l3 : (dg (val 8 b) (j * d / 8) + 2 ^ 8 * dg (val 8 b) (j * d / 8 + 1)) / 2 ^ (j * d % 8) < 65536 := Nat.lt_of_le_of_lt (Nat.div_le_self _ _) (by omega);rw [e2, ou h1 h2 l3, pN h2, rE h2 hj]
theorem mN {b : List UInt8} {q ab d j m : Nat} (h1 : 1 <= d) (h2 : d <= 8) (hj : j < m) (hs : ab + d <= 8) (hq : j * d / 8 = q) (hab : j * d % 8 = ab) :
  bits .and .u16 (bt b q / 2 ^ ab) (IntKind.u16.wrap (IntKind.u16.wrap (2 ^ d) - 1)) % 256 = bt (aZ d m (val 8 b)) j := by
 subst hq hab;rw [<- qJ];have l1 := iL (val 8 b) (j * d / 8);have e2 : ((dg (val 8 b) (j * d / 8) : Nat) : Int) / 2 ^ (j * d % 8) = ((dg (val 8 b) (j * d / 8) / 2 ^ (j * d % 8) : Nat) : Int) := by
  have e3 : ((2 : Int) ^ (j * d % 8)) = ((2 ^ (j * d % 8) : Nat) : Int) := by push_cast; rfl
  rw [e3]
  rfl
 have l3 : dg (val 8 b) (j * d / 8) / 2 ^ (j * d % 8) < 65536 := Nat.lt_of_le_of_lt (Nat.div_le_self _ _) (by omega);rw [e2, ou h1 h2 l3, pK hs, rE h2 hj]
theorem sP (A : Option Addr) (n c N d m B : Nat) (b : List UInt8) (w : World) (HB : Hid (B = w.heap.size)) (hb : Rd w N A n b) (hN : N <= B) (hn : n <= 140737488355328) (h1 : 1 <= d) (h2 : d <= 8) (hm : m <= 1048576) (hs : bytesOf m d <= n) :
  Calls prog 138 #[.slice A n c, .int .i64 d, .int .i64 m] w fun e w' => ∃ v, e = .returned (.tuple #[v, .int .i64 0]) /\ Own w' B v (aZ d m (val 8 b)) /\ Below B w w' := by
 have hBle : B <= w.heap.size := Nat.le_of_eq HB;have hd30 : decide (n < bytesOf m d) = false := by simpa using hs
 have hd19 : decide ((m : Int) < 0) = false := by simp
 have hd23 : decide (1048576 < (m : Int)) = false := by simp; omega
 have hmk := run_make_row' (P := prog) 116 5 (.int .u8 0) 1 underlying116 pO rfl .i64 .i64 m (by omega) (by omega);go_enter func138, ntmps138;go_wp2_with (first | (go_at_call 144; refine (jh _ _ (by omega) (by omega)).mono ?_; rintro e w' ⟨rfl, rfl⟩));refine (mF _ _ _ h1 h2 (by omega)).mono ?_;rintro e w' ⟨rfl, rfl⟩;go_wp2;clear hmk;have hr0 := World.rowIs_made w (Value.int .u8 0) m 5;have hbl0 : Below B w (w.alloc (.cells (madeCells #[Value.int .u8 0] m) 5)) := aj.alloc hBle _;generalize w.heap.size = g at hr0 hBle ⊢
 go_loopw [37] (fun i wr => ∃ (j : Nat) (f : Nat -> Int), j <= m /\ i = .int .i64 j /\ wr.rowIs g 5 m (fun k => .int .u8 (f k)) /\ (∀ k, k < j -> f k = bt (aZ d m (val 8 b)) k) /\ (∀ k, 0 <= f k /\ f k <= 255) /\ Below B w wr) (fun i _ => m - (intOf i).toNat)
 case atStart => exact ⟨0, fun _ => 0, Nat.zero_le _, rfl, hr0, fun k hk => absurd hk (by omega), fun k => by simp, hbl0⟩
 case round =>
  clear hbl0 hr0;obtain ⟨j, f, hj, rfl, hrow, hf, hr, hbl⟩ := hrel;have HF := ae hf;have HR := ae hr;clear hf hr;by_cases hlt : j < m
  ·go_wp2_with fail;refine (mD _ _ _ h1 h2 (by omega)).mono ?_;rintro e w' ⟨rfl, rfl⟩;have hab : j * d % 8 <= 7 := by omega
   have hq1 : j * d / 8 < n := by
    unfold bytesOf at hs;have h3 : (j + 1) * d <= m * d := Nat.mul_le_mul_right d hlt;rw [Nat.succ_mul] at h3;omega
   have hq2 : 8 < j * d % 8 + d -> j * d / 8 + 1 < n := by
    unfold bytesOf at hs;have h3 : (j + 1) * d <= m * d := Nat.mul_le_mul_right d hlt;rw [Nat.succ_mul] at h3;omega
   generalize hq : j * d / 8 = q at *;generalize ha : j * d % 8 = ab at *;have HQ := ae hq;have HAB := ae ha;clear hq ha;obtain ⟨bA, oA, rfl, hA, cA⟩ := (hb.below (hbl.mono hN)).2 q hq1;have hlo := iI b q;have hhi := jS b q;have hc1 := hrow.cell hlt;have hf1 := hrow.frozen j;by_cases hsp : 8 < ab + d
   ·have hq3 := hq2 hsp;obtain ⟨bA', oA', hA2, _, cA2⟩ := (hb.below (hbl.mono hN)).2 (q + 1) hq3;injection hA2 with hA2;injection hA2 with hA3 hA4;subst hA3 hA4;have hlo2 := iI b (q + 1);have hhi2 := jS b (q + 1);go_wp2_with fail;refine (kM _ _ _ (by omega) h2 hsp).mono ?_;rintro e w' ⟨rfl, rfl⟩;go_wp2;go_roundw
    case rel =>
     rw [sa h1 h2 hlt HQ.out HAB.out];refine ⟨j + 1, upd f j (bt (aZ d m (val 8 b)) j), by omega, by go_num, rT hrow _, ?_, ?_, hbl.setCell hBle _⟩
     ·intro k hk;by_cases e : k = j
      ·subst e; exact ng _ _ _
      ·rw [kt _ _ e]; exact HF.out k (by omega)
     ·intro k;by_cases e : k = j
      ·subst e; rw [ng]; exact ⟨iI _ _, jS _ _⟩
      ·rw [kt _ _ e]; exact HR.out k
    case measure => simp [intOf]; omega
   ·clear hq2;go_wp2_with fail;refine (mG _ _ _ (by omega) h2 hsp).mono ?_;rintro e w' ⟨rfl, rfl⟩;go_wp2;go_roundw
    case rel =>
     rw [mN h1 h2 hlt (by omega) HQ.out HAB.out];refine ⟨j + 1, upd f j (bt (aZ d m (val 8 b)) j), by omega, by go_num, rT hrow _, ?_, ?_, hbl.setCell hBle _⟩
     ·intro k hk;by_cases e : k = j
      ·subst e; exact ng _ _ _
      ·rw [kt _ _ e]; exact HF.out k (by omega)
     ·intro k;by_cases e : k = j
      ·subst e; rw [ng]; exact ⟨iI _ _, jS _ _⟩
      ·rw [kt _ _ e]; exact HR.out k
    case measure => simp [intOf]; omega
  ·have e : j = m := by omega
   subst e;go_wp2;go_ret2;exact ⟨_, rfl, Own.py (aD _ _ _) hBle hrow ai (by unfold maxLen; omega) HF HR, hbl⟩
theorem fv {ρ : Operand -> Value} {o : Oper} {x y : Operand} {w : World} (g : Nat) (ho : o.op = .store 171 x y) (hx : ρ x = .pointer (some ⟨w.heap.size, 0, none⟩)) (hy : ρ y = .agg (eE g)) :
  (execOp ρ o).run prog (w.alloc (.cells #[.slice none 0 0, .slice none 0 0, .slice none 0 0, .slice none 0 0, .slice none 0 0] 171)) = .ok .skip (w.alloc (.cells (eE g) 171)) :=
 i1 (by kernel_rfl) rfl rfl ho hx hy
theorem qq (w w1 : World) (hb : Below ((w.alloc (.cells (cel aA).toArray 29)).alloc (.cells (cel aA).toArray 29)).heap.size ((w.alloc (.cells (cel aA).toArray 29)).alloc (.cells (cel aA).toArray 29)) w1) :
  lw w.heap.size w (w1.alloc (.cells (eE (w.heap.size + 1)) 171)) w.heap.size (w.heap.size + 1) w1.heap.size aA.toList := by
 have h1 := (Below.refl w.heap.size w).alloc ai (.cells (cel aA).toArray 29);have h2 := h1.alloc h1.size (.cells (cel aA).toArray 29);have hs := hb.size;simp only [World.size_alloc] at hs;have hr : cg w1 w.heap.size 29 aA.toList := cg.below ((cg.blk w aA 29).past _) (by simp only [World.size_alloc]; omega) hb;have hg : cg w1 (w.heap.size + 1) 29 aA.toList := cg.below (by have := cg.blk (w.alloc (.cells (cel aA).toArray 29)) aA 29; rwa [World.size_alloc] at this) (by simp only [World.size_alloc]; omega) hb;have hbel : Below w.heap.size w w1 := h2.trans (hb.mono (by simp only [World.size_alloc]; omega));exact ⟨hr.past _, hg.past _, heap_alloc_new w1 _, hbel.alloc (by omega) _, ai, by omega, by omega, by omega⟩
theorem wF (n m c N : Nat) (A : Option Addr) (b : List UInt8) (w : World) (T : Tab w) (hn : n < 18446744073709551616) (h0 : 0 < n) (hb : Rd w N A m b) (hN : N <= w.heap.size) (hm : m <= 44) :
  Calls prog 121 #[.int .u64 n, .slice A m c] w fun e w' => e = .returned (.tuple #[blk (eM n b), .int .i64 (eA n b : Nat)]) /\ Below w.heap.size w w' := by
 have hl := hb.1;have hbl : b.length <= 44 := by omega
 have hE : eA n b = 0 := mJ (by omega) hbl;have hB : eM n b = ofL (cF n b) := kD hE;rw [hE, hB];have HS := ae (pl (n := n) hbl);have HH := ae (qW (n := n) hbl);have HL := ae (fe (n := n) hbl);have HL64 := ae (gA n hbl);have HC := ae (ns (s := 0) (by omega) (dj n b));have HT := ae T;have HR := ae hb;have HB := ae hl;have HN := ae hn;have HNN := ae hN;clear hE hB T hb hl hbl hn hN;have hz : ((n : Int) == 0) = false := by simp; omega
 go_enter func121, ntmps121;go_wp2_with (first | (refine av rfl (bJ rfl) ?_) | fail);refine (i8 (w.heap.size + 1) _).mono ?_;rintro e w1 ⟨rfl, hb1⟩;have hW := qq w w1 hb1;have HBW := ae hb1.size;clear hb1;have HFP := HBW.out;obtain ⟨c0, c1, c2, c3, c4⟩ := hW.par.cells;obtain ⟨g, hg⟩ : ∃ g, w.heap.size + 1 = g := ⟨_, rfl⟩;rw [hg] at hW c0 c1 c2 c3 c4;rw [hg];have HGG := ae hg;clear HFP hg;have HW := ae hW;clear hW;go_wp2_with (first | (refine a9 rfl (fv g rfl rfl rfl) ?_) | fail);clear c0 c1 c2 c3 c4 HBW HGG;have HN8 := HN.out;refine (mZ g 0 8 n 29 aA.toList _ HW.out.row (by omega) (by omega) (by simp) (by simpa using HN8)).mono ?_;rintro e w2 ⟨rfl, hr2, hg2⟩;have HW2 := ae (HW.out.turn hr2 hg2 ai);clear hr2 hg2 HW;obtain ⟨c0, c1, c2, c3, c4⟩ := HW2.out.par.cells;generalize w1.heap.size = p at *;obtain ⟨r, hr⟩ : ∃ r, r = w.heap.size := ⟨_, rfl⟩;have HRR := ae hr;rw [<- hr] at HNN HW2 ⊢;clear hr;clear HN8;go_wp2_with fail;clear c0 c1 c2 c3 c4;have HN8 := HN.out;refine (mZ g 56 8 n 29 _ _ HW2.out.row (by omega) (by omega) (by rw [ku]; omega) (by simpa using HN8)).mono ?_;rintro e w3 ⟨rfl, hr3, hg3⟩;have HW3 := ae (HW2.out.turn hr3 hg3 (Nat.le_of_eq HRR));clear hr3 hg3 HW2 HN8;obtain ⟨c0, c1, c2, c3, c4⟩ := HW3.out.par.cells;have HR3 := ae (HR.out.below (HW3.out.bel.mono HNN));have HL2 := ae (kE n);obtain ⟨l2, hl2⟩ : ∃ l2, splice (splice aA.toList 0 (aZ 8 8 n)) 56 (aZ 8 8 n) = l2 := ⟨_, rfl⟩;have HNS : Hid (splice l2 8 b = jg n b) := ae (by rw [<- hl2]; rfl);rw [hl2] at HW3 HL2;clear hl2;go_wp2_with (with_reducible refine dI rfl _ _ rfl g 8 44 44 m c N A 29 l2 b rfl rfl HW3.out.row HR3.out hm ?c1 ?_)
 case c1 => rw [HL2.out]; omega
 intro w4 hr4 hg4;rw [HNS.out] at hr4;have HW4 := ae (HW3.out.turn hr4 hg4 (Nat.le_of_eq HRR));clear hr4 hg4 HW3 HR3 HL2 c0 c1 c2 c3 c4;go_wp2_with fail;refine wp_region_held (S := fun w' => Hid (lw r w w' r g p (jg n b) \/ lw r w w' r g p (cF n b))) (by kernel_rfl) ?_;change wpAnyH _ _ _ _ _ 7 _ _ w4.drew;have hS : Hid (lw r w w4.drew r g p (jg n b) \/ lw r w w4.drew r g p (cF n b)) := ae (.inl HW4.out.draw);refine aa6 0 rfl (fun _ hw => ax rfl abd yI) hS ?_;refine aa6 1 rfl (fun _ hw => aF rfl abd (ldS (hw.out.elim (fun h => h.par.cells.2.2.1) (fun h => h.par.cells.2.2.1)))) hS ?_;refine aa6 2 rfl (fun _ hw => ax rfl abd y5) hS ?_;refine aa6 3 rfl (fun _ hw => aF rfl abd (ldS (hw.out.elim (fun h => h.par.cells.2.2.2.2) (fun h => h.par.cells.2.2.2.2)))) hS ?_;refine fO 4 rfl (by kernel_rfl) rfl (aB call133 rfl (evc abd evn)) ?_;have T4 : Tab w4.drew := (HT.out.below (by rw [<- HRR.out]; exact HW4.out.draw.bel));have R4 := HW4.out.draw.row.rd (p := 0) (k := 52) (by rw [HL.out]; omega);rw [HH.out] at R4;refine (t8 _ 52 52 _ (dj n b) _ T4 R4 (by unfold maxLen; omega)).mono ?_;rintro e w' ⟨rfl, rfl⟩;refine ⟨_, rfl, hS, ?_⟩;simp only [aa];clear T4 R4;refine aa6 5 rfl (fun _ hw => jO rfl abd HC) hS ?_;refine fO 6 rfl (by kernel_rfl) rfl (aB call132 rfl (evc abd (evc abd evn))) ?_;refine (mZ g 52 4 (more 0 (dj n b)) 29 _ _ HW4.out.draw.row (by omega) (by omega) (by rw [HL.out]; omega) (by have := HC.out; simpa using this)).mono ?_;rintro e w5 ⟨rfl, hr5, hg5⟩;rw [HS.out] at hr5;have HW5 := ae (HW4.out.draw.turn hr5 hg5 (Nat.le_of_eq HRR));refine ⟨_, rfl, ae (.inr HW5), ?_⟩;simp only [aa];clear hr5 hg5 hS HW4;refine wpAnyH_done (by kernel_rfl) ?_ _;have HG := ae (HW5.out.row.range HL64);have HTH : Hid (w5.there r 0 64) := ae (sQ HW5.out.res.row (by simp));have HBB : Hid (Below w.heap.size w w5) := ae (by rw [<- HRR.out]; exact HW5.out.bel);go_wp2_with (first | (refine av rfl (bm rfl rfl HG.out) ?_) | (refine a9 rfl (bv rfl rfl rfl HTH.out) ?_) | fail);refine bodyPost_ret (cE rfl _ _ _ rfl (World.rangeAt_setCells_same _ _ _ _ (by rw [aI]; exact HTH))) rfl ⟨rfl, below_setCells HBB (Nat.le_of_eq HRR.out.symm) _⟩
theorem xc (n m c N : Nat) (A : Option Addr) (b : List UInt8) (w : World) (T : Tab w) (hn : n < 18446744073709551616) (hb : Rd w N A m b) (hN : N <= w.heap.size) (hm : m <= maxLen) :
  Calls prog 121 #[.int .u64 n, .slice A m c] w fun e w' => e = .returned (.tuple #[blk (eM n b), .int .i64 (eA n b : Nat)]) /\ Below w.heap.size w w' := by
 by_cases h0 : n = 0
 ·subst h0;exact xo m c A b w hb.1
 ·by_cases h44 : m <= 44
  ·exact wF n m c N A b w T hn (by omega) hb hN h44
  ·exact vA n m c A b w hb.1 (by omega) (by omega) hm
def iC (p q : Nat) : Value := .func (.func 141) #[] #[.pointer (some ⟨p, 0, none⟩), .pointer (some ⟨q, 0, none⟩)]
def ie (w : World) (p q : Nat) (S : Value) (k : Nat) : Prop := w.heap[p]? = some (.cells #[.int .i64 (k : Int)] 3 (0, 0)) /\ w.heap[q]? = some (.cells #[S] 116 (0, 0))
theorem lF (S : Value) (A : Option Addr) (n c : Nat) (hS : S = .slice A n c) (w : World) : Calls prog 127 #[S] w fun e w' => ∃ p q, e = .returned (iC p q) /\ ie w' p q S 0 /\ w.heap.size <= p /\ w.heap.size <= q /\ p ≠ q /\ p < w'.heap.size /\ q < w'.heap.size /\ Below w.heap.size w w' := by
 subst hS;have hmf : ∀ (fn : Fn) (first cap : Array Value) (w : World), (Instr.makeFunc fn first cap).run prog w = .ok (.func fn first cap) w := fun _ _ _ _ => rfl
 go_enter func127, ntmps127;go_wp2;go_ret;have e1 := World.size_alloc (w := w) (o := Obj.cells #[Value.slice A n c] 116);refine ⟨w.heap.size + 1, w.heap.size, rfl, ⟨?_, ?_⟩, by omega, by omega, by omega, ?_, ?_, ?_⟩
 ·have := heap_alloc_new (w.alloc (.cells #[.slice A n c] 116)) (.cells #[.int .i64 0] 3);rwa [e1] at this
 ·exact bq (heap_alloc_new w _) _
 ·simp only [World.size_alloc]; omega
 ·simp only [World.size_alloc]; omega
 ·exact ((Below.refl _ w).alloc ai _).alloc (by simp only [World.size_alloc]; omega) _
theorem yJ (g off n c : Nat) (w : World) {i j : Nat} (h1 : i < j) (h2 : j <= n) (h3 : n <= c) : (Instr.sliceAt 116 (.slice (some ⟨g, off, none⟩) n c) (some (.int .i64 (i : Int))) (some (.int .i64 (j : Int))) (some (.int .i64 (j : Int)))).run prog w = .ok (.slice (some ⟨g, off + i, none⟩) (j - i) (j - i)) w := by
 have e1 : (0 <= (j : Int) /\ (j : Int) <= (c : Int)) := by omega
 have e2 : (0 <= (j : Int) /\ (j : Int) <= (j : Int)) := by omega
 have e3 : (0 <= (i : Int) /\ (i : Int) <= (j : Int)) := by omega
 have e4 : j ≠ i := by omega
 have e5 : i <= j := by omega
 have e6 : j <= c := by omega
 simp [Instr.sliceAt, Instr.slice, Instr.sliceBounds, Instr.sliceBound, Instr.sureAddr, asIntOf, run_underlying underlying116, Tryz.sizeOf5, Addr.add_mid, e1, e2, e3, e4, e5, e6]
theorem wU (p q g off n c k s : Nat) (w : World) (h : ie w p q (.slice (some ⟨g, off, none⟩) n c) k) (hpq : p ≠ q) (hs : 0 < s) (hk : k + s <= n) (hc : n <= c) (hn : n <= 1000000) :
  Calls prog 141 #[.int .i64 (s : Int), .pointer (some ⟨p, 0, none⟩), .pointer (some ⟨q, 0, none⟩)] w fun e w' => e = .returned (.slice (some ⟨g, off + k, none⟩) s s) /\ ie w' p q (.slice (some ⟨g, off, none⟩) n c) (k + s) /\ w.grownBy w' (some p) := by
 obtain ⟨h1, h2⟩ := h;obtain ⟨a1, a2⟩ := cell1 h1;obtain ⟨b1, b2⟩ := cell1 h2;have s1 := set1 h1 (.int .i64 ((k : Int) + s));have s2 : (w.setCell ⟨p, 0, none⟩ (.int .i64 ((k : Int) + s))).heap[q]? = some (.cells #[.slice (some ⟨g, off, none⟩) n c] 116 (0, 0)) := (heap_setCell_other w ⟨p, 0, none⟩ q _ (fun e => hpq e.symm)).trans h2;have d1 := (cell1 s1).1;have d2 := (cell1 s2).1;have hg := mB w p 0 (.int .i64 ((k : Int) + s));have S1 := ae s1;have S2 := ae s2;have HG := ae hg;have HCUT : Hid (∀ w : World, (Instr.sliceAt 116 (.slice (some ⟨g, off, none⟩) n c) (some (.int .i64 (k : Int))) (some (.int .i64 ((k : Int) + (s : Int)))) (some (.int .i64 ((k : Int) + (s : Int))))).run prog w = .ok (.slice (some ⟨g, off + k, none⟩) s s) w) := ae fun w => by
  have := yJ g off n c w (i := k) (j := k + s) (by omega) hk hc;rw [show k + s - k = s from by omega] at this;exact this
 clear h1 h2 s1 s2 hg b1 b2;go_enter func141, ntmps141;go_wp2_with (first | (refine au rfl (fg rfl rfl rfl rfl rfl (HCUT.out _)) ?_) | fail);go_ret;exact ⟨rfl, ⟨S1, S2⟩, HG⟩
structure mW (B : Nat) (w0 w : World) (x : Sup) (sb rb r nb p q g : Nat) (a : List UInt8) : Prop where
 sup : bU w sb x
 ros : bw w rb x.ros
 res : cg w r 162 z44
 nxt : w.heap[nb]? = some (.cells #[iC p q] 167 (0, 0))
 cut : ie w p q (.slice (some ⟨g, 0, none⟩) 44 44) a.length
 row : cg w g 162 (dh a)
 bel : Below B w0 w
 p0 : B <= p
 g0 : B <= g
 dif : sb ≠ p /\ sb ≠ g /\ rb ≠ p /\ rb ≠ g /\ r ≠ p /\ r ≠ g /\ nb ≠ p /\ nb ≠ g /\ p ≠ q /\ p ≠ g /\ q ≠ g
section
variable {B : Nat} {w0 w w' : World} {x : Sup} {sb rb r nb p q g : Nat} {a b : List UInt8}
theorem mW.keep (h : mW B w0 w x sb rb r nb p q g a) (hb : Below w.heap.size w w') (hB : B <= w0.heap.size) : mW B w0 w' x sb rb r nb p q g a :=
 ⟨aC h.sup hb, aC h.ros hb, aC h.res hb, aC h.nxt hb, ⟨aC h.cut.1 hb, aC h.cut.2 hb⟩, aC h.row hb, h.bel.trans (hb.mono (ap hB h.bel.size)), h.p0, h.g0, h.dif⟩
theorem mW.zX (h : mW B w0 w x sb rb r nb p q g a) (hc : ie w' p q (.slice (some ⟨g, 0, none⟩) 44 44) b.length) (hr : cg w' g 162 (dh b)) (hg : ∃ w1, w.grownBy w1 (some p) /\ w1.grownBy w' (some g)) (hB : B <= w0.heap.size) : mW B w0 w' x sb rb r nb p q g b := by
 obtain ⟨w1, k1, k2⟩ := hg;obtain ⟨d1, d2, d3, d4, d5, d6, d7, d8, d9, d10, d11⟩ := h.dif;have hb1 : Below B w0 w1 := h.bel.grown k1 (ap hB h.bel.size) (fun k hk => by injection hk with e; have := h.p0; omega);have hb2 : Below B w0 w' := hb1.grown k2 (ap hB hb1.size) (fun k hk => by injection hk with e; have := h.g0; omega);exact ⟨bQ (bQ h.sup k1 d1) k2 d2, bQ (bQ h.ros k1 d3) k2 d4, bQ (bQ h.res k1 d5) k2 d6, bQ (bQ h.nxt k1 d7) k2 d8, hc, hr, hb2, h.p0, h.g0, h.dif⟩
end
theorem Made.yd {w w' : World} {B : Nat} {v : Value} {l : List UInt8} {row : Option Nat} (h : Made w B v l) (hg : w.grownBy w' row) (hne : ∀ k, row = Option.some k -> k < B) : Made w' B v l := by
 refine ⟨h.1, ?_⟩;rcases h.2 with hn | ⟨g, cap, cur, rfl, hbg, hgg, rest⟩
 ·exact .inl hn
 ·refine .inr ⟨g, cap, cur, rfl, hbg, ?_, rest⟩;rw [hg.block g (Array.getElem?_eq_some_iff.1 hgg).1 (fun e => by have := hne g e.symm; omega)];exact hgg
theorem pX (B : Nat) (w0 w : World) (x : Sup) (sb rb r nb p q g : Nat) (a : List UInt8) (n k : Nat) (h : mW B w0 w x sb rb r nb p q g a) (hB : B <= w0.heap.size) (h1 : 1 <= k) (h2 : k <= 8) (hk : a.length + k <= 44) (hn : n < 256 ^ k) :
  Calls prog 128 #[.int .u64 n, .int .i64 k, .pointer (some ⟨nb, 0, none⟩)] w fun e w' => e = .returned (.tuple #[]) /\ mW B w0 w' x sb rb r nb p q g (a ++ aZ 8 k n) := by
 have HH := ae h;have HL := ae (aD 8 k n);have HSP := ae (lz (a := a) (x := aZ 8 k n) (by rw [aD]; exact hk));have HPL := ae (dB (b := a) (by omega));have HPP := ae (aX h.cut.1);clear h;go_enter func128, ntmps128;go_wp2_with fail;refine (t7 n k w h1 h2 hn).mono ?_;rintro e w1 ⟨v, rfl, hv, hb⟩;have hvm := hv.made;obtain ⟨A, c, rfl, _, _, _⟩ := hvm.open_ HL;have HV := ae hvm;have H1 := ae (HH.out.keep hb hB);have c0 := (cell1 H1.out.nxt).1;unfold iC at c0;clear hv hvm hb HH;go_wp2_with fail;refine (wU p q g 0 44 44 a.length k w1 H1.out.cut H1.out.dif.2.2.2.2.2.2.2.2.1 h1 hk ai (by omega)).mono ?_;rintro e w2 ⟨rfl, hc2, hg2⟩;clear c0;have HC2 := ae hc2;have HG2 := ae hg2;have HROW2 : Hid (cg w2 g 162 (dh a)) := ae (bQ H1.out.row hg2 (fun e => H1.out.dif.2.2.2.2.2.2.2.2.2.1 e.symm));have HRD2 : Hid (Rd w2 w2.heap.size A k (aZ 8 k n)) := ae (by
  have := (HV.out.yd hg2 (fun j hj => by injection hj with e; have := HPP.out; omega)).rd;exact this)
 clear hc2 hg2;go_wp2_with (first | (refine dI rfl _ _ rfl g a.length k k k c _ A 162 (dh a) (aZ 8 k n) rfl rfl HROW2 HRD2 ai ?_ ?_) | fail)
 ·rw [HPL.out]; omega
 intro w3 hr3 hg3;rw [HSP.out] at hr3;have hdf := H1.out.dif;have hc3 : ie w3 p q (.slice (some ⟨g, 0, none⟩) 44 44) (a ++ aZ 8 k n).length := by
  rw [List.length_append, HL.out];exact ⟨bQ HC2.out.1 hg3 hdf.2.2.2.2.2.2.2.2.2.1, bQ HC2.out.2 hg3 hdf.2.2.2.2.2.2.2.2.2.2⟩
 have H3 := ae (H1.out.zX hc3 hr3 ⟨w2, HG2, hg3⟩ hB);clear hr3 hg3 hdf hc3;go_wp2_with fail
 go_end0
 exact ⟨rfl, H3⟩
section
variable {ρ : Operand -> Value} {o : Oper} {x z : Operand} {w : World} {g off : Nat}
theorem lq (ho : o.op = .slice 162 x none none none) (hx : ρ x = .pointer (some ⟨g, off, none⟩)) : (execOp ρ o).run prog w = .ok (.value (.slice (some ⟨g, off, none⟩) 44 44)) w := by
 have h : (Instr.sliceAt 162 (.pointer (some ⟨g, off, none⟩)) none none none).run prog w = .ok (.slice (some ⟨g, off, none⟩) 44 44) w := by
  simp [Instr.sliceAt, Instr.sliceBounds, Instr.sliceBound, Instr.sureAddr, asIntOf, run_underlying underlying162, Tryz.sizeOf5, Addr.add_mid]
 unfold execOp;simp only [ho, hx, Option.map_none, Sem.run_bind, h, Result.andThen_ok, Sem.run_pure]
end
theorem bw.aaV {w : World} {b : Nat} {x : Ros} (h : bw w b x) : Rd w w.heap.size (some ⟨b, 3, none⟩) 16 x.st.toList := by
 have := h.rd (m := 16) ai;rwa [List.take_of_length_le (by simp)] at this
theorem qL {w w1 w2 : World} {x : Sup} {p q : Nat} (HS : bU w1 w.heap.size x) (HB : Below w.heap.size w w1) (HRES : cg w1 (w.heap.size + 1) 162 z44) (HROW : cg w1 (w.heap.size + 1 + 1) 162 z44)
  (hb : Below w1.heap.size w1 w2) (hc : ie w2 p q (.slice (some ⟨w.heap.size + 1 + 1, 0, none⟩) 44 44) 0) (hd : w1.heap.size <= p /\ w1.heap.size <= q /\ p ≠ q /\ p < w2.heap.size /\ q < w2.heap.size) :
  mW w.heap.size w ((w2.alloc (.cells #[iC p q] 167)).alloc (.cells (aQ x.ros).toArray 35)) x w.heap.size (w2.heap.size + 1) (w.heap.size + 1) w2.heap.size p q (w.heap.size + 1 + 1) [] := by
 have e1 := World.size_alloc (w := w2) (o := Obj.cells #[iC p q] 167);have h2 := aX HROW;have h3 := hb.size;have hro := bw.new (w2.alloc (.cells #[iC p q] 167)) x.ros;rw [e1] at hro;have hb2 : Below w.heap.size w w2 := HB.trans (hb.mono HB.size);refine ⟨((HS.below (aX HS) hb).past _).past _, hro, bq (bq (aC HRES hb) _) _, bq (heap_alloc_new w2 _) _, ⟨bq (bq hc.1 _) _, bq (bq hc.2 _) _⟩, bq (bq (aC HROW hb) _) _, (hb2.alloc (by omega) _).alloc (by rw [e1]; omega) _, ?_, ?_, ?_⟩
 ·omega
 ·omega
 ·refine ⟨?_, ?_, ?_, ?_, ?_, ?_, ?_, ?_, ?_, ?_, ?_⟩ <;> omega
theorem sr {a : List UInt8} (h : a.length < 44) : dh (a ++ aZ 8 1 0) = dh a := by
 unfold dh;have e : aZ 8 1 0 = [0] := by decide
 rw [e, List.append_assoc, List.length_append, List.length_singleton]
 congr 1
 rw [show 44 - a.length = (44 - (a.length + 1)) + 1 from by omega, List.replicate_succ]
 rfl
theorem vr {x : Sup} (h : x.ros.gone = true) : dh (aZ 8 8 x.id ++ aZ 8 1 x.ros.m.toNat ++ aZ 8 2 x.ros.s.toNat ++ aZ 8 2 x.ros.r.toNat ++ aZ 8 1 x.self.toNat ++ aZ 8 4 (val 2 x.ros.st.toList) ++ aZ 8 2 x.ros.cur.toNat ++ aZ 8 1 1) = bZ x := by
 unfold bZ dD kZ;rw [h];simp only [List.append_assoc, if_true]
theorem xB {x : Sup} (h : x.ros.gone = false) : dh (aZ 8 8 x.id ++ aZ 8 1 x.ros.m.toNat ++ aZ 8 2 x.ros.s.toNat ++ aZ 8 2 x.ros.r.toNat ++ aZ 8 1 x.self.toNat ++ aZ 8 4 (val 2 x.ros.st.toList) ++ aZ 8 2 x.ros.cur.toNat) = bZ x := by
 rw [<- sr (by simp [aD])];unfold bZ dD kZ;rw [h];simp only [List.append_assoc, Bool.false_eq_true, if_false]
theorem vO (x : Sup) (w : World) (hid : x.id < 18446744073709551616) (hx : ef x = true) : Calls prog 120 #[sup x] w fun e w' => e = .returned (arr (bZ x)) /\ Below w.heap.size w w' := by
 obtain ⟨_, hf, q1, q2⟩ := kj hx;obtain ⟨hgeo, hsta, _, q3, q4, _⟩ := dQ hf;obtain ⟨g1, g2, g3, g4, g5, g6⟩ := fa hgeo;have HNAR : Hid (narrow 2 x.ros.st.toList = true) := ae (by
  unfold narrow;rw [List.all_eq_true];intro u hu
  simpa using lC hsta u hu)
 have HSMALL := ae (rt hsta);obtain ⟨M, hM⟩ : ∃ M : Nat, x.ros.m.toNat = M := ⟨_, rfl⟩;obtain ⟨T, hT⟩ : ∃ T : Nat, x.ros.s.toNat = T := ⟨_, rfl⟩;obtain ⟨R, hR⟩ : ∃ R : Nat, x.ros.r.toNat = R := ⟨_, rfl⟩;obtain ⟨E, hE⟩ : ∃ E : Nat, x.self.toNat = E := ⟨_, rfl⟩;obtain ⟨C, hC⟩ : ∃ C : Nat, x.ros.cur.toNat = C := ⟨_, rfl⟩;have HCR : Hid (∀ w' rb, bw w' rb x.ros -> w'.cell? ⟨rb, 0, none⟩ = some (.int .i64 (M : Nat)) /\ w'.cell? ⟨rb, 1, none⟩ = some (.int .i64 (T : Nat)) /\ w'.cell? ⟨rb, 2, none⟩ = some (.int .i64 (R : Nat)) /\ w'.cell? ⟨rb, 19, none⟩ = some (.int .i64 (C : Nat)) /\ w'.cell? ⟨rb, 20, none⟩ = some (.bool x.ros.gone)) := ae fun w' rb h => by
  have := h.cells;rw [show x.ros.m = (M : Int) from by omega, show x.ros.s = (T : Int) from by omega, show x.ros.r = (R : Int) from by omega, show x.ros.cur = (C : Int) from by omega] at this;exact this
 have HCS : Hid (∀ w' sb, bU w' sb x -> w'.cell? ⟨sb, 0, none⟩ = some (.int .u64 x.id) /\ w'.cell? ⟨sb, 1, none⟩ = some (.int .i64 (E : Nat))) := ae fun w' sb h => by
  have := h.cells;rw [show x.self = (E : Int) from by omega] at this;exact ⟨this.1, this.2.1⟩
 have hM16 : M <= 16 := by omega
 have hT64 : T <= 64 := by omega
 have hR256 : R <= 256 := by omega
 have hE16 : E <= 16 := by omega
 have hC64 : C <= 64 := by omega
 have HYES := fun h => ae (vr (x := x) h)
 have HNO := fun h => ae (xB (x := x) h)
 rw [hM, hT, hR, hE, hC] at HYES HNO;clear hf q1 q2 hgeo hsta q3 q4 g1 g2 g3 g4 g5 g6 hM hT hR hE hC hx;have hmf : ∀ (fn : Fn) (first cap : Array Value) (w : World), (Instr.makeFunc fn first cap).run prog w = .ok (.func fn first cap) w := fun _ _ _ _ => rfl
 obtain ⟨h1, h2, h3⟩ := lJ w x;have HS := ae ((h1.past (.cells (vals z44).toArray 162)).past (.cells (vals z44).toArray 162));have hb2 := h2.alloc h2.size (.cells (vals z44).toArray 162);have HB := ae (hb2.alloc hb2.size (.cells (vals z44).toArray 162));have hr := cg.new (w.alloc (.cells (aS x).toArray 37)) z44 162;rw [World.size_alloc] at hr;have HRES := ae (hr.past (.cells (vals z44).toArray 162));have hg := cg.new ((w.alloc (.cells (aS x).toArray 37)).alloc (.cells (vals z44).toArray 162)) z44 162;rw [World.size_alloc, World.size_alloc] at hg;have HROW := ae hg;clear h1 h2 h3 hb2 hr hg;go_enter func120, ntmps120;go_wp2_with (first | (refine au rfl (fX rfl rfl) ?_) | (refine au rfl (i6 rfl) ?_) | (refine au rfl (lq rfl rfl) ?_) | fail)
 try simp only [World.size_alloc]
 generalize ((w.alloc (.cells (aS x).toArray 37)).alloc (.cells (vals z44).toArray 162)).alloc (.cells (vals z44).toArray 162) = w1 at *;refine (lF (.slice (some ⟨w.heap.size + 1 + 1, 0, none⟩) 44 44) _ 44 44 rfl w1).mono ?_;rintro e w2 ⟨p, q, rfl, hc, hp0, hq0, hpq, hp1, hq1, hb⟩;have hsz : w.heap.size + 1 + 1 < w2.heap.size := by have := aX HROW; have := hb.size; omega
 have HS2 := ae ((HS.out.below (aX HS) hb).past (.cells #[iC p q] 167));have HW0 := ae (qL HS HB HRES HROW hb hc ⟨hp0, hq0, hpq, hp1, hq1⟩);have HR0 : Hid (w.heap.size <= w.heap.size + 1) := ae (Nat.le_succ _);clear hb hc hp0 hq0 hpq hp1 hq1 HS HB HRES HROW;unfold iC at HS2 HW0 ⊢;go_upto_region 5 with (first | (refine au rfl (bn (c := x.ros) rfl rfl ?_) ?_; (with_reducible exact HS2.out.mM)) | (refine au rfl (cr rfl) ?_) | (refine az rfl (lL rfl rfl rfl) ?_) | fail)
 try simp only [World.size_alloc]
 generalize ((w2.alloc (.cells #[Value.func (.func 141) #[] #[.pointer (some ⟨p, 0, none⟩), .pointer (some ⟨q, 0, none⟩)]] 167)).alloc (.cells (aQ x.ros).toArray 35)) = w3 at *
 try simp only [World.size_alloc]
 generalize w2.heap.size = nb at *;generalize w.heap.size + 1 + 1 = g at *;generalize w.heap.size + 1 = r at *;obtain ⟨B, hBdef⟩ : ∃ B, w.heap.size = B := ⟨_, rfl⟩;have HBD := ae hBdef;rw [hBdef] at HW0 HR0 ⊢;clear hBdef HS2 hsz;obtain ⟨c0, c1⟩ := HCS.out _ _ HW0.out.sup;obtain ⟨d0, d1, d2, d3, d4⟩ := HCR.out _ _ HW0.out.ros;go_wp2_with fail;refine (pX B w w3 x B (nb + 1) r nb p q g _ x.id 8 HW0 (Nat.le_of_eq HBD.out.symm) (by omega) (by omega) (by simp [aD]) (by simpa using hid)).mono ?_;rintro e w4 ⟨rfl, hW⟩;have HW1 := ae hW;clear hW c0 c1 d0 d1 d2 d3 d4 HW0;obtain ⟨c0, c1⟩ := HCS.out _ _ HW1.out.sup;obtain ⟨d0, d1, d2, d3, d4⟩ := HCR.out _ _ HW1.out.ros;go_wp2_with fail;refine (pX B w w4 x B (nb + 1) r nb p q g _ M 1 HW1 (Nat.le_of_eq HBD.out.symm) (by omega) (by omega) (by simp [aD]) (by omega)).mono ?_;rintro e w5 ⟨rfl, hW⟩;have HW2 := ae hW;clear hW c0 c1 d0 d1 d2 d3 d4 HW1;obtain ⟨c0, c1⟩ := HCS.out _ _ HW2.out.sup;obtain ⟨d0, d1, d2, d3, d4⟩ := HCR.out _ _ HW2.out.ros;go_wp2_with fail;refine (pX B w w5 x B (nb + 1) r nb p q g _ T 2 HW2 (Nat.le_of_eq HBD.out.symm) (by omega) (by omega) (by simp [aD]) (by omega)).mono ?_;rintro e w6 ⟨rfl, hW⟩;have HW3 := ae hW;clear hW c0 c1 d0 d1 d2 d3 d4 HW2;obtain ⟨c0, c1⟩ := HCS.out _ _ HW3.out.sup;obtain ⟨d0, d1, d2, d3, d4⟩ := HCR.out _ _ HW3.out.ros;go_wp2_with fail;refine (pX B w w6 x B (nb + 1) r nb p q g _ R 2 HW3 (Nat.le_of_eq HBD.out.symm) (by omega) (by omega) (by simp [aD]) (by omega)).mono ?_;rintro e w7 ⟨rfl, hW⟩;have HW4 := ae hW;clear hW c0 c1 d0 d1 d2 d3 d4 HW3;obtain ⟨c0, c1⟩ := HCS.out _ _ HW4.out.sup;obtain ⟨d0, d1, d2, d3, d4⟩ := HCR.out _ _ HW4.out.ros;go_wp2_with fail;refine (pX B w w7 x B (nb + 1) r nb p q g _ E 1 HW4 (Nat.le_of_eq HBD.out.symm) (by omega) (by omega) (by simp [aD]) (by omega)).mono ?_;rintro e w8 ⟨rfl, hW⟩;have HW5 := ae hW;clear hW c0 c1 d0 d1 d2 d3 d4 HW4;have HRD := ae HW5.out.ros.aaV;go_wp2_with (first | (refine au rfl (iP rfl rfl) ?_) | fail);refine (wR _ 16 16 _ 2 _ x.ros.st.toList w8 (ae rfl) HRD ai (by omega) (by omega) (by omega) HNAR).mono ?_;rintro e w9 ⟨v, rfl, hv, hb⟩;rw [show bytesOf 16 2 = 4 from rfl] at hv;have hvm := hv.made;obtain ⟨A, c, rfl, _, _, _⟩ := hvm.open_ (aD 8 4 _);have HV := ae hvm;have HW6 := ae (HW5.out.keep hb (Nat.le_of_eq HBD.out.symm));have HPP := ae (aX HW5.out.cut.1);have n0 := (cell1 HW6.out.nxt).1;unfold iC at n0;clear hv hvm hb HRD HW5;go_wp2_with fail;refine (wU p q g 0 44 44 _ 4 w9 HW6.out.cut HW6.out.dif.2.2.2.2.2.2.2.2.1 (by omega) (by simp [aD]) ai (by omega)).mono ?_;rintro e w10 ⟨rfl, hc2, hg2⟩;clear n0;have HC2 := ae hc2;have HG2 := ae hg2;have HROW2 := ae (bQ HW6.out.row hg2 (fun e => HW6.out.dif.2.2.2.2.2.2.2.2.2.1 e.symm));have HRD2 : Hid (Rd w10 w10.heap.size A 4 (aZ 8 4 (val 2 x.ros.st.toList))) := ae (by
  have := (HV.out.yd hg2 (fun j hj => by injection hj with e; have := HPP.out; omega)).rd;exact this)
 clear hc2 hg2;obtain ⟨a, ha⟩ : ∃ a, [] ++ aZ 8 8 x.id ++ aZ 8 1 M ++ aZ 8 2 T ++ aZ 8 2 R ++ aZ 8 1 E = a := ⟨_, rfl⟩;have hal : a.length = 14 := by rw [<- ha]; simp [aD]
 rw [ha] at HC2 HROW2 HW6;have HA := ae ha;have HAL := ae hal;clear ha;rw [hal] at HC2;go_wp2_with (first | (refine dI rfl _ _ rfl g 14 4 4 4 c _ A 162 (dh a) (aZ 8 4 (val 2 x.ros.st.toList)) rfl rfl HROW2 HRD2 ai ?_ ?_) | fail)
 ·rw [dB (by omega)]; omega
 intro w11 hr3 hg3;rw [<- hal, lz (by rw [hal, aD]; omega)] at hr3;have hdf := HW6.out.dif;have hc3 : ie w11 p q (.slice (some ⟨g, 0, none⟩) 44 44) (a ++ aZ 8 4 (val 2 x.ros.st.toList)).length := by
  rw [List.length_append, aD, hal];exact ⟨bQ HC2.out.1 hg3 hdf.2.2.2.2.2.2.2.2.2.1, bQ HC2.out.2 hg3 hdf.2.2.2.2.2.2.2.2.2.2⟩
 have HW7 := ae (HW6.out.zX hc3 hr3 ⟨w10, HG2, hg3⟩ (Nat.le_of_eq HBD.out.symm));clear hr3 hg3 hdf hc3 HW6 HC2 HG2 HROW2 HRD2 HV HPP;obtain ⟨d0, d1, d2, d3, d4⟩ := HCR.out _ _ HW7.out.ros;go_wp2_with fail;refine (pX B w w11 x B (nb + 1) r nb p q g _ C 2 HW7 (Nat.le_of_eq HBD.out.symm) (by omega) (by omega) (by rw [List.length_append, aD]; omega) (by omega)).mono ?_;rintro e w12 ⟨rfl, hW⟩;have HW8 := ae hW;clear hW d0 d1 d2 d3 d4 HW7;have d4 := (HCR.out _ _ HW8.out.ros).2.2.2.2;cases hgn : x.ros.gone
 ·have HF := HNO hgn;rw [hgn] at d4;have HL := ae HW8.out.row;rw [<- HA.out] at HL;simp only [List.nil_append] at HL;rw [HF.out] at HL;have HLR := ae (bK HL);have HTH := ae (a8 (o := 0) (n := 44) HW8.out.res (by rw [bf]; exact ai));have HBB := ae HW8.out.bel;have HFL := ae (cw x);clear HYES HNO HF hgn;go_wp2_with (first | (refine au rfl (fB HFL.out rfl rfl ?_) ?_; (with_reducible exact HLR.out)) | (refine az rfl (el (cs := vals (bZ x)) ?k1 (fV _) rfl rfl rfl ?k2) ?_; (case k1 => rw [bf, HFL.out]; exact jL); (case k2 => rw [bf, HFL.out]; exact HTH.out)) | fail);refine bodyPost_ret (dF (t := 162) (cs := vals (bZ x)) rfl _ _ r rfl ?h1 underlying162 rfl ?h2) rfl ⟨rfl, ?h3⟩
  case h1 => exact World.rangeAt_setCells_same _ _ _ _ (by rw [bf, HFL.out]; exact HTH)
  case h2 => rw [bf, HFL.out]; exact jL
  case h3 => rw [HBD.out]; exact below_setCells HBB HR0 _
 ·have HF := HYES hgn;rw [hgn] at d4;go_wp2_with fail;refine (pX B w w12 x B (nb + 1) r nb p q g _ 1 1 HW8 (Nat.le_of_eq HBD.out.symm) (by omega) (by omega) (by rw [List.length_append, List.length_append, aD, aD]; have := HAL.out; omega) (by omega)).mono ?_;rintro e w13 ⟨rfl, hW⟩;have HW9 := ae hW;clear hW d4 HW8;have HL := ae HW9.out.row;rw [<- HA.out] at HL;simp only [List.nil_append] at HL;rw [HF.out] at HL;have HLR := ae (bK HL);have HTH := ae (a8 (o := 0) (n := 44) HW9.out.res (by rw [bf]; exact ai));have HBB := ae HW9.out.bel;have HFL := ae (cw x);clear HYES HNO HF hgn;go_wp2_with (first | (refine au rfl (fB HFL.out rfl rfl ?_) ?_; (with_reducible exact HLR.out)) | (refine az rfl (el (cs := vals (bZ x)) ?k1 (fV _) rfl rfl rfl ?k2) ?_; (case k1 => rw [bf, HFL.out]; exact jL); (case k2 => rw [bf, HFL.out]; exact HTH.out)) | fail);refine bodyPost_ret (dF (t := 162) (cs := vals (bZ x)) rfl _ _ r rfl ?h1 underlying162 rfl ?h2) rfl ⟨rfl, ?h3⟩
  case h1 => exact World.rangeAt_setCells_same _ _ _ _ (by rw [bf, HFL.out]; exact HTH)
  case h2 => rw [bf, HFL.out]; exact jL
  case h3 => rw [HBD.out]; exact below_setCells HBB HR0 _
theorem ob (y : Ros) (j : Nat) (v : Value) : (vals y.st.toList ++ [Value.int .i64 y.cur, Value.bool y.gone]).set (16 + j) v = vals y.st.toList ++ [Value.int .i64 y.cur, Value.bool y.gone].set j v := by
 rw [List.set_append_right _ _ (by simp [bf])]
 congr 2
 simp [bf]
theorem rx (id : Nat) (self m s r : Int) (st : Vector UInt8 16) (cur : Int) (gone : Bool) : aS ⟨id, self, ⟨m, s, r, st, cur, gone⟩⟩ = Value.int .u64 id :: Value.int .i64 self :: Value.int .i64 m :: Value.int .i64 s :: Value.int .i64 r :: (vals st.toList ++ [Value.int .i64 cur, Value.bool gone]) := rfl
section
variable (y : Sup)
theorem ww (n : Nat) : (aS y).set 0 (.int .u64 n) = aS { y with id := n } := rfl
theorem tD (n : Int) : (aS y).set 1 (.int .i64 n) = aS { y with self := n } := rfl
theorem yv (n : Int) : (aS y).set 2 (.int .i64 n) = aS { y with ros := { y.ros with m := n } } := rfl
theorem zi (n : Int) : (aS y).set 3 (.int .i64 n) = aS { y with ros := { y.ros with s := n } } := rfl
theorem y9 (n : Int) : (aS y).set 4 (.int .i64 n) = aS { y with ros := { y.ros with r := n } } := rfl
theorem ub (n : Int) : (aS y).set 21 (.int .i64 n) = aS { y with ros := { y.ros with cur := n } } := by
 show Value.int .u64 y.id :: Value.int .i64 y.self :: Value.int .i64 y.ros.m :: Value.int .i64 y.ros.s :: Value.int .i64 y.ros.r :: (vals y.ros.st.toList ++ [Value.int .i64 y.ros.cur, Value.bool y.ros.gone]).set (16 + 0) (.int .i64 n) = _
 rw [ob]
 rfl
theorem tK (b : Bool) : (aS y).set 22 (.bool b) = aS { y with ros := { y.ros with gone := b } } := by
 show Value.int .u64 y.id :: Value.int .i64 y.self :: Value.int .i64 y.ros.m :: Value.int .i64 y.ros.s :: Value.int .i64 y.ros.r :: (vals y.ros.st.toList ++ [Value.int .i64 y.ros.cur, Value.bool y.ros.gone]).set (16 + 1) (.bool b) = _
 rw [ob]
 rfl
theorem wc {l : List UInt8} (h : l.length = 16) : splice (aS y) 5 (vals l) = aS { y with ros := { y.ros with st := lG l } } := by
 obtain ⟨id, self, m, s, r, st, cur, gone⟩ := y
 show splice (aS ⟨id, self, ⟨m, s, r, st, cur, gone⟩⟩) 5 (vals l) = aS ⟨id, self, ⟨m, s, r, lG l, cur, gone⟩⟩
 have h2 : (vals st.toList).length = 16 := by simp [bf]
 rw [rx, rx, pd h];generalize vals st.toList = z at *;unfold splice;rw [bf, h, show 5 + 16 = 16 + 1 + 1 + 1 + 1 + 1 from rfl];simp only [List.drop_succ_cons, List.take_succ_cons, List.take_zero];rw [List.drop_append_of_le_length (by omega), List.drop_of_length_le (by omega)]
 rfl
end
theorem bU.set {w : World} {s j : Nat} {y y' : Sup} {v : Value} (h : bU w s y) (e : (aS y).set j v = aS y') : bU (w.setCell ⟨s, j, none⟩ v) s y' := by
 have := heap_setCell_same w s j (aS y).toArray 37 v h;rw [List.setIfInBounds_toArray, e] at this;exact this
theorem bU.free {w : World} {s : Nat} {y : Sup} (h : bU w s y) (j : Nat) : w.frozen? ⟨s, j, none⟩ = false := frozen_of_row w s j _ _ h
theorem mQ {w : World} {ops : Array Oper} {rest : List Oper} {o : Oper} {a : Act} {Q : Exit -> Act -> World -> Prop} (hgd : o.guard = none) (d s : Operand)
  (ho : o.op = .call { callee := .builtin .copy, args := #[d, s], argTypes := #[116, 116] }) (g off n c c' N : Nat) (A : Option Addr) (t : TypeId) (cs : List Value) (x : List UInt8)
  (hd : a.eval d = .slice (some ⟨g, off, none⟩) n c) (hs : a.eval s = .slice A n c') (hS : w.heap[g]? = some (.cells cs.toArray t (0, 0))) (hr : Rd w N A n x) (hn : 0 < n) (hfit : off + n <= cs.length)
  (h : ∀ w', w'.heap[g]? = some (.cells (splice cs off (vals x)).toArray t (0, 0)) -> w.grownBy w' (some g) -> wpList prog ops Q rest (a.put o.dst (goInt n)) w') : wpList prog ops Q (o :: rest) a w := by
 have hx := hr.1;obtain ⟨ad, rfl⟩ : ∃ ad, A = some ad := by
  obtain ⟨b, off, e, _⟩ := hr.2 0 hn;exact ⟨_, e⟩
 have hcl : (vals x).length = n := by rw [bf, hx]
 refine wpList_copy_own hgd d s _ _ ho 5 underlying116 (by kernel_rfl) g off n c ad n c' hd hs _ t hS (vals x) (by rw [hcl]; exact (Nat.min_self n).symm) (fun j v hj => ?_) (by simp [hcl]; omega) (fV x) ?_
 ·have hlt : j < n := by have := (List.getElem?_eq_some_iff.1 hj).1; omega
  obtain ⟨b, o2, e, _, hc⟩ := hr.2 j hlt;injection e with e;subst e;rw [Addr.add_mid, hc, <- hj, fE (by omega)]
 ·have hrow := setRow_heap w g cs.toArray (cs.toArray.toList.take off ++ (vals x ++ cs.toArray.toList.drop (off + (vals x).length))).toArray t (0, 0) hS;have e : cs.toArray.toList.take off ++ (vals x ++ cs.toArray.toList.drop (off + (vals x).length)) = splice cs off (vals x) := rfl;rw [hcl];rw [hcl] at hrow e;refine h _ ?_ ⟨rfl, rfl, rfl, by simp [World.setRow], fun k hk hne => setRow_other w g k _ (fun e => hne (by rw [e]))⟩;rw [e] at hrow ⊢;exact hrow
structure fp (B : Nat) (w0 w : World) (g : Nat) (l : List UInt8) (s r nb p q k : Nat) (y : Sup) : Prop where
 row : cg w g 5 l
 sup : bU w s y
 res : bU w r bg
 nxt : w.heap[nb]? = some (.cells #[iC p q] 167 (0, 0))
 cut : ie w p q (.slice (some ⟨g, 0, none⟩) 44 44) k
 bel : Below B w0 w
 p0 : B <= p
 s0 : B <= s
 dif : g ≠ p /\ s ≠ p /\ r ≠ p /\ nb ≠ p /\ p ≠ q /\ g ≠ s /\ r ≠ s /\ nb ≠ s /\ p ≠ s /\ q ≠ s
section
variable {B : Nat} {w0 w w' : World} {g s r nb p q k k' : Nat} {l : List UInt8} {y y' : Sup}
theorem fp.keep (h : fp B w0 w g l s r nb p q k y) (hb : Below w.heap.size w w') (hB : B <= w0.heap.size) : fp B w0 w' g l s r nb p q k y :=
 ⟨aC h.row hb, aC h.sup hb, aC h.res hb, aC h.nxt hb, ⟨aC h.cut.1 hb, aC h.cut.2 hb⟩, h.bel.trans (hb.mono (ap hB h.bel.size)), h.p0, h.s0, h.dif⟩
theorem fp.step (h : fp B w0 w g l s r nb p q k y) (hc : ie w' p q (.slice (some ⟨g, 0, none⟩) 44 44) k') (hg : w.grownBy w' (some p)) (hB : B <= w0.heap.size) : fp B w0 w' g l s r nb p q k' y := by
 obtain ⟨d1, d2, d3, d4, d5, d6, d7, d8, d9, d10⟩ := h.dif;exact ⟨bQ h.row hg d1, bQ h.sup hg d2, bQ h.res hg d3, bQ h.nxt hg d4, hc, h.bel.grown hg (ap hB h.bel.size) (fun k hk => by injection hk with e; have := h.p0; omega), h.p0, h.s0, h.dif⟩
theorem fp.put (h : fp B w0 w g l s r nb p q k y) (hs : bU w' s y') (hg : w.grownBy w' (some s)) (hB : B <= w0.heap.size) : fp B w0 w' g l s r nb p q k y' := by
 obtain ⟨d1, d2, d3, d4, d5, d6, d7, d8, d9, d10⟩ := h.dif;exact ⟨bQ h.row hg d6, hs, bQ h.res hg d7, bQ h.nxt hg d8, ⟨bQ h.cut.1 hg d9, bQ h.cut.2 hg d10⟩, h.bel.grown hg (ap hB h.bel.size) (fun k hk => by injection hk with e; have := h.s0; omega), h.p0, h.s0, h.dif⟩
theorem fp.set (h : fp B w0 w g l s r nb p q k y) (j : Nat) (v : Value) (e : (aS y).set j v = aS y') (hB : B <= w0.heap.size) : fp B w0 (w.setCell ⟨s, j, none⟩ v) g l s r nb p q k y' :=
 h.put (h.sup.set e) (mB w s j v) hB
end
theorem lm (B : Nat) (w0 w : World) (g : Nat) (l : List UInt8) (s r nb p q k n : Nat) (y : Sup) (h : fp B w0 w g l s r nb p q k y) (hB : B <= w0.heap.size) (hl : l.length = 44) (h1 : 1 <= n) (h2 : n <= 8) (hk : k + n <= 44) :
  Calls prog 136 #[.int .i64 n, .pointer (some ⟨nb, 0, none⟩)] w fun e w' => e = .returned (.int .u64 (val 8 (piece l k n) : Nat)) /\ fp B w0 w' g l s r nb p q (k + n) y := by
 have HH := ae h;have HL := ae hl;have HP := ae (jp (b := piece l k n) (n := n) (cy (by omega)));have c0 := (cell1 h.nxt).1;unfold iC at c0;clear h hl;go_enter func136, ntmps136;go_wp2_with fail;refine (wU p q g 0 44 44 k n w HH.out.cut HH.out.dif.2.2.2.2.1 h1 hk ai (by omega)).mono ?_;rintro e w1 ⟨rfl, hc, hg⟩;have H1 := ae (HH.out.step hc hg hB);clear hc hg c0 HH;have HRD := ae (H1.out.row.rd (p := k) (k := n) (by rw [HL.out]; omega));go_wp2_with fail;refine (uq _ n n _ (piece l k n) 0 n w1 HRD (by unfold maxLen; omega) h1 h2 (by omega)).mono ?_;rintro e w2 ⟨rfl, rfl⟩;rw [HP.out];obtain ⟨v, hv⟩ : ∃ v, val 8 (piece l k n) = v := ⟨_, rfl⟩;rw [hv];have HV := ae hv;clear hv;go_wp2_with fail;go_ret;exact ⟨by rw [HV.out]; rfl, H1⟩
end Go.Proofs.YtehefifamaofkaaGreatDoor
