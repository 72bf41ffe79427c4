import Derived.Test.YtcpbekopbeaflaaGreatDoorLrai
import Derived.Test.YtcpbekopbeaflaaGreatDoorLrak
namespace Go.Proofs.YtcpbekopbeaflaaGreatDoor
set_option maxHeartbeats 8000000
open Go.Proofs.Tryz
open Go.RowKit
set_option linter.unusedVariables false
set_option linter.unusedSimpArgs false
set_option maxRecDepth 100000
def agA : List Value := [.int .i64 8, .int .i64 2, .int .i64 4]
def pz : Value := .agg agA.toArray
def qk (w : World) : Prop := w.rangeAt 0 0 agA
theorem qk.below {w w' : World} (h : qk w) (hb : Below w.heap.size w w') : qk w' :=
 cY h (World.block_lt_of_cell? w _ (h 0 _ rfl)) hb
structure lE (w : World) : Prop where
 tab : Tab w
 siz : qk w
theorem lE.below {w w' : World} (h : lE w) (hb : Below w.heap.size w w') : lE w' := ⟨h.tab.below hb, h.siz.below hb⟩
theorem ahF : (prog.info? 198).map (·.size) = some 3 := by kernel_rfl
section
variable {ρ : Operand -> Value} {o : Oper} {x y : Operand} {w : World} {t : TypeId} {p q u : Value}
theorem nQ (ho : o.op = .load 198 x) (hx : ρ x = .pointer (some ⟨0, 0, none⟩)) (h : qk w) : (execOp ρ o).run prog w = .ok (.value pz) w :=
 eI underlying198 rfl ahF ho hx h
theorem nB (ho : o.op = .index t x y) (hx : ρ x = p) (hy : ρ y = q) (h : (Instr.index t p q).run prog w = .ok u w) : (execOp ρ o).run prog w = .ok (.value u) w := by
 unfold execOp;simp only [ho, hx, hy, Sem.run_bind, h, Result.andThen_ok, Sem.run_pure]
theorem ajG : (Instr.index 198 pz (.int .i64 0)).run prog w = .ok (.int .i64 8) w := by kernel_rfl
theorem ai3 : (Instr.index 198 pz (.int .i64 1)).run prog w = .ok (.int .i64 2) w := by kernel_rfl
theorem ajU : (Instr.index 198 pz (.int .i64 2)).run prog w = .ok (.int .i64 4) w := by kernel_rfl
theorem qq (ho : o.op = .index 198 x y) (hy : ρ y = .int .i64 0) (hx : ρ x = pz) : (execOp ρ o).run prog w = .ok (.value (.int .i64 8)) w := nB ho hx hy ajG
theorem px (ho : o.op = .index 198 x y) (hy : ρ y = .int .i64 1) (hx : ρ x = pz) : (execOp ρ o).run prog w = .ok (.value (.int .i64 2)) w := nB ho hx hy ai3
theorem qr (ho : o.op = .index 198 x y) (hy : ρ y = .int .i64 2) (hx : ρ x = pz) : (execOp ρ o).run prog w = .ok (.value (.int .i64 4)) w := nB ho hx hy ajU
end
def fv (a b c : Nat) : List Value := [.int .u64 a, .int .u64 b, .int .u64 c]
def yu (a b c : Nat) : Value := .agg (fv a b c).toArray
theorem aav (a b c : Nat) : ∀ v ∈ fv a b c, v.oneCell' = true := by
 intro v hv;simp only [fv, List.mem_cons, List.not_mem_nil, or_false] at hv;rcases hv with rfl | rfl | rfl <;> rfl
theorem ahK : (prog.info? 197).map (·.size) = some 3 := by kernel_rfl
theorem tm : (prog.info? 197).map (fun i => i.zero) = some (some (yu 0 0 0)) := by kernel_rfl
def iQ (w : World) (g a b c : Nat) : Prop := w.heap[g]? = some (.cells (fv a b c).toArray 197 (0, 0))
section
variable {w w' : World} {g a b c : Nat}
theorem iQ.cells (h : iQ w g a b c) : w.cell? ⟨g, 0, none⟩ = some (.int .u64 a) /\ w.cell? ⟨g, 1, none⟩ = some (.int .u64 b) /\ w.cell? ⟨g, 2, none⟩ = some (.int .u64 c) := by
 have hr := dW h;exact ⟨hr 0 _ rfl, hr 1 _ rfl, hr 2 _ rfl⟩
theorem iQ.free (h : iQ w g a b c) (j : Nat) : w.frozen? ⟨g, j, none⟩ = false := frozen_of_row w g j _ _ h
theorem iQ.set {a' b' c' j n : Nat} (h : iQ w g a b c) (e : (fv a b c).set j (.int .u64 n) = fv a' b' c') : iQ (w.setCell ⟨g, j, none⟩ (.int .u64 n)) g a' b' c' := by
 have := heap_setCell_same w g j (fv a b c).toArray 197 (.int .u64 n) h;rw [List.setIfInBounds_toArray, e] at this;exact this
end
section
variable {ρ : Operand -> Value} {o : Oper} {x y z u v : Operand} {w : World} {g a b c : Nat}
theorem mE (ho : o.op = .alloc 197) : (execOp ρ o).run prog w = .ok (.value (.pointer (some ⟨w.heap.size, 0, none⟩))) (w.alloc (.cells (fv 0 0 0).toArray 197)) := eB tm ho
theorem ur (ho : o.op = .store 197 x y) (hx : ρ x = .pointer (some ⟨w.heap.size, 0, none⟩)) (hy : ρ y = yu a b c) : (execOp ρ o).run prog (w.alloc (.cells (fv 0 0 0).toArray 197)) = .ok .skip (w.alloc (.cells (fv a b c).toArray 197)) :=
 fO ahK rfl (aav a b c) ho hx hy
theorem wh {t : TypeId} {y0 y1 y2 q : Value} (ho : o.op = .build t #[(0, x), (1, y), (2, z)]) (h0 : ρ x = y0) (h1 : ρ y = y1) (h2 : ρ z = y2)
  (h : (Instr.build t #[(0, y0), (1, y1), (2, y2)]).run prog w = .ok q w) : (execOp ρ o).run prog w = .ok (.value q) w := by
 subst h0 h1 h2;unfold execOp;simp only [ho, List.map_toArray, List.map_cons, List.map_nil, Sem.run_bind, h, Result.andThen_ok, Sem.run_pure]
theorem aaM (a b c : Nat) : (Instr.build 197 #[(0, .int .u64 a), (1, .int .u64 b), (2, .int .u64 c)]).run prog w = .ok (yu a b c) w := by kernel_rfl
theorem vg (a b c : Nat) (ho : o.op = .build 197 #[(0, x), (1, y), (2, z)]) (h0 : ρ x = .int .u64 a) (h1 : ρ y = .int .u64 b) (h2 : ρ z = .int .u64 c) : (execOp ρ o).run prog w = .ok (.value (yu a b c)) w :=
 wh ho h0 h1 h2 (aaM a b c)
theorem aiB {j : Nat} (hj : j < 3) : (Instr.indexAt 197 (.pointer (some ⟨g, 0, none⟩)) (.int .i64 (j : Int))).run prog w = .ok (.pointer (some ⟨g, j, none⟩)) w := by
 have e : (0 <= (j : Int) /\ (j : Int) < 3) := by omega
 simp [Instr.indexAt, Instr.sureAddr, asIntOf, run_underlying underlying197, Tryz.sizeOf35, Addr.add_mid, e, hj]
theorem ajC : (Instr.indexAt 197 (.pointer (some ⟨g, 0, none⟩)) (.int .i64 0)).run prog w = .ok (.pointer (some ⟨g, 0, none⟩)) w := aiB (j := 0) (by omega)
theorem ajt : (Instr.indexAt 197 (.pointer (some ⟨g, 0, none⟩)) (.int .i64 1)).run prog w = .ok (.pointer (some ⟨g, 1, none⟩)) w := aiB (j := 1) (by omega)
theorem ajZ : (Instr.indexAt 197 (.pointer (some ⟨g, 0, none⟩)) (.int .i64 2)).run prog w = .ok (.pointer (some ⟨g, 2, none⟩)) w := aiB (j := 2) (by omega)
theorem lL (ho : o.op = .indexAddr 197 x y) (hy : ρ y = .int .i64 0) (hx : ρ x = .pointer (some ⟨g, 0, none⟩)) : (execOp ρ o).run prog w = .ok (.value (.pointer (some ⟨g, 0, none⟩))) w := dH ho hx hy ajC
theorem lS (ho : o.op = .indexAddr 197 x y) (hy : ρ y = .int .i64 1) (hx : ρ x = .pointer (some ⟨g, 0, none⟩)) : (execOp ρ o).run prog w = .ok (.value (.pointer (some ⟨g, 1, none⟩))) w := dH ho hx hy ajt
theorem l4 (ho : o.op = .indexAddr 197 x y) (hy : ρ y = .int .i64 2) (hx : ρ x = .pointer (some ⟨g, 0, none⟩)) : (execOp ρ o).run prog w = .ok (.value (.pointer (some ⟨g, 2, none⟩))) w := dH ho hx hy ajZ
theorem xV {b : Nat} (ho : o.op = .fieldAddr 107 x 1) (hx : ρ x = .pointer (some ⟨b, 0, none⟩)) : (execOp ρ o).run prog w = .ok (.value (.pointer (some ⟨b, 1, none⟩))) w := av ho hx lI
theorem xw {b : Nat} (ho : o.op = .fieldAddr 107 x 2) (hx : ρ x = .pointer (some ⟨b, 0, none⟩)) : (execOp ρ o).run prog w = .ok (.value (.pointer (some ⟨b, 2, none⟩))) w := av ho hx kE
theorem wP {b : Nat} (ho : o.op = .fieldAddr 107 x 3) (hx : ρ x = .pointer (some ⟨b, 0, none⟩)) : (execOp ρ o).run prog w = .ok (.value (.pointer (some ⟨b, 3, none⟩))) w := av ho hx yy
end
theorem o9 : (prog.info? 175).map (·.size) = some 44 := by kernel_rfl
theorem sx : (prog.info? 175).map (fun i => i.zero) = some (some (arr z44)) := by kernel_rfl
theorem acZ : prog.eqGuardType prog.depth 175 = false := by kernel_rfl
section
variable {ρ : Operand -> Value} {o : Oper} {x y : Operand} {w : World} {b off g c : Nat} {t : TypeId} {l : List UInt8}
theorem j0 (hl : l.length = 44) (ho : o.op = .load 175 x) (hx : ρ x = .pointer (some ⟨b, off, none⟩)) (hc : w.rangeAt b off (vals l)) : (execOp ρ o).run prog w = .ok (.value (arr l)) w :=
 eI underlying175 rfl (by rw [bZ, hl]; exact o9) ho hx hc
theorem jv (ho : o.op = .alloc 175) : (execOp ρ o).run prog w = .ok (.value (.pointer (some ⟨w.heap.size, 0, none⟩))) (w.alloc (.cells (vals z44).toArray 175)) := eB sx ho
theorem tb (hl : l.length = 44) (ho : o.op = .store 175 x y) (hx : ρ x = .pointer (some ⟨w.heap.size, 0, none⟩)) (hy : ρ y = arr l) :
  (execOp ρ o).run prog (w.alloc (.cells (vals z44).toArray 175)) = .ok .skip (w.alloc (.cells (vals l).toArray 175)) :=
 fO (by rw [bZ, hl]; exact o9) (by rw [bZ, bZ, hl, kn]) (kW l) ho hx hy
theorem uN (hl : l.length = 44) (ho : o.op = .store 175 x y) (hx : ρ x = .pointer (some ⟨b, off, none⟩)) (hy : ρ y = arr l) (ht : w.there b off 44) : (execOp ρ o).run prog w = .ok .skip (w.setCells b off (vals l)) :=
 lu (by rw [bZ, hl]; exact o9) (kW l) ho hx hy (by rw [bZ, hl]; exact ht)
theorem pl {l' : List UInt8} (c : Bool) (ha : l.length = 44) (hb : l'.length = 44) (ho : o.op = .binOp .neq 175 x y t) (hx : ρ x = arr l) (hy : ρ y = arr l') (h : decide (l = l') = c) : (execOp ρ o).run prog w = .ok (.value (.bool (!c))) w := by
 subst h; exact pK acZ (qS underlying175 w l l' ha hb 9998) ho hx hy
theorem ut (ho : o.op = .slice 175 x none none none) (hx : ρ x = .pointer (some ⟨g, off, none⟩)) : (execOp ρ o).run prog w = .ok (.value (.slice (some ⟨g, off, none⟩) 44 44)) w := by
 have h : (Instr.sliceAt 175 (.pointer (some ⟨g, off, none⟩)) none none none).run prog w = .ok (.slice (some ⟨g, off, none⟩) 44 44) w := by
  simp [Instr.sliceAt, Instr.sliceBounds, Instr.sliceBound, Instr.sureAddr, asIntOf, run_underlying underlying175, Tryz.sizeOf5, Addr.add_mid]
 unfold execOp;simp only [ho, hx, Option.map_none, Sem.run_bind, h, Result.andThen_ok, Sem.run_pure]
theorem ke (p n : Nat) (hn : p + n = 44) (h0 : 0 < n) (ho : o.op = .slice 175 x (some y) none none) (hx : ρ x = .pointer (some ⟨g, 0, none⟩)) (hy : ρ y = .int .i64 (p : Int)) : (execOp ρ o).run prog w = .ok (.value (.slice (some ⟨g, p, none⟩) n n)) w := by
 have e1 : (0 <= (p : Int) /\ (p : Int) <= 44) := by omega
 have e2 : p <= 44 := by omega
 have e3 : 44 - p = n := by omega
 have e4 : n ≠ 0 := by omega
 have e5 : ¬ 44 = p := by omega
 have h : (Instr.sliceAt 175 (.pointer (some ⟨g, 0, none⟩)) (some (.int .i64 (p : Int))) none none).run prog w = .ok (.slice (some ⟨g, p, none⟩) n n) w := by
  simp [Instr.sliceAt, Instr.sliceBounds, Instr.sliceBound, Instr.sureAddr, asIntOf, run_underlying underlying175, Tryz.sizeOf5, Addr.add_mid, e1, e2, e3, e4, e5]
 unfold execOp;simp only [ho, hx, hy, Option.map_none, Option.map_some, Sem.run_bind, h, Result.andThen_ok, Sem.run_pure]
theorem rD (ho : o.op = .sliceToArrayPointer 175 x) (hx : ρ x = .slice (some ⟨g, 0, none⟩) 44 c) : (execOp ρ o).run prog w = .ok (.value (.pointer (some ⟨g, 0, none⟩))) w := by
 unfold execOp;simp [ho, hx, Instr.arrayAt, run_underlying underlying175]
end
def acC (b : Nat) : Prop := b = 2 \/ b = 1 \/ b = 0
structure Tbs (w : World) : Prop where
 m : om w
 n : lE w
theorem lt_of_cell {w : World} {b j : Nat} {v : Value} (h : w.cell? ⟨b, j, none⟩ = some v) : b < w.heap.size := by
 rcases Nat.lt_or_ge b w.heap.size with h' | h'
 ·exact h'
 ·have : w.heap[b]? = none := Array.getElem?_eq_none h';simp [World.cell?, this] at h
theorem Tbs.lt {w : World} (h : Tbs w) {b : Nat} (hb : acC b) : b < w.heap.size := by
 rcases hb with rfl | rfl | rfl
 ·exact lt_of_cell (h.m.tab 0 (by omega))
 ·exact lt_of_cell (h.m.siz 0 _ rfl)
 ·exact lt_of_cell (h.n.siz 0 _ rfl)
theorem Tbs.keep {w w' : World} (h : Tbs w) (hk : ∀ b, acC b -> w'.heap[b]? = w.heap[b]?) : Tbs w' := by
 have h1 := hk _ (.inl rfl);have h2 := hk _ (.inr (.inl rfl));have h3 := hk _ (.inr (.inr rfl));have ht : Tab w' := fun i hi => (World.cell?_of_block (w := w) h1).trans (h.m.tab i hi)
 exact ⟨⟨ht, fun j v hj => (World.cell?_of_block (w := w) h2).trans (h.m.siz j v hj)⟩, ⟨ht, fun j v hj => (World.cell?_of_block (w := w) h3).trans (h.n.siz j v hj)⟩⟩
theorem Tbs.only {w w' : World} {G : Nat -> Prop} (h : Tbs w) (ho : Only G w w') (hn : ∀ b, acC b -> ¬ G b) : Tbs w' := h.keep fun b hb => ho.block b (h.lt hb) (hn b hb)
theorem Tbs.below {w w' : World} (h : Tbs w) (hb : Below w.heap.size w w') : Tbs w' := h.keep fun b hb' => hb.block b (h.lt hb')
structure TbG (w : World) (G : Nat -> Prop) : Prop where
 t : Tbs w
 off : ∀ b, acC b -> ¬ G b
structure Bas (w0 : World) (B : Nat) : Prop where
 le : B <= w0.heap.size
 t : Tbs w0
 lo : ∀ b, acC b -> b < B
theorem Bas.start {w : World} (h : Tbs w) : Bas w w.heap.size := ⟨aj, h, fun b hb => h.lt hb⟩
theorem Bas.tab {w0 w : World} {B : Nat} (h : Bas w0 B) (hb : Below B w0 w) : Tbs w := h.t.keep fun b hb' => hb.block b (h.lo b hb')
theorem Bas.xW {w0 w : World} {B : Nat} {G : Nat -> Prop} (h : Bas w0 B) (hb : Below B w0 w) (hG : ∀ b, G b -> B <= b) : TbG w G := ⟨h.tab hb, fun b h1 h2 => by have := h.lo b h1; have := hG b h2; omega⟩
def io (Bn : World -> (Nat -> Prop) -> Nat -> aK -> Prop) (J : World -> (Nat -> Prop) -> Nat -> Nat -> aK -> LgS -> Prop) (w : World) (G : Nat -> Prop) (q : Nat) (E : Int) (M' : aK) (x : LgS) (e : Ending) (w' : World) : Prop :=
 ∃ G', Only G w w' /\ Grow w G G' /\ ((E = 0 /\ ∃ p, e = .returned (.tuple #[.pointer (some ⟨p, 0, none⟩), .int .i64 0]) /\ J w' G' q p M' x) \/ (E ≠ 0 /\ e = .returned (.tuple #[.pointer none, .int .i64 E]) /\ Bn w' G' q M'))
def agM (J : World -> (Nat -> Prop) -> Nat -> Nat -> aK -> LgS -> Prop) (w : World) (G : Nat -> Prop) (q p : Nat) (v : Value) (M' : aK) (x' : LgS) (e : Ending) (w' : World) : Prop :=
 e = .returned v /\ ∃ G', J w' G' q p M' x' /\ Only G w w' /\ Grow w G G'
def qz (M : aK) (x : LgS) (s : Nat) (w : World) (e : Ending) (w' : World) : Prop := ∃ v', e = .returned (.tuple #[v', .int .i64 (iA M x s)]) /\ aO bQ w' w.heap.size v' (nr M x s) /\ Below w.heap.size w w'
structure lU where
 R : aeC
 J : World -> (Nat -> Prop) -> Nat -> Nat -> aK -> LgS -> Prop
 lt : ∀ {w G q p M x}, J w G q p M x -> ∀ b, G b -> b < w.heap.size
 only : ∀ {w w' G F q p M x}, J w G q p M x -> Only F w w' -> (∀ b, G b -> ¬ F b) -> J w' G q p M x
 ben : ∀ {w G q p M x}, J w G q p M x -> ∃ Gb, R.Bn w Gb q M /\ (∀ b, Gb b -> G b) /\ ∀ w' Gb' M', R.Bn w' Gb' q M' -> Only Gb w w' -> Grow w Gb Gb' -> ∃ G', J w' G' q p M' x /\ Only G w w' /\ Grow w G G' /\ ∀ b, Gb' b -> G' b
 open_ : ∀ {w G q M} (d : Int), R.Bn w G q M -> TbG w G -> Calls prog 12 #[.pointer (some ⟨q, 0, none⟩), .int .i64 d] w (io R.Bn J w G q (eZ M d) M (l7 M d))
 lay : ∀ {w G q M} (d : Int) (id : Nat) (r : Int), R.Bn w G q M -> TbG w G -> Room M 13 -> id < 18446744073709551616 -> Calls prog 14 #[.pointer (some ⟨q, 0, none⟩), .int .i64 d, .int .u64 (id : Nat), .int .i64 r] w (io R.Bn J w G q (i6 M d id r) (jc M d id r) (mT d id r))
 app : ∀ {w G q p M x N} (A : Option Addr) (n c N0 : Nat) (cs : List Cl), J w G q p M x -> TbG w G -> cg M x N -> Room M 40 -> RdE bQ w N0 A n cs -> N0 <= w.heap.size -> n <= maxLen -> Calls prog 39 #[.pointer (some ⟨p, 0, none⟩), .slice A n c] w (agM J w G q p (.tuple #[.int .u64 ((i8 M x cs : Nat) : Int), .int .i64 (iL M x cs)]) (iP M x cs) (gQ M x cs))
 ux : ∀ {w G q p M x N} (s : Nat), J w G q p M x -> TbG w G -> cg M x N -> s < 18446744073709551616 -> Calls prog 40 #[.pointer (some ⟨p, 0, none⟩), .int .u64 (s : Nat)] w (qz M x s w)
 clr : ∀ {w G q p M x N} (f : Nat), J w G q p M x -> TbG w G -> cg M x N -> Room M 2 -> f < 18446744073709551616 -> Calls prog 41 #[.pointer (some ⟨p, 0, none⟩), .int .u64 (f : Nat)] w (agM J w G q p (.int .i64 (hM M x f)) (i5 M x f) (fV M x f))
 live : ∀ {w G q p M x N}, J w G q p M x -> cg M x N -> Calls prog 26 #[.pointer (some ⟨p, 0, none⟩)] w fun e w' => e = .returned (.tuple #[.int .u64 ((x.fst : Nat) : Int), .int .u64 ((x.next : Nat) : Int)]) /\ Below w.heap.size w w'
 free : ∀ {w G q p M x N}, J w G q p M x -> cg M x N -> Calls prog 28 #[.pointer (some ⟨p, 0, none⟩)] w fun e w' => e = .returned (.int .i64 ((x.free : Nat) : Int)) /\ Below w.heap.size w w'
 id : ∀ {w G q p M x N}, J w G q p M x -> cg M x N -> Calls prog 30 #[.pointer (some ⟨p, 0, none⟩)] w fun e w' => e = .returned (.int .u64 ((x.own : Nat) : Int)) /\ Below w.heap.size w w'
 ring : ∀ {w G q p M x N}, J w G q p M x -> cg M x N -> Calls prog 31 #[.pointer (some ⟨p, 0, none⟩)] w fun e w' => e = .returned (.int .i64 ((x.size : Nat) : Int)) /\ Below w.heap.size w w'
theorem lU.below (C : lU) {w w' : World} {G : Nat -> Prop} {q p : Nat} {M : aK} {x : LgS} (h : C.J w G q p M x) (k : Below w.heap.size w w') : C.J w' G q p M x := C.only h (Only.of_below (fun _ => False) k) fun _ _ e => e
def AtK (P : World -> (Nat -> Prop) -> Prop) (w0 : World) (B : Nat) (K : Nat -> Prop) (w : World) : Prop := ∃ G, P w G /\ (∀ b, G b -> B <= b) /\ Below B w0 w /\ Bas w0 B /\ ∀ b, K b -> ¬ G b /\ b < w.heap.size
def ib (K : Nat -> Prop) (w w' : World) : Prop := ∀ b, K b -> w'.heap[b]? = w.heap[b]?
section
variable {P P' : World -> (Nat -> Prop) -> Prop} {w0 w w' : World} {B : Nat} {K K' : Nat -> Prop}
theorem AtK.bel (h : AtK P w0 B K w) : Below B w0 w := by obtain ⟨G, h1, h2, h3, h4⟩ := h; exact h3
theorem AtK.guard (hP : ∀ {w w' G}, P w G -> Below w.heap.size w w' -> P w' G) (hl : ∀ {w G}, P w G -> ∀ b, G b -> b < w.heap.size) (h : AtK P w0 B K w) (k : Below w.heap.size w w') (hK : ∀ b, K' b -> K b \/ (w.heap.size <= b /\ b < w'.heap.size)) : AtK P w0 B K' w' := by
 obtain ⟨G, h1, h2, h3, h4, h5⟩ := h;have hs := k.size;refine ⟨G, hP h1 k, h2, h3.trans (k.mono (ap h4.le h3.size)), h4, fun b hb => ?_⟩;rcases hK b hb with e | ⟨e1, e2⟩
 ·obtain ⟨g1, g2⟩ := h5 b e;exact ⟨g1, by omega⟩
 ·exact ⟨fun hg => by have := hl h1 b hg; omega, e2⟩
theorem AtK.turn {G G' : Nat -> Prop} (h2 : ∀ b, G b -> B <= b) (h3 : Below B w0 w) (h4 : Bas w0 B) (h5 : ∀ b, K b -> ¬ G b /\ b < w.heap.size) (k1 : P' w' G') (k2 : Only G w w') (k3 : Grow w G G') : AtK P' w0 B K w' /\ ib K w w' := by
 have hs := ap h4.le h3.size;have hs2 := k2.size;refine ⟨⟨G', k1, k3.above h2 hs, h3.trans (k2.below h2 hs), h4, fun b hb => ?_⟩, fun b hb => k2.block b (h5 b hb).2 (h5 b hb).1⟩;obtain ⟨g1, g2⟩ := h5 b hb;refine ⟨fun hg => ?_, by omega⟩;rcases k3 b hg with e | e
 ·exact g1 e
 ·omega
end
def LAt (C : lU) (w0 : World) (B : Nat) (K : Nat -> Prop) (w : World) (q p : Nat) (M : aK) (x : LgS) : Prop := AtK (fun w G => C.J w G q p M x) w0 B K w
def BAt (C : lU) (w0 : World) (B : Nat) (K : Nat -> Prop) (w : World) (q : Nat) (M : aK) : Prop := AtK (fun w G => C.R.Bn w G q M) w0 B K w
section
variable {C : lU} {w0 w w' : World} {B q p N : Nat} {K K' : Nat -> Prop} {M M' : aK} {x x' : LgS}
theorem LAt.guard (h : LAt C w0 B K w q p M x) (k : Below w.heap.size w w') (hK : ∀ b, K' b -> K b \/ (w.heap.size <= b /\ b < w'.heap.size)) : LAt C w0 B K' w' q p M x := AtK.guard (fun h k => C.below h k) (fun h => C.lt h) h k hK
theorem LAt.below (h : LAt C w0 B K w q p M x) (k : Below w.heap.size w w') : LAt C w0 B K w' q p M x := h.guard k fun b e => .inl e
theorem LAt.app (A : Option Addr) (n c N0 : Nat) (cs : List Cl) (h : LAt C w0 B K w q p M x) (hk : cg M x N) (hr : Room M 40) (hc : RdE bQ w N0 A n cs) (hN0 : N0 <= w.heap.size) (hn : n <= maxLen) :
  Calls prog 39 #[.pointer (some ⟨p, 0, none⟩), .slice A n c] w fun e w' => e = .returned (.tuple #[.int .u64 ((i8 M x cs : Nat) : Int), .int .i64 (iL M x cs)]) /\ LAt C w0 B K w' q p (iP M x cs) (gQ M x cs) /\ ib K w w' := by
 obtain ⟨G, h1, h2, h3, h4, h5⟩ := h;exact (C.app A n c N0 cs h1 (h4.xW h3 h2) hk hr hc hN0 hn).mono fun e w' ⟨he, G', k1, k2, k3⟩ => ⟨he, AtK.turn h2 h3 h4 h5 k1 k2 k3⟩
theorem LAt.clr (f : Nat) (h : LAt C w0 B K w q p M x) (hk : cg M x N) (hr : Room M 2) (hf : f < 18446744073709551616) :
  Calls prog 41 #[.pointer (some ⟨p, 0, none⟩), .int .u64 (f : Nat)] w fun e w' => e = .returned (.int .i64 (hM M x f)) /\ LAt C w0 B K w' q p (i5 M x f) (fV M x f) /\ ib K w w' := by
 obtain ⟨G, h1, h2, h3, h4, h5⟩ := h;exact (C.clr f h1 (h4.xW h3 h2) hk hr hf).mono fun e w' ⟨he, G', k1, k2, k3⟩ => ⟨he, AtK.turn h2 h3 h4 h5 k1 k2 k3⟩
theorem LAt.ux (s : Nat) (h : LAt C w0 B K w q p M x) (hk : cg M x N) (hs : s < 18446744073709551616) : Calls prog 40 #[.pointer (some ⟨p, 0, none⟩), .int .u64 (s : Nat)] w (qz M x s w) := by
 obtain ⟨G, h1, h2, h3, h4, _⟩ := h;exact C.ux s h1 (h4.xW h3 h2) hk hs
theorem LAt.live (h : LAt C w0 B K w q p M x) (hk : cg M x N) : Calls prog 26 #[.pointer (some ⟨p, 0, none⟩)] w fun e w' => e = .returned (.tuple #[.int .u64 ((x.fst : Nat) : Int), .int .u64 ((x.next : Nat) : Int)]) /\ Below w.heap.size w w' := by
 obtain ⟨G, h1, _⟩ := h;exact C.live h1 hk
theorem LAt.free (h : LAt C w0 B K w q p M x) (hk : cg M x N) : Calls prog 28 #[.pointer (some ⟨p, 0, none⟩)] w fun e w' => e = .returned (.int .i64 ((x.free : Nat) : Int)) /\ Below w.heap.size w w' := by
 obtain ⟨G, h1, _⟩ := h;exact C.free h1 hk
theorem LAt.ring (h : LAt C w0 B K w q p M x) (hk : cg M x N) : Calls prog 31 #[.pointer (some ⟨p, 0, none⟩)] w fun e w' => e = .returned (.int .i64 ((x.size : Nat) : Int)) /\ Below w.heap.size w w' := by
 obtain ⟨G, h1, _⟩ := h;exact C.ring h1 hk
def vK (C : lU) (w0 : World) (B : Nat) (K : Nat -> Prop) (w : World) (q : Nat) (E : Int) (M' : aK) (x : LgS) (e : Ending) (w' : World) : Prop :=
 ib K w w' /\ ((E = 0 /\ ∃ p, e = .returned (.tuple #[.pointer (some ⟨p, 0, none⟩), .int .i64 0]) /\ LAt C w0 B K w' q p M' x) \/ (E ≠ 0 /\ e = .returned (.tuple #[.pointer none, .int .i64 E]) /\ BAt C w0 B K w' q M'))
theorem io.at_ {G : Nat -> Prop} {E : Int} {e : Ending} (h2 : ∀ b, G b -> B <= b) (h3 : Below B w0 w) (h4 : Bas w0 B) (h5 : ∀ b, K b -> ¬ G b /\ b < w.heap.size) (h : io C.R.Bn C.J w G q E M' x e w') : vK C w0 B K w q E M' x e w' := by
 obtain ⟨G', k2, k3, h | h⟩ := h
 ·obtain ⟨e0, p, he, hj⟩ := h;obtain ⟨g1, g2⟩ := AtK.turn (P' := fun w G => C.J w G q p M' x) h2 h3 h4 h5 hj k2 k3;exact ⟨g2, .inl ⟨e0, p, he, g1⟩⟩
 ·obtain ⟨e0, he, hb⟩ := h;obtain ⟨g1, g2⟩ := AtK.turn (P' := fun w G => C.R.Bn w G q M') h2 h3 h4 h5 hb k2 k3;exact ⟨g2, .inr ⟨e0, he, g1⟩⟩
theorem BAt.open_ (d : Int) (h : BAt C w0 B K w q M) : Calls prog 12 #[.pointer (some ⟨q, 0, none⟩), .int .i64 d] w (vK C w0 B K w q (eZ M d) M (l7 M d)) := by
 obtain ⟨F, h1, h2, h3, h4, h5⟩ := h;exact (C.open_ d h1 (h4.xW h3 h2)).mono fun e w' k => k.at_ h2 h3 h4 h5
theorem BAt.lay (d : Int) (id : Nat) (r : Int) (h : BAt C w0 B K w q M) (hr : Room M 13) (hid : id < 18446744073709551616) : Calls prog 14 #[.pointer (some ⟨q, 0, none⟩), .int .i64 d, .int .u64 (id : Nat), .int .i64 r] w (vK C w0 B K w q (i6 M d id r) (jc M d id r) (mT d id r)) := by
 obtain ⟨F, h1, h2, h3, h4, h5⟩ := h;exact (C.lay d id r h1 (h4.xW h3 h2) hr hid).mono fun e w' k => k.at_ h2 h3 h4 h5
theorem LAt.lay (d : Int) (id : Nat) (r : Int) (h : LAt C w0 B K w q p M x) (hr : Room M 13) (hid : id < 18446744073709551616) : Calls prog 14 #[.pointer (some ⟨q, 0, none⟩), .int .i64 d, .int .u64 (id : Nat), .int .i64 r] w fun e w' => ib K w w' /\
  ((i6 M d id r = 0 /\ ∃ p', e = .returned (.tuple #[.pointer (some ⟨p', 0, none⟩), .int .i64 0]) /\ LAt C w0 B K w' q p' (jc M d id r) (mT d id r)) \/ (i6 M d id r ≠ 0 /\ e = .returned (.tuple #[.pointer none, .int .i64 (i6 M d id r)]) /\ LAt C w0 B K w' q p (jc M d id r) x)) := by
 obtain ⟨G, h1, h2, h3, h4, h5⟩ := h;obtain ⟨Gb, b1, b2, b3⟩ := C.ben h1;refine (C.lay d id r b1 (h4.xW h3 fun b e => h2 b (b2 b e)) hr hid).mono fun e w' k => ?_
 obtain ⟨G', k2, k3, k | k⟩ := k
 ·obtain ⟨e0, p', he, hj⟩ := k;obtain ⟨g1, g2⟩ := AtK.turn (P' := fun w G => C.J w G q p' (jc M d id r) (mT d id r)) (K := K) (fun b e => h2 b (b2 b e)) h3 h4 (fun b e => ⟨fun g => (h5 b e).1 (b2 b g), (h5 b e).2⟩) hj k2 k3;exact ⟨g2, .inl ⟨e0, p', he, g1⟩⟩
 ·obtain ⟨e0, he, hb⟩ := k;obtain ⟨G2, g1, g2, g3, _⟩ := b3 w' G' _ hb k2 k3;obtain ⟨y1, y2⟩ := AtK.turn (P' := fun w G => C.J w G q p (jc M d id r) x) (K := K) h2 h3 h4 h5 g1 g2 g3;exact ⟨y2, .inr ⟨e0, he, y1⟩⟩
theorem vK.yes {E : Int} {e : Ending} (h : vK C w0 B K w q E M' x e w') (hE : E = 0) : ∃ p, e = .returned (.tuple #[.pointer (some ⟨p, 0, none⟩), .int .i64 0]) /\ LAt C w0 B K w' q p M' x /\ ib K w w' := by
 rcases h with ⟨hk, ⟨_, p, h1, h2⟩ | ⟨h, _⟩⟩
 ·exact ⟨p, h1, h2, hk⟩
 ·exact absurd hE h
theorem vK.no {E : Int} {e : Ending} (h : vK C w0 B K w q E M' x e w') (hE : E ≠ 0) : e = .returned (.tuple #[.pointer none, .int .i64 E]) /\ BAt C w0 B K w' q M' /\ ib K w w' := by
 rcases h with ⟨hk, ⟨h, _⟩ | ⟨_, h1, h2⟩⟩
 ·exact absurd h hE
 ·exact ⟨h1, h2, hk⟩
end
def aiF (q : Nat) (v : Value) (d c : Nat) (m : Mrk) : List Value := [ptr q, .int .i64 (d : Int), .int .u64 (c : Int), .int .u64 (m.id : Int), .int .i64 m.ring, .int .u64 (m.first : Int), .int .u64 (m.pos : Int), v]
def i7 (q : Nat) (v : Value) (x : LgS) : List Value := [ptr q, .int .i64 (x.d : Int), .int .u64 (x.cnt : Int), .int .u64 (x.own : Int), .int .i64 (x.size : Int), .int .u64 (x.fst : Int), .int .u64 (x.pos : Int), v]
def LgS.mark (x : LgS) : Mrk := ⟨x.own, (x.size : Int), x.fst, x.pos⟩
structure PLg (w : World) (p q : Nat) (v : Value) (x : LgS) : Prop where
 at_ : w.heap[p]? = some (.cells (i7 q v x).toArray 97 (0, 0))
 row : aO bi w 0 v x.nts
section
variable {w w' : World} {p q : Nat} {v : Value} {x : LgS} {G : Nat -> Prop}
theorem PLg.lt (h : PLg w p q v x) : ∀ b, cp p v b -> b < w.heap.size := by
 intro b hb;rcases hb with rfl | hb
 ·exact aR h.at_
 ·exact h.row.ie b hb
theorem PLg.only (h : PLg w p q v x) (ho : Only G w w') (hn : ∀ b, cp p v b -> ¬ G b) : PLg w' p q v x := ⟨ho.keep h.at_ (hn p (.inl rfl)), h.row.only ho fun b hb => hn b (.inr hb)⟩
theorem PLg.below (h : PLg w p q v x) (hb : Below w.heap.size w w') : PLg w' p q v x := h.only (Only.of_below (fun _ => False) hb) fun _ _ e => e
theorem PLg.vG (h : PLg w p q v x) : v.ownBlock ≠ some p := h.row.dl h.at_ (by decide)
theorem PLg.rng (h : PLg w p q v x) : w.rangeAt p 0 (i7 q v x) := dW h.at_
theorem PLg.c0 (h : PLg w p q v x) : w.cell? ⟨p, 0, none⟩ = some (.pointer (some ⟨q, 0, none⟩)) := h.rng 0 _ rfl
theorem PLg.c1 (h : PLg w p q v x) : w.cell? ⟨p, 1, none⟩ = some (.int .i64 (x.d : Int)) := h.rng 1 _ rfl
theorem PLg.c2 (h : PLg w p q v x) : w.cell? ⟨p, 2, none⟩ = some (.int .u64 (x.cnt : Int)) := h.rng 2 _ rfl
theorem PLg.c3 (h : PLg w p q v x) : w.cell? ⟨p, 3, none⟩ = some (.int .u64 (x.own : Int)) := h.rng 3 _ rfl
theorem PLg.c4 (h : PLg w p q v x) : w.cell? ⟨p, 4, none⟩ = some (.int .i64 (x.size : Int)) := h.rng 4 _ rfl
theorem PLg.c5 (h : PLg w p q v x) : w.cell? ⟨p, 5, none⟩ = some (.int .u64 (x.fst : Int)) := h.rng 5 _ rfl
theorem PLg.c6 (h : PLg w p q v x) : w.cell? ⟨p, 6, none⟩ = some (.int .u64 (x.pos : Int)) := h.rng 6 _ rfl
theorem PLg.c7 (h : PLg w p q v x) : w.cell? ⟨p, 7, none⟩ = some (v) := h.rng 7 _ rfl
theorem PLg.yD (h : PLg w p q v x) (j : Nat) : w.frozen? ⟨p, j, none⟩ = false := frozen_of_row w p j _ _ h.at_
theorem PLg.slice (h : PLg w p q v x) : ∃ A c, v = .slice A x.nts.length c /\ x.nts.length <= c /\ c <= maxLen := h.row.form
theorem mp : (Instr.fieldAt 97 (.pointer (some ⟨p, 0, none⟩)) 0).run prog w = .ok (.pointer (some ⟨p, 0, none⟩)) w := by kernel_rfl
theorem m3 : (Instr.fieldAt 97 (.pointer (some ⟨p, 0, none⟩)) 1).run prog w = .ok (.pointer (some ⟨p, 1, none⟩)) w := by kernel_rfl
theorem vj : (Instr.fieldAt 97 (.pointer (some ⟨p, 0, none⟩)) 2).run prog w = .ok (.pointer (some ⟨p, 2, none⟩)) w := by kernel_rfl
theorem gd : (Instr.fieldAt 97 (.pointer (some ⟨p, 0, none⟩)) 3).run prog w = .ok (.pointer (some ⟨p, 3, none⟩)) w := by kernel_rfl
theorem kQ : (Instr.fieldAt 97 (.pointer (some ⟨p, 0, none⟩)) 4).run prog w = .ok (.pointer (some ⟨p, 7, none⟩)) w := by kernel_rfl
theorem yc : (Instr.fieldAt 95 (.pointer (some ⟨p, 3, none⟩)) 1).run prog w = .ok (.pointer (some ⟨p, 4, none⟩)) w := by kernel_rfl
theorem mI : (Instr.fieldAt 95 (.pointer (some ⟨p, 3, none⟩)) 2).run prog w = .ok (.pointer (some ⟨p, 5, none⟩)) w := by kernel_rfl
theorem acf : (Instr.fieldAt 95 (.pointer (some ⟨p, 3, none⟩)) 3).run prog w = .ok (.pointer (some ⟨p, 6, none⟩)) w := by kernel_rfl
theorem sJ {ad : Addr} {a : Option Addr} (h : w.cell? ad = some (.pointer a)) : (Instr.loadAt 24 (.pointer (some ad))).run prog w = .ok (.pointer a) w := by simp [go_sem, h]
theorem aaE {ad : Addr} {a : Option Addr} (h : w.cell? ad = some (.pointer a)) : (Instr.loadAt 29 (.pointer (some ad))).run prog w = .ok (.pointer a) w := by simp [go_sem, h]
theorem PLg.mrk (h : PLg w p q v x) : w.rangeAt p 3 (bJ x.mark) := fun j u hj => by
 have hj4 : j < 4 := by have := (List.getElem?_eq_some_iff.1 hj).1; rwa [n7] at this
 match j, hj4 with
 |0, _ => rw [<- hj]; exact h.c3
 |1, _ => rw [<- hj]; exact h.c4
 |2, _ => rw [<- hj]; exact h.c5
 |3, _ => rw [<- hj]; exact h.c6
end
def PJ (w0 : World) (H K : Nat -> Prop) (w : World) (p q : Nat) (v : Value) (M : aK) (x : LgS) : Prop :=
 ∃ G, bX.Bn w G q M /\ PLg w p q v x /\ (∀ b, cp p v b -> ¬ G b) /\ Only H w0 w /\ Grow w0 H (fun b => G b \/ cp p v b) /\ (∀ b, K b -> ¬ G b /\ b < w.heap.size) /\ TbG w0 H
section
variable {w0 w w' : World} {H K K' : Nat -> Prop} {p q : Nat} {v : Value} {M : aK} {x : LgS}
theorem PJ.log (h : PJ w0 H K w p q v M x) : PLg w p q v x := by obtain ⟨_, _, h, _⟩ := h; exact h
theorem PJ.tab (h : PJ w0 H K w p q v M x) : Tbs w := by obtain ⟨_, _, _, _, h, _, _, hT⟩ := h; exact hT.t.only h hT.off
theorem PJ.lt (h : PJ w0 H K w p q v M x) {b : Nat} (hb : K b) : b < w.heap.size := by obtain ⟨_, _, _, _, _, _, h, _⟩ := h; exact (h b hb).2
theorem PJ.start {G : Nat -> Prop} (hb : bX.Bn w G q M) (h : PLg w p q v x) (hd : ∀ b, cp p v b -> ¬ G b) (hT : TbG w (fun b => G b \/ cp p v b)) : PJ w (fun b => G b \/ cp p v b) (fun _ => False) w p q v M x :=
 ⟨G, hb, h, hd, Only.refl _ _, Grow.same _ _, fun _ e => e.elim, hT⟩
theorem PJ.guard (h : PJ w0 H K w p q v M x) (hb : Below w.heap.size w w') (hK : ∀ b, K' b -> K b \/ (w.heap.size <= b /\ b < w'.heap.size)) : PJ w0 H K' w' p q v M x := by
 obtain ⟨G, h1, h2, h3, h4, h5, h6, h7⟩ := h;have hlt := bX.lt h1;have hs := hb.size;refine ⟨G, bX.below h1 hb, h2.below hb, h3, h4.dF hb, h5, fun b e => ?_, h7⟩;rcases hK b e with e | ⟨e1, e2⟩
 ·obtain ⟨g1, g2⟩ := h6 b e;exact ⟨g1, by omega⟩
 ·exact ⟨fun hg => by have := hlt b hg; omega, e2⟩
theorem PJ.below (h : PJ w0 H K w p q v M x) (hb : Below w.heap.size w w') : PJ w0 H K w' p q v M x := h.guard hb fun b e => .inl e
theorem PJ.drew (h : PJ w0 H K w p q v M x) : PJ w0 H K w.drew p q v M x := h.below (bd ak)
theorem PJ.less (h : PJ w0 H K w p q v M x) (hK : ∀ b, K' b -> K b) : PJ w0 H K' w p q v M x := h.guard ak fun b e => .inl (hK b e)
theorem PJ.kept (h : PJ w0 H K w p q v M x) (hb : Below w.heap.size w w') : kept K w w' := fun b e => hb.block b (h.lt e)
theorem PJ.turn {G G' : Nat -> Prop} {M' : aK} (h1 : bX.Bn w G q M) (h2 : PLg w p q v x) (h3 : ∀ b, cp p v b -> ¬ G b) (h4 : Only H w0 w) (h5 : Grow w0 H (fun b => G b \/ cp p v b)) (h6 : ∀ b, K b -> ¬ G b /\ b < w.heap.size) (h7 : TbG w0 H)
  (k1 : bX.Bn w' G' q M') (k2 : Only G w w') (k3 : Grow w G G') : PJ w0 H K w' p q v M' x /\ Proofs.YtcpbekopbeaflaaGreatDoor.kept K w w' := by
 have hs := k2.size;have hs0 := h4.size;refine ⟨⟨G', k1, h2.only k2 h3, fun b hb hg => ?_, h4.trans k2 fun b hb => h5 b (.inl hb), fun b hb => ?_, fun b hb => ?_, h7⟩, fun b hb => k2.block b (h6 b hb).2 (h6 b hb).1⟩
 ·rcases k3 b hg with e | e
  ·exact h3 b hb e
  ·have := h2.lt b hb; omega
 ·rcases hb with hb | hb
  ·rcases k3 b hb with e | e
   ·exact h5 b (.inl e)
   ·exact .inr (by omega)
  ·exact h5 b (.inr hb)
 ·obtain ⟨g1, g2⟩ := h6 b hb;refine ⟨fun hg => ?_, by omega⟩;rcases k3 b hg with e | e
  ·exact g1 e
  ·omega
theorem PJ.write (d n : Int) (b : Blk) (hr : Room M 1) (h : PJ w0 H K w p q v M x) : Calls prog 121 #[.pointer (some ⟨q, 0, none⟩), .int .i64 d, .int .i64 n, blk b] w fun e w' => e = .returned (.int .i64 (f9 M d n)) /\ PJ w0 H K w' p q v (eS M d n b) x /\ Proofs.YtcpbekopbeaflaaGreatDoor.kept K w w' := by
 obtain ⟨G, h1, h2, h3, h4, h5, h6, h7⟩ := h;exact (bX.write d n b hr h1).mono fun e w' ⟨k0, G', k1, k2, k3⟩ => ⟨k0, PJ.turn h1 h2 h3 h4 h5 h6 h7 k1 k2 k3⟩
theorem PJ.flush (d : Int) (hr : Room M 1) (h : PJ w0 H K w p q v M x) : Calls prog 118 #[.pointer (some ⟨q, 0, none⟩), .int .i64 d] w fun e w' => e = .returned (.int .i64 (fM M d)) /\ PJ w0 H K w' p q v (eJ M d) x /\ Proofs.YtcpbekopbeaflaaGreatDoor.kept K w w' := by
 obtain ⟨G, h1, h2, h3, h4, h5, h6, h7⟩ := h;exact (bX.flush d hr h1).mono fun e w' ⟨k0, G', k1, k2, k3⟩ => ⟨k0, PJ.turn h1 h2 h3 h4 h5 h6 h7 k1 k2 k3⟩
theorem PJ.read (d n : Int) (h : PJ w0 H K w p q v M x) : Calls prog 104 #[.pointer (some ⟨q, 0, none⟩), .int .i64 d, .int .i64 n] w fun e w' => e = .returned (.tuple #[blk (df M d n), .int .i64 (cM M d n)]) /\ Below w.heap.size w w' := by
 obtain ⟨G, h1, _⟩ := h;exact bX.read d n h1
end
theorem PJ.grow {w0 w w3 : World} {H K : Nat -> Prop} {p q : Nat} {v v' : Value} {M : aK} {x x' : LgS} (h : PJ w0 H K w p q v M x) (ho : Only (cp p v) w w3) (hl : PLg w3 p q v' x') (hv : ∀ b, v'.ownBlock = some b -> v.ownBlock = some b \/ w.heap.size <= b) : PJ w0 H (fun _ => False) w3 p q v' M x' := by
 obtain ⟨G, h1, h2, h3, h4, h5, h6, h7⟩ := h;have hlt := bX.lt h1;have hs := h4.size;refine ⟨G, bX.only h1 ho fun b hg e => h3 b e hg, hl, fun b hb' hg => ?_, h4.trans ho fun b e => h5 b (.inr e), fun b hb' => ?_, fun _ e => e.elim, h7⟩
 ·rcases hb' with rfl | e
  ·exact h3 _ (.inl rfl) hg
  ·rcases hv b e with e | e
   ·exact h3 b (.inr e) hg
   ·have := hlt b hg; omega
 ·rcases hb' with hg | rfl | e
  ·exact h5 b (.inl hg)
  ·exact h5 b (.inr (.inl rfl))
  ·rcases hv b e with e | e
   ·exact h5 b (.inr (.inr e))
   ·exact .inr (by omega)
theorem yx {r t h n : Int} : aa0 r t h n = true ↔ iw r t h = true /\ 0 <= n := by unfold aa0; exact decide_eq_true_iff
theorem aeL {r t h n : Int} : aaa r t h n = true ↔ n <= r - (h - t) /\ h + n <= 4611686018427387904 := by unfold aaa; exact decide_eq_true_iff
theorem abM {r t h n : Int} (hm : ¬(iw r t h = true /\ 0 <= n)) : xv r t h n = 0 /\ uL r t h n = 2 := by
 have : aa0 r t h n = false := by unfold aa0; exact am hm
 unfold xv uL; rw [this]; exact ⟨rfl, rfl⟩
theorem pi {r t h n : Int} (hm : iw r t h = true) (h0 : 0 <= n) (hr : ¬(n <= r - (h - t) /\ h + n <= 4611686018427387904)) : xv r t h n = 0 /\ uL r t h n = 10 := by
 have e1 : aaa r t h n = false := by unfold aaa; exact am hr
 unfold xv uL; rw [yx.2 ⟨hm, h0⟩, e1]; exact ⟨rfl, rfl⟩
theorem acx {r t h n : Int} (hm : iw r t h = true) (h0 : 0 <= n) (hr : n <= r - (h - t) /\ h + n <= 4611686018427387904) : xv r t h n = h + n /\ uL r t h n = 0 := by
 unfold xv uL; rw [yx.2 ⟨hm, h0⟩, aeL.2 hr]; exact ⟨rfl, rfl⟩
theorem akE (r t h n : Int) (w : World) (ht0 : 0 <= t) (ht1 : t <= 18446744073709551615) (hh0 : 0 <= h) (hh1 : h <= 18446744073709551615) (hn : n <= 9223372036854775807) : Calls prog 140 #[.int .i64 r, .int .u64 t, .int .u64 h, .int .i64 n] w fun e w' => e = .returned (.tuple #[.int .u64 (xv r t h n), .int .i64 (uL r t h n)]) /\ w = w' := by
 go_enter func140, ntmps140;go_wp2_with fail;refine (ajl r t h w ht0 ht1 hh0 hh1).mono ?_;rintro e w1 ⟨rfl, rfl⟩;cases hm : iw r t h
 ·have hs := af (abM (r := r) (t := t) (h := h) (n := n) (by rw [hm]; simp));rw [(ta hm).1, (ta hm).2];clear hm;go_wp2;go_ret2;exact ⟨fB hs.out, rfl⟩
 ·have HM := af hm;obtain ⟨g1, g2, g3, g4, g5⟩ := fX.1 hm;rw [(sH hm).1, (sH hm).2];clear hm;by_cases h0 : 0 <= n
  ·by_cases hf : n <= r - (h - t)
   ·by_cases ha : h + n <= 4611686018427387904
    ·have hs := af (acx HM h0 ⟨hf, ha⟩);go_wp2_with fail;refine (mX h w hh0 g4).mono ?_;rintro e w1 ⟨rfl, rfl⟩;go_wp2;go_ret2;exact ⟨fB ⟨hs.out.1.trans (by omega), hs.out.2⟩, rfl⟩
    ·have hs := af (pi HM h0 (fun x => ha x.2));go_wp2_with fail;refine (mX h w hh0 g4).mono ?_;rintro e w1 ⟨rfl, rfl⟩;go_wp2;go_ret2;exact ⟨fB hs.out, rfl⟩
   ·have hs := af (pi HM h0 (fun x => hf x.1));go_wp2;go_ret2;exact ⟨fB hs.out, rfl⟩
  ·have hs := af (abM (r := r) (t := t) (h := h) (n := n) (fun x => h0 x.2));go_wp2;go_ret2;exact ⟨fB hs.out, rfl⟩
theorem aij {w : World} {G : Nat -> Prop} {q : Nat} {M : aK} (d : Int) (hb : bD.Bn w G q M) : Calls prog 56 #[.pointer (some ⟨q, 0, none⟩), .int .i64 d] w fun e w' => e = .returned (.bool (decide (d8 M d = 0))) /\ w = w' := by
 obtain ⟨⟨v, Fs, ps, _, h⟩, _⟩ := hb;rcases dS M d with ⟨e, hn⟩ | ⟨e, k, rfl, hk⟩
 ·rw [e]; exact jE h hn
 ·rw [e]; exact jM h hk
theorem fY {w : World} {G : Nat -> Prop} {q : Nat} {M : aK} {d : Int} {t : Bool} (hb : bD.Bn w G q M) (h : decide (d8 M d = 0) = t) : Calls prog 56 #[.pointer (some ⟨q, 0, none⟩), .int .i64 d] w fun e w' => e = .returned (.bool t) /\ w = w' := by
 subst h; exact aij d hb
theorem qf {w : World} {G : Nat -> Prop} {q : Nat} {M : aK} (d : Int) (hb : bD.Bn w G q M) : Calls prog 32 #[.pointer (some ⟨q, 0, none⟩), .int .i64 d] w fun e w' => e = .returned (.int .i64 (cw M d)) /\ w = w' := by
 obtain ⟨⟨v, Fs, ps, _, h⟩, _⟩ := hb;exact rC d h
theorem xX {w : World} {G : Nat -> Prop} {q : Nat} {M : aK} (d : Int) (hb : bD.Bn w G q M) : 0 <= cw M d /\ cw M d <= 512 := by
 have hw := bD.wf hb;unfold cw;rcases dS M d with ⟨e, _⟩ | ⟨e, k, rfl, hk⟩
 ·rw [if_neg (by omega)]; omega
 ·rw [if_pos e, jU, Int.toNat_natCast];have := hw.len k hk;omega
theorem afL : er.length = 10 := rfl
theorem uO {i : Nat} (h : i < 10) : er.take (i + 1) = er.take i ++ [.wr (i : Int) aE] := by
 rw [List.take_add_one]
 congr 1
 unfold er;rw [List.getElem?_map, List.getElem?_range h]
 rfl
theorem ahe {d : Int} {M : aK} {i : Nat} (h : i < 10) (h0 : goE d M (er.take i) = 0) :
  goE d M (er.take (i + 1)) = f9 (goB d M (er.take i)) d (i : Int) /\ goB d M (er.take (i + 1)) = eS (goB d M (er.take i)) d (i : Int) aE := by
 rw [uO h, li, lj, if_pos h0, if_pos h0];by_cases e : f9 (goB d M (er.take i)) d (i : Int) = 0
 ·have := go_ok (d := d) (M := goB d M (er.take i)) (s := .wr (i : Int) aE) (l := []) e;exact ⟨this.1.trans e.symm, this.2⟩
 ·exact jj (s := .wr (i : Int) aE) (l := []) e
theorem aem {d : Int} {M : aK} {id : Nat} {r : Int} {i : Nat} (h : i < 10) (hE : goE d M (er.take (i + 1)) ≠ 0) : goE d M (jC id r) = goE d M (er.take (i + 1)) /\ goB d M (jC id r) = goB d M (er.take (i + 1)) := by
 have e : jC id r = er.take (i + 1) ++ (er.drop (i + 1) ++ (.fl :: mkT id r.toNat 1 1 0)) := by
  unfold jC;rw [<- List.append_assoc, List.take_append_drop]
 rw [e, li, lj, if_neg hE, if_neg hE];exact ⟨rfl, rfl⟩
theorem ahp {d : Int} {M : aK} {id : Nat} {r : Int} (h : goE d M er = 0) (hf : fM (goB d M er) d ≠ 0) : goE d M (jC id r) = fM (goB d M er) d /\ goB d M (jC id r) = eJ (goB d M er) d := by
 unfold jC;rw [li, lj, if_pos h, if_pos h];exact jj (s := .fl) hf
theorem ah9 {d : Int} {M : aK} {id : Nat} {r : Int} (h : goE d M er = 0) (hf : fM (goB d M er) d = 0) : goE d M (jC id r) = goE d (eJ (goB d M er) d) (mkT id r.toNat 1 1 0) /\ goB d M (jC id r) = goB d (eJ (goB d M er) d) (mkT id r.toNat 1 1 0) := by
 unfold jC;rw [li, lj, if_pos h, if_pos h];exact go_ok (s := .fl) hf
theorem mL {M : aK} {d : Int} {id : Nat} {r : Int} (h : ¬ (d8 M d = 0 /\ id ≠ 0 /\ 40 <= r /\ r <= 256 /\ 10 + r <= cw M d)) : i6 M d id r = 2 /\ jc M d id r = M := by
 have e : ¬ uX M d id r = true := fun e => h (of_decide_eq_true e)
 exact ⟨if_neg e, if_neg e⟩
theorem adE {M : aK} {d : Int} {id : Nat} {r : Int} (h : d8 M d = 0 /\ id ≠ 0 /\ 40 <= r /\ r <= 256 /\ 10 + r <= cw M d) : i6 M d id r = goE d M (jC id r) /\ jc M d id r = goB d M (jC id r) := by
 have e : uX M d id r = true := ao h;exact ⟨if_pos e, if_pos e⟩
section
variable {ρ : Operand -> Value} {o : Oper} {x1 x2 x3 x4 x5 x6 : Operand} {w : World} {q : Nat} {d r : Int} {id : Nat}
theorem vV : (Instr.build 59 #[(0, .pointer (some ⟨q, 0, none⟩)), (1, .int .i64 d), (2, .int .u64 (id : Int)), (3, .int .i64 r), (4, .int .u64 1), (5, .int .u64 1)]).run prog w = .ok (.agg #[.pointer (some ⟨q, 0, none⟩), .int .i64 d, .int .u64 (id : Int), .int .i64 r, .int .u64 1, .int .u64 1, .int .u64 0, .slice none 0 0]) w := by kernel_rfl
theorem tO (ho : o.op = .build 59 #[(0, x1), (1, x2), (2, x3), (3, x4), (4, x5), (5, x6)]) (h1 : ρ x1 = .pointer (some ⟨q, 0, none⟩)) (h2 : ρ x2 = .int .i64 d) (h3 : ρ x3 = .int .u64 (id : Int)) (h4 : ρ x4 = .int .i64 r) (h5 : ρ x5 = .int .u64 1) (h6 : ρ x6 = .int .u64 1) :
  (execOp ρ o).run prog w = .ok (.value (.agg #[.pointer (some ⟨q, 0, none⟩), .int .i64 d, .int .u64 (id : Int), .int .i64 r, .int .u64 1, .int .u64 1, .int .u64 0, .slice none 0 0])) w := by
 unfold execOp;simp only [ho, h1, h2, h3, h4, h5, h6, List.map_toArray, List.map_cons, List.map_nil, Sem.run_bind, vV, Result.andThen_ok, Sem.run_pure]
theorem qg {q : Nat} {v : Value} {x : LgS} {y : Operand} (ho : o.op = .box 59 y) (hx : ρ y = .agg (jq q v x).toArray) : (execOp ρ o).run prog w = .ok (.value (.pointer (some ⟨w.heap.size, 0, none⟩))) (w.alloc (.cells (jq q v x).toArray 59)) := fN ho hx
end
theorem RJ.first {w : World} {G : Nat -> Prop} {q : Nat} {M : aK} {x : LgS} (hb : bD.Bn w G q M) (hx : x.nts = []) :
  RJ (w.alloc (.cells (jq q (.slice none 0 0) x).toArray 59)) (fun b => G b \/ cp w.heap.size (.slice none 0 0) b) (fun _ => False) (w.alloc (.cells (jq q (.slice none 0 0) x).toArray 59)) w.heap.size q (.slice none 0 0) M x := by
 have hlt := bD.lt hb;have h1 := bD.below hb (ak.alloc aj (.cells (jq q (.slice none 0 0) x).toArray 59));refine RJ.start h1 ⟨heap_alloc_new w _, by rw [hx]; exact aO.nil _ _⟩ fun b hb hg => ?_
 have := hlt b hg;rcases hb with rfl | e
 ·omega
 ·simp [Value.ownBlock] at e
def ir (w : World) (G : Nat -> Prop) (q : Nat) (E : Int) (M' : aK) (x : LgS) (e : Ending) (w' : World) : Prop :=
 ∃ G', bD.Bn w' G' q M' /\ Only G w w' /\ Grow w G G' /\
  ((E = 0 /\ ∃ p v, e = .returned (.tuple #[.pointer (some ⟨p, 0, none⟩), .int .i64 0]) /\ RLg w' p q v x /\ ∀ b, cp p v b -> ¬ G' b /\ w.heap.size <= b) \/ (E ≠ 0 /\ e = .returned (.tuple #[.pointer none, .int .i64 E])))
theorem ir.same {w w' : World} {G : Nat -> Prop} {q : Nat} {E : Int} {M : aK} {x : LgS} {e : Ending} (hb : bD.Bn w G q M) (hw : Below w.heap.size w w') (hE : E ≠ 0) (he : e = .returned (.tuple #[.pointer none, .int .i64 E])) : ir w G q E M x e w' :=
 ⟨G, bD.below hb hw, Only.of_below _ hw, Grow.same _ _, .inr ⟨hE, he⟩⟩
theorem ir.of {w w1 w' : World} {G H K : Nat -> Prop} {p q : Nat} {v v0 : Value} {M' : aK} {x : LgS} {E : Int} {e : Ending} (hb : Below w.heap.size w w1) (hH : ∀ b, H b -> G b \/ cp p v0 b) (hp : ∀ b, cp p v0 b -> w.heap.size <= b) (h : RJ w1 H K w' p q v M' x) (hG : ∀ b, G b -> b < w.heap.size) (hpv : p < w1.heap.size)
  (hE : (E = 0 /\ e = .returned (.tuple #[.pointer (some ⟨p, 0, none⟩), .int .i64 0])) \/ (E ≠ 0 /\ e = .returned (.tuple #[.pointer none, .int .i64 E]))) (hv : ∀ b, v.ownBlock = some b -> w.heap.size <= b) : ir w G q E M' x e w' := by
 obtain ⟨G', h1, h2, h3, h4, h5, _⟩ := h;have hs := hb.size;have hpw : w.heap.size <= p := hp p (.inl rfl);refine ⟨G', h1, (Only.of_below G hb).trans h4 fun b hb => ?_, fun b hb => ?_, ?_⟩
 ·rcases hH b hb with e | e
  ·exact .inl e
  ·exact .inr (hp b e)
 ·rcases h5 b (.inl hb) with e | e
  ·rcases hH b e with e | e
   ·exact .inl e
   ·exact .inr (hp b e)
  ·exact .inr (by omega)
 ·rcases hE with ⟨e1, e2⟩ | ⟨e1, e2⟩
  ·refine .inl ⟨e1, p, v, e2, h2, fun b hb => ⟨h3 b hb, ?_⟩⟩;rcases hb with rfl | e
   ·exact hpw
   ·exact hv b e
  ·exact .inr ⟨e1, e2⟩
theorem ajW {w : World} {G : Nat -> Prop} {q : Nat} {M : aK} (d : Int) (id : Nat) (r : Int) (hb : bD.Bn w G q M) (hr : Room M 13) (hid : id < 18446744073709551616) :
  Calls prog 15 #[.pointer (some ⟨q, 0, none⟩), .int .i64 d, .int .u64 (id : Nat), .int .i64 r] w (ir w G q (i6 M d id r) (jc M d id r) (mT d id r)) := by
 have HB := af hb;have HLT := af (bD.lt hb);have HR := af hr;obtain ⟨s1, s2⟩ := xX d hb;by_cases k0 : d8 M d = 0
 ·have H0 : Hid (decide (d8 M d = 0) = true) := af (ao k0);by_cases k1 : id = 0
  ·have H1 : Hid (((id : Int) == 0) = true) := af (by rw [k1]; rfl);obtain ⟨g1, g2⟩ := mL (M := M) (d := d) (id := id) (r := r) (by omega);rw [g2];have HQE := af g1;have HNE : Hid (i6 M d id r ≠ 0) := af (by rw [g1]; decide);clear g1 g2;clear k0 k1 s1 s2 hb hr hid;go_enter func15, ntmps15;go_upto_region 1 with fail;refine aY 2 ?_;refine aD rfl (aC call56 rfl (evc alb (evc alb evn))) ?_;refine (fY HB H0).mono ?_;rintro e w' ⟨rfl, rfl⟩;refine bp ?_;refine runs 3 ?_;refine ak8 (aN true rfl alb evk H1) ?_;refine runs 1 ?_;refine aI 2 rfl (aB rfl alb) (by kernel_rfl) ?_;simp only [aP, ae, aa];refine runs 1 ?_;refine aI 2 rfl (aB rfl alb) (by kernel_rfl) ?_;simp only [aP, ae, aa];refine runs 1 ?_;refine aI 6 rfl (aB rfl alb) (by kernel_rfl) ?_;simp only [aP, ae, aa];refine aQ 1 ?_;go_wp2_with fail;go_ret2;exact ir.same HB ak HNE (by rw [HQE.out]; rfl)
  ·have H1 : Hid (((id : Int) == 0) = false) := af (by simpa using k1);by_cases k2 : r < 40
   ·have H2 : Hid (decide (r < (40 : Int)) = true) := af (ao k2);obtain ⟨g1, g2⟩ := mL (M := M) (d := d) (id := id) (r := r) (by omega);rw [g2];have HQE := af g1;have HNE : Hid (i6 M d id r ≠ 0) := af (by rw [g1]; decide);clear g1 g2;clear k0 k1 k2 s1 s2 hb hr hid;go_enter func15, ntmps15;go_upto_region 1 with fail;refine aY 2 ?_;refine aD rfl (aC call56 rfl (evc alb (evc alb evn))) ?_;refine (fY HB H0).mono ?_;rintro e w' ⟨rfl, rfl⟩;refine bp ?_;refine runs 3 ?_;refine ak8 (aN false rfl alb evk H1) ?_;refine runs 3 ?_;refine ak8 (a8 true rfl alb evk H2) ?_;refine runs 1 ?_;refine aI 2 rfl (aB rfl alb) (by kernel_rfl) ?_;simp only [aP, ae, aa];refine runs 1 ?_;refine aI 6 rfl (aB rfl alb) (by kernel_rfl) ?_;simp only [aP, ae, aa];refine aQ 1 ?_;go_wp2_with fail;go_ret2;exact ir.same HB ak HNE (by rw [HQE.out]; rfl)
   ·have H2 : Hid (decide (r < (40 : Int)) = false) := af (am k2);by_cases k3 : (256 : Int) < r
    ·have H3 : Hid (decide ((256 : Int) < r) = true) := af (ao k3);obtain ⟨g1, g2⟩ := mL (M := M) (d := d) (id := id) (r := r) (by omega);rw [g2];have HQE := af g1;have HNE : Hid (i6 M d id r ≠ 0) := af (by rw [g1]; decide);clear g1 g2;clear k0 k1 k2 k3 s1 s2 hb hr hid;go_enter func15, ntmps15;go_upto_region 1 with fail;refine aY 2 ?_;refine aD rfl (aC call56 rfl (evc alb (evc alb evn))) ?_;refine (fY HB H0).mono ?_;rintro e w' ⟨rfl, rfl⟩;refine bp ?_;refine runs 3 ?_;refine ak8 (aN false rfl alb evk H1) ?_;refine runs 3 ?_;refine ak8 (a8 false rfl alb evk H2) ?_;refine runs 3 ?_;refine ak8 (bM true rfl alb evk H3) ?_;refine runs 1 ?_;refine aI 6 rfl (aB rfl alb) (by kernel_rfl) ?_;simp only [aP, ae, aa];refine aQ 1 ?_;go_wp2_with fail;go_ret2;exact ir.same HB ak HNE (by rw [HQE.out]; rfl)
    ·have H3 : Hid (decide ((256 : Int) < r) = false) := af (am k3);have H5 : Hid (IntKind.i64.wrap (10 + r) = 10 + r) := af (IntWalk.i64_in _ ⟨by omega, by omega⟩);by_cases k4 : cw M d < 10 + r
     ·have H4 : Hid (decide (cw M d < 10 + r) = true) := af (ao k4);obtain ⟨g1, g2⟩ := mL (M := M) (d := d) (id := id) (r := r) (by omega);rw [g2];have HQE := af g1;have HNE : Hid (i6 M d id r ≠ 0) := af (by rw [g1]; decide);clear g1 g2;clear k0 k1 k2 k3 k4 s1 s2 hb hr hid;go_enter func15, ntmps15;go_upto_region 1 with fail;refine aY 2 ?_;refine aD rfl (aC call56 rfl (evc alb (evc alb evn))) ?_;refine (fY HB H0).mono ?_;rintro e w' ⟨rfl, rfl⟩;refine bp ?_;refine runs 3 ?_;refine ak8 (aN false rfl alb evk H1) ?_;refine runs 3 ?_;refine ak8 (a8 false rfl alb evk H2) ?_;refine runs 3 ?_;refine ak8 (bM false rfl alb evk H3) ?_;refine runs 3 ?_;refine runs 1 ?_;refine aD akW (aC call32 rfl (evc alb (evc alb evn))) ?_;refine (qf _ HB).mono ?_;rintro e w' ⟨rfl, rfl⟩;refine bp ?_;refine runs 1 ?_;refine ak8 (cQ rfl evk alb H5) ?_;refine ak8 (a8 true rfl alb alb H4) ?_;refine aQ 1 ?_;go_wp2_with fail;go_ret2;exact ir.same HB ak HNE (by rw [HQE.out]; rfl)
     ·have H4 : Hid (decide (cw M d < 10 + r) = false) := af (am k4);obtain ⟨g1, g2⟩ := adE (M := M) (d := d) (id := id) (r := r) ⟨k0, k1, by omega, by omega, by omega⟩;obtain ⟨D, rfl⟩ : ∃ D : Nat, d = (D : Int) := by
       rcases dS M d with ⟨e, _⟩ | ⟨_, k, e, _⟩
       ·omega
       ·exact ⟨k, e⟩
      obtain ⟨R, rfl⟩ : ∃ R : Nat, r = (R : Int) := ⟨r.toNat, by omega⟩;have hR : R <= 256 := by omega
      rw [g1, g2];have HX : Hid (mT (D : Int) id (R : Int) = ⟨D, id, R, 1, 1, 0, []⟩) := af (by unfold mT; rw [Int.toNat_natCast, Int.toNat_natCast]);have HJ1 := af (RJ.first (x := ⟨D, id, R, 1, 1, 0, []⟩) hb rfl);have HID := af hid;rw [HX.out];clear k0 k1 k2 k3 k4 s1 s2 hb hr hid g1 g2;go_enter func15, ntmps15;go_upto_region 1 with fail;refine aY 2 ?_;refine aD rfl (aC call56 rfl (evc alb (evc alb evn))) ?_;refine (fY HB H0).mono ?_;rintro e w' ⟨rfl, rfl⟩;refine bp ?_;refine runs 3 ?_;refine ak8 (aN false rfl alb evk H1) ?_;refine runs 3 ?_;refine ak8 (a8 false rfl alb evk H2) ?_;refine runs 3 ?_;refine ak8 (bM false rfl alb evk H3) ?_;refine runs 3 ?_;refine runs 1 ?_;refine aD akW (aC call32 rfl (evc alb (evc alb evn))) ?_;refine (qf _ HB).mono ?_;rintro e w' ⟨rfl, rfl⟩;refine bp ?_;refine runs 1 ?_;refine ak8 (cQ rfl evk alb H5) ?_;refine ak8 (a8 false rfl alb alb H4) ?_;refine aQ 1 ?_;go_upto_region 3 with fail;refine aY 3 ?_;refine runs 1 ?_;refine ak1 (tO rfl alb alb alb alb evk evk) ?_;refine ak1 (qg (q := q) (v := .slice none 0 0) (x := ⟨D, id, R, 1, 1, 0, []⟩) rfl alb) ?_;refine aQ 1 ?_;have HP : Hid (∀ b, cp w.heap.size (.slice none 0 0) b -> w.heap.size <= b) := af fun b hb => by
       rcases hb with rfl | e
       ·exact aj
       ·simp [Value.ownBlock] at e
      have HBW : Hid (Below w.heap.size w (w.alloc (.cells (jq q (.slice none 0 0) ⟨D, id, R, 1, 1, 0, []⟩).toArray 59))) := af (ak.alloc aj _);have HPV : Hid (w.heap.size < (w.alloc (.cells (jq q (.slice none 0 0) ⟨D, id, R, 1, 1, 0, []⟩).toArray 59)).heap.size) := af (by rw [World.size_alloc]; omega);generalize hw1 : w.alloc (.cells (jq q (.slice none 0 0) ⟨D, id, R, 1, 1, 0, []⟩).toArray 59) = w1 at *;obtain ⟨H, hH⟩ : ∃ H : Nat -> Prop, (fun b => G b \/ cp w.heap.size (.slice none 0 0) b) = H := ⟨_, rfl⟩;have HHH : Hid (∀ b, H b -> G b \/ cp w.heap.size (.slice none 0 0) b) := af fun b hb => by rw [<- hH] at hb; exact hb
      rw [hH] at HJ1;clear hw1 hH;have HEND : Hid (∀ (E : Int) M' e w', RJ w1 H (fun _ => False) w' w.heap.size q (.slice none 0 0) M' ⟨D, id, R, 1, 1, 0, []⟩ -> ((E = 0 /\ e = .returned (.tuple #[.pointer (some ⟨w.heap.size, 0, none⟩), .int .i64 0])) \/ (E ≠ 0 /\ e = .returned (.tuple #[.pointer none, .int .i64 E]))) -> ir w G q E M' ⟨D, id, R, 1, 1, 0, []⟩ e w') :=
       af fun E M' e w' hj hE => ir.of HBW HHH HP hj HLT HPV hE (fun b e => by simp [Value.ownBlock] at e)
      clear HBW HHH HP HPV HB HLT;obtain ⟨p, hp⟩ : ∃ p, w.heap.size = p := ⟨_, rfl⟩;rw [hp] at HJ1 HEND ⊢;clear hp;go_wp2_with fail
      go_loopw [11, 12] (fun i e12 wr => ∃ j : Nat, j <= 10 /\ i = .int .i64 (j : Int) /\ goE (D : Int) M (er.take j) = 0 /\ RJ w1 H (fun _ => False) wr p q (.slice none 0 0) (goB (D : Int) M (er.take j)) ⟨D, id, R, 1, 1, 0, []⟩) (fun i _ _ => 10 - (intOf i).toNat)
      case atStart => exact ⟨0, by omega, rfl, rfl, HJ1⟩
      case round =>
       obtain ⟨j, hj10, rfl, he0, hjj⟩ := hrel;have HJ := af hjj;have HE0 := af he0;clear hjj he0 HJ1;by_cases hlt : j < 10
       ·obtain ⟨z1, z2⟩ := ahe hlt HE0;have HZ1 := af z1;have HZ2 := af z2;have HRM : Hid (Room (goB (D : Int) M (er.take j)) 1) := af (by
         have := lx (d := (D : Int)) (k := 3 + (10 - j)) (er.take j) (M := M) (by rw [List.length_take, afL, Nat.min_eq_left (by omega)]; rw [show 3 + (10 - j) + j = 13 from by omega]; exact HR);have h1 : 1 <= 3 + (10 - j) := by omega
         clear z1 z2;generalize 3 + (10 - j) = n at *
         induction n with
         |zero => omega
         |succ n ih => exact (by
           rcases Nat.eq_zero_or_pos n with e | e
           ·subst e; exact this
           ·exact ih this.less e))
        have hji : (j : Int) < 10 := by omega
        clear z1 z2;go_wp2_with (first | (refine au rfl (ca (c := aE) (parts := []) rfl rfl) ?_) | fail);refine (RJ.write (D : Int) (j : Int) aE HRM HJ).mono ?_;rintro e w2 ⟨rfl, hj2, _⟩;rw [<- HZ1.out];rw [<- HZ2.out] at hj2;have HJ2 := af hj2;clear hj2 HJ;by_cases hE : goE (D : Int) M (er.take (j + 1)) = 0
        ·rw [hE];have HE := af hE;clear hE;go_wp2_with fail;go_roundw
         case rel => exact ⟨j + 1, by omega, by go_num, HE, HJ2⟩
         case measure => simp [intOf]; omega
        ·obtain ⟨y1, y2⟩ := aem (id := id) (r := (R : Int)) hlt hE;obtain ⟨E, hEE⟩ : ∃ E, goE (D : Int) M (er.take (j + 1)) = E := ⟨_, rfl⟩;rw [hEE] at hE y1 ⊢;have hne : (E != 0) = true := by simpa using hE
         have HNZ := af hE;have HY1 := af y1;have HY2 := af y2;clear hE y1 y2 hEE;go_wp2_with fail;go_ret2;rw [HY1.out, HY2.out];exact HEND.out E _ _ _ HJ2 (.inr ⟨HNZ, rfl⟩)
       ·have hj : j = 10 := by omega
        subst hj;clear hlt hj10;have hz : er.take 10 = er := rfl;rw [hz] at HE0 HJ;have HRM : Hid (Room (goB (D : Int) M er) 3) := af (lx (d := (D : Int)) (k := 3) er (M := M) HR);clear hz;go_wp2_with fail;refine (RJ.flush (D : Int) HRM.out.less.less HJ).mono ?_;rintro e w2 ⟨rfl, hj2, _⟩;have HJ2 := af hj2;clear hj2 HJ;by_cases hE : fM (goB (D : Int) M er) (D : Int) = 0
        ·obtain ⟨y1, y2⟩ := ah9 (id := id) (r := (R : Int)) HE0 hE;rw [hE];have HY1 := af y1;have HY2 := af y2;have HRM2 := af (yW HRM (D : Int));clear hE y1 y2 HRM;generalize eJ (goB (D : Int) M er) (D : Int) = M2 at *;go_wp2_with fail;refine (acH 1 1 0 HJ2 HRM2 (by omega) ⟨HID, by show 1 < _; omega, by show 0 < _; omega⟩).mono ?_;rintro e w3 ⟨rfl, hj3, _⟩;have HJ3 := af hj3;clear hj3 HJ2;rw [Int.toNat_natCast] at HY1 HY2;obtain ⟨M3, hM3⟩ : ∃ M3, goB (D : Int) M2 (mkT id R 1 1 0) = M3 := ⟨_, rfl⟩;obtain ⟨E, hEE⟩ : ∃ E, goE (D : Int) M2 (mkT id R 1 1 0) = E := ⟨_, rfl⟩;rw [hM3] at HJ3 HY2;rw [hEE] at HY1 ⊢;clear hEE hM3;by_cases hE : E = 0
         ·subst hE;go_wp2_with fail;go_ret2;rw [HY1.out, HY2.out];exact HEND.out 0 _ _ _ HJ3 (.inl ⟨rfl, rfl⟩)
         ·have hne : (E != 0) = true := by simpa using hE
          have HNZ := af hE;clear hE;go_wp2_with fail;go_ret2;rw [HY1.out, HY2.out];exact HEND.out E _ _ _ HJ3 (.inr ⟨HNZ, rfl⟩)
        ·obtain ⟨y1, y2⟩ := ahp (id := id) (r := (R : Int)) HE0 hE;obtain ⟨E, hEE⟩ : ∃ E, fM (goB (D : Int) M er) (D : Int) = E := ⟨_, rfl⟩;rw [hEE] at hE y1 ⊢;have hne : (E != 0) = true := by simpa using hE
         have HNZ := af hE;have HY1 := af y1;have HY2 := af y2;clear hE y1 y2 hEE;go_wp2_with fail;go_ret2;rw [HY1.out, HY2.out];exact HEND.out E _ _ _ HJ2 (.inr ⟨HNZ, rfl⟩)
 ·have H0 : Hid (decide (d8 M d = 0) = false) := af (am k0);obtain ⟨g1, g2⟩ := mL (M := M) (d := d) (id := id) (r := r) (by omega);rw [g2];have HQE := af g1;have HNE : Hid (i6 M d id r ≠ 0) := af (by rw [g1]; decide);clear g1 g2;clear k0 s1 s2 hb hr hid;go_enter func15, ntmps15;go_upto_region 1 with fail;refine aY 2 ?_;refine aD rfl (aC call56 rfl (evc alb (evc alb evn))) ?_;refine (fY HB H0).mono ?_;rintro e w' ⟨rfl, rfl⟩;refine bp ?_;refine runs 1 ?_;refine aI 2 rfl (aB rfl alb) (by kernel_rfl) ?_;simp only [aP, ae, aa];refine runs 1 ?_;refine aI 2 rfl (aB rfl alb) (by kernel_rfl) ?_;simp only [aP, ae, aa];refine runs 1 ?_;refine aI 2 rfl (aB rfl alb) (by kernel_rfl) ?_;simp only [aP, ae, aa];refine runs 1 ?_;refine aI 6 rfl (aB rfl alb) (by kernel_rfl) ?_;simp only [aP, ae, aa];refine aQ 1 ?_;go_wp2_with fail;go_ret2;exact ir.same HB ak HNE (by rw [HQE.out]; rfl)
end Go.Proofs.YtcpbekopbeaflaaGreatDoor
