import Derived.Test.YtehefifamaofkaaGreatDoorGlag
namespace Go.Proofs.YtehefifamaofkaaGreatDoor
set_option maxHeartbeats 8000000
open Go.Proofs.Tryz
open Go.RowKit
set_option linter.unusedVariables false
set_option maxRecDepth 100000
def setW (w : World) (b o : Nat) (v : Value) : World := w.setCell ⟨b, o, none⟩ v
def fI (w : World) (b : Nat) (x : Ros) : World := w.setCells b 0 (aS x)
section
variable {w w0 : World} {b k o : Nat} {v : Value} {x y : Ros}
theorem r6 {B : Nat} (h : Below B w0 w) (hb : B <= b) : Below B w0 (setW w b o v) := below_setCells h hb [v]
theorem xx (hne : k ≠ b) : (setW w b o v).heap[k]? = w.heap[k]? := heap_setCell_other w ⟨b, o, none⟩ k v hne
theorem oE : (fI w b x).heap.size = w.heap.size := (fB b _ 0 w).1
theorem ip {B : Nat} (h : Below B w0 w) (hb : B <= b) : Below B w0 (fI w b x) := below_setCells h hb _
theorem rF (hne : k ≠ b) : (fI w b x).heap[k]? = w.heap[k]? := ch b _ 0 w k hne
theorem jH (h : bQ w b y) : bQ (fI w b x) b x := by
 have h' : w.heap[b]? = some (.cells ([] ++ aS y ++ []).toArray 35 (0, 0)) := by rw [List.nil_append, List.append_nil]; exact h
 have := heap_put b 35 [] (aS x) (aS y) [] w (by rw [a9, a9]) h';rw [List.nil_append, List.append_nil] at this;exact this
theorem zf (x : Ros) {j : Nat} (hj : j < 16) (u : UInt8) : (aS x).set (3 + j) (.int .u8 (u.toNat : Int)) = aS (eN x j u) := by
 rw [fP x, fP (eN x j u), lj];have e1 : dr (eN x j u) = dr x := rfl;rw [e1, List.set_append_right _ _ (by simp [dr]), show 3 + j - (dr x).length = j from by simp [dr], List.set_append_left _ _ (by rw [bk]; simp; omega)];unfold vals;rw [List.map_set]
 rfl
theorem rh (x : Ros) (c : Int) : (aS x).set 19 (.int .i64 c) = aS (i8 x c) := by
 rw [fP x, fP (i8 x c)];have e1 : dr (i8 x c) = dr x := rfl;rw [e1, List.set_append_right _ _ (by simp [dr]), show 19 - (dr x).length = 16 from rfl, List.set_append_right _ _ (by rw [bk]; simp), show 16 - (vals x.st.toList).length = 0 from by rw [bk]; simp]
 rfl
theorem bQ.setW (h : bQ w b x) (hy : (aS x).set o v = aS y) : bQ (setW w b o v) b y := by
 have := heap_setCell_same w b o _ 35 v h;rw [List.setIfInBounds_toArray, hy] at this;exact this
theorem bQ.there (h : bQ w b x) {o n : Nat} (hn : o + n <= 21) : w.there b o n := aP h (by rw [a9]; exact hn)
end
section
variable {ρ : Operand -> Value} {o : Oper} {x y : Operand} {w : World} {b off : Nat} {c d : Ros}
theorem cX (ho : o.op = .store 35 x y) (hx : ρ x = .pointer (some ⟨b, 0, none⟩)) (hy : ρ y = ros c) (h : bQ w b d) : (execOp ρ o).run prog w = .ok .skip (fI w b c) :=
 dq (by rw [a9]; exact jT) (eV c) ho hx hy (by rw [a9]; exact h.there (by omega))
theorem xC (h : w.there b off 1) : ∃ v, w.cell? ⟨b, off, none⟩ = some v /\ w.frozen? ⟨b, off, none⟩ = false := by
 have := h 0 (by omega);rw [Nat.add_zero] at this;obtain ⟨h1, h2⟩ := this;obtain ⟨v, hv⟩ := Option.isSome_iff_exists.1 h1;exact ⟨v, hv, h2⟩
theorem kK {u : Int} (ho : o.op = .store 5 x y) (hx : ρ x = .pointer (some ⟨b, off, none⟩)) (hy : ρ y = .int .u8 u) (h : w.there b off 1) : (execOp ρ o).run prog w = .ok .skip (setW w b off (.int .u8 u)) := by
 obtain ⟨v, hc, hf⟩ := xC h;exact gB ho hx hy (by simp [go_sem, hc, hf, setW])
theorem qA {u : Int} (ho : o.op = .store 3 x y) (hx : ρ x = .pointer (some ⟨b, off, none⟩)) (hy : ρ y = .int .i64 u) (h : w.there b off 1) : (execOp ρ o).run prog w = .ok .skip (setW w b off (.int .i64 u)) := by
 obtain ⟨v, hc, hf⟩ := xC h;exact gB ho hx hy (by simp [go_sem, hc, hf, setW])
theorem aX (ho : o.op = .load 35 x) (hx : ρ x = .pointer (some ⟨b, 0, none⟩)) (h : bQ w b c) : (execOp ρ o).run prog w = .ok (.value (ros c)) w := bq ho hx h.range
theorem vO (w : World) : (Instr.build 35 #[]).run prog w = .ok (ros bK) w := by kernel_rfl
theorem tp (ho : o.op = .build 35 #[]) : (execOp ρ o).run prog w = .ok (.value (ros bK)) w := jA ho (vO w)
theorem nU {ad : Addr} {n : Bool} (h : w.cell? ad = some (.bool n)) : (Instr.loadAt 4 (.pointer (some ad))).run prog w = .ok (.bool n) w := by simp [go_sem, h]
theorem nV {b : Nat} : (Instr.fieldAt 35 (.pointer (some ⟨b, 0, none⟩)) 3).run prog w = .ok (.pointer (some ⟨b, 20, none⟩)) w := by kernel_rfl
theorem fJ {fn : Func} {p u : Tmp} (h : fn.results = #[.cell p 35, .tmp u]) (tmps : Array Value) (w : World) (b : Nat) (hp : tmps.getD p undef = .pointer (some ⟨b, 0, none⟩)) (hc : bQ w b c) :
  (results fn tmps).run prog w = .ok (.tuple #[ros c, tmps.getD u undef]) w := by
 have hl : (loadVar 35 ⟨b, 0, none⟩).run prog w = .ok (ros c) w := run_loadVar_mid w b 0 35 (aS c) _ hc.range underlying35 rfl (by rw [a9]; exact jT);have hp' : tmps[p]?.getD undef = .pointer (some ⟨b, 0, none⟩) := by simpa using hp
 simp [results, h, hp', asAddr, hl]
end
structure gJ (w0 w : World) (x y : Ros) : Prop where
 bel : Below w0.heap.size w0 w
 at0 : bQ w w0.heap.size x
 at1 : bQ w (w0.heap.size + 1) y
theorem gJ.new (w : World) (x : Ros) : gJ w ((w.alloc (.cells (aS x).toArray 35)).alloc (.cells (aS bK).toArray 35)) x bK := by
 refine ⟨((Below.refl _ w).alloc ai _).alloc (by simp) _, (bQ.new w x).past _, ?_⟩;have := bQ.new (w.alloc (.cells (aS x).toArray 35)) bK;rwa [World.size_alloc] at this
section
variable {w0 w w' : World} {x y z : Ros}
theorem gJ.call (h : gJ w0 w x y) (hb : Below w.heap.size w w') : gJ w0 w' x y :=
 ⟨h.bel.trans (hb.mono h.bel.size), h.at0.below (aY h.at0) hb, h.at1.below (aY h.at1) hb⟩
theorem gJ.put (h : gJ w0 w x y) (z : Ros) : gJ w0 (fI w (w0.heap.size + 1) z) x z :=
 ⟨ip h.bel (by omega), (rF (by omega)).trans h.at0, jH h.at1⟩
theorem gJ.set (h : gJ w0 w x y) {o : Nat} {v : Value} (hy : (aS x).set o v = aS z) : gJ w0 (setW w w0.heap.size o v) z y :=
 ⟨r6 h.bel ai, h.at0.setW hy, (xx (by omega)).trans h.at1⟩
end
set_option linter.unusedSimpArgs false
structure fS (w0 w : World) (x : Ros) : Prop where
 bel : Below w0.heap.size w0 w
 at0 : bQ w w0.heap.size x
theorem fS.new (w : World) (x : Ros) : fS w (w.alloc (.cells (aS x).toArray 35)) x := ⟨(dm w x).2.1, (dm w x).1⟩
theorem fS.call {w0 w w' : World} {x : Ros} (h : fS w0 w x) (hb : Below w.heap.size w w') : fS w0 w' x :=
 ⟨h.bel.trans (hb.mono h.bel.size), h.at0.below (aY h.at0) hb⟩
section
variable {x : Ros} {m : Int} {c : Int} {b : Bool} (w : World)
theorem iR (h : bn x = b) : Calls prog 66 #[ros x] w fun e w' => e = .returned (.bool b) /\ Below w.heap.size w w' := by subst h; exact ad9 x w
theorem dL (h : bn x = b) : Calls prog 24 #[ros x] w fun e w' => e = .returned (.bool b) /\ Below w.heap.size w w' := by subst h; exact adW x w
theorem jF (h : er x m = b) : Calls prog 87 #[ros x, .int .i64 m] w fun e w' => e = .returned (.bool b) /\ Below w.heap.size w w' := by subst h; exact o7 x m w
theorem jB (h : er x m = b) : Calls prog 70 #[ros x, .int .i64 m] w fun e w' => e = .returned (.bool b) /\ Below w.heap.size w w' := by subst h; exact zS x m w
end
def mb (M : aR) (x : Ros) : Nat -> Bool
 |0 => true
 |k + 1 => mb M x k && !decide (dG M (k : Int) < 2 + x.s)
def lI (M : aR) (id ev : Nat) (x : Ros) : Bool := !decide (id = 0) && (!decide (2305843009213693952 < ev) && (bn x && (decide ((M.ds.length : Int) = x.m + 1) && mb M x x.m.toNat)))
theorem uA {M : aR} {x : Ros} {i : Nat} (h : dG M (i : Int) < 2 + x.s) : ∀ {n : Nat}, i < n -> mb M x n = false
 |0, hi => absurd hi (by omega)
 |n + 1, hi => by
  rw [mb];by_cases e : i = n
  ·subst e; rw [am h]; simp
  ·rw [uA h (n := n) (by omega)]; rfl
theorem oh {M : aR} {x : Ros} {i : Nat} (h : mb M x i = true) (h' : ¬ dG M (i : Int) < 2 + x.s) : mb M x (i + 1) = true := by rw [mb, h, al h']; rfl
structure CrG (w : World) (G : Nat -> Prop) : Prop where
 t : Tab w
 off : ¬ G 0
structure pj where
 R : n6
 J : World -> (Nat -> Prop) -> Nat -> Nat -> HuS -> Prop
 lt : ∀ {w G q p h}, J w G q p h -> ∀ b, G b -> b < w.heap.size
 fin : ∀ {w G q p h}, J w G q p h -> bn h.R = true /\ h.id ≠ 0
 only : ∀ {w w' G F q p h}, J w G q p h -> Only F w w' -> (∀ b, G b -> ¬ F b) -> J w' G q p h
 ben : ∀ {w G q p h}, J w G q p h -> ∃ Gb, R.Bn w Gb q h.M /\ (∀ b, Gb b -> G b) /\ ∀ w' Gb' M', R.Bn w' Gb' q M' -> Only Gb w w' -> Grow w Gb Gb' -> ∃ G', J w' G' q p { h with M := M' } /\ Only G w w' /\ Grow w G G'
 new_ : ∀ {w G q M} (id ev : Nat) (x : Ros), id < 18446744073709551616 -> ev < 18446744073709551616 -> R.Bn w G q M -> Calls prog 27 #[.pointer (some ⟨q, 0, none⟩), .int .u64 (id : Int), .int .u64 (ev : Int), ros x] w fun e w' =>
  Below w.heap.size w w' /\ ((lI M id ev x = true /\ ∃ p G', e = .returned (.tuple #[.pointer (some ⟨p, 0, none⟩), .int .i64 0]) /\ J w' G' q p ⟨M, id, ev, x⟩ /\ ∀ b, G' b -> G b \/ w.heap.size <= b) \/ (lI M id ev x = false /\ e = .returned (.tuple #[.pointer none, .int .i64 2])))
 new_nil : ∀ (w : World) (id ev : Nat) (x : Ros), id < 18446744073709551616 -> ev < 18446744073709551616 -> Calls prog 27 #[.pointer none, .int .u64 (id : Int), .int .u64 (ev : Int), ros x] w fun e w' => e = .returned (.tuple #[.pointer none, .int .i64 1]) /\ Below w.heap.size w w'
 save : ∀ {w G q p h}, J w G q p h -> CrG w G -> Room h.M 600 -> h.ev <= 4611686018427387000 -> Calls prog 28 #[.pointer (some ⟨p, 0, none⟩)] w fun e w' => e = .returned (.int .i64 (ke h)) /\ ∃ G', (ke h = 0 -> J w' G' q p (iT h)) /\ Only G w w' /\ Grow w G G' /\ ∃ Gb, R.Bn w' Gb q (iT h).M /\ ∀ b, Gb b -> G' b
 adb : ∀ {w G q p h}, J w G q p h -> Calls prog 32 #[.pointer (some ⟨p, 0, none⟩)] w fun e w' => e = .returned (.int .u64 (h.ev : Int)) /\ Below w.heap.size w w'
 acH : ∀ {w G q p h}, J w G q p h -> Calls prog 29 #[.pointer (some ⟨p, 0, none⟩)] w fun e w' => e = .returned (ros h.R) /\ Below w.heap.size w w'
 No : World -> Value -> Prop
 zc : List Value
 zb : List Value
 no_nil : ∀ w : World, No w (.pointer none)
 bld0 : ∀ w : World, (Instr.build 112 #[]).run prog w = .ok (.agg zc.toArray) w
 bldB : ∀ w : World, (Instr.build 75 #[]).run prog w = .ok (.agg zb.toArray) w
 no_zero : ∀ w : World, No (w.alloc (.cells zc.toArray 112)) (.pointer (some ⟨w.heap.size, 0, none⟩))
 no_below : ∀ {w w' : World} {v : Value}, No w v -> Below w.heap.size w w' -> No w' v
 new_zero : ∀ (w : World) (b : Nat) (id ev : Nat) (x : Ros), w.heap[b]? = some (.cells zb.toArray 75 (0, 0)) -> id < 18446744073709551616 -> ev < 18446744073709551616 -> Calls prog 27 #[.pointer (some ⟨b, 0, none⟩), .int .u64 (id : Int), .int .u64 (ev : Int), ros x] w fun e w' => e = .returned (.tuple #[.pointer none, .int .i64 1]) /\ Below w.heap.size w w'
 no_save : ∀ (w : World) (v : Value) , No w v -> Calls prog 28 #[v] w fun e w' => e = .returned (.int .i64 1) /\ Below w.heap.size w w'
 no_event : ∀ (w : World) (v : Value) , No w v -> Calls prog 32 #[v] w fun e w' => e = .returned (.int .u64 0) /\ Below w.heap.size w w'
theorem pj.below (C : pj) {w w' : World} {G : Nat -> Prop} {q p : Nat} {h : HuS} (hj : C.J w G q p h) (k : Below w.heap.size w w') : C.J w' G q p h := C.only hj (Only.of_below (fun _ => False) k) fun _ _ e => e
structure lu (w0 : World) (B : Nat) : Prop where
 le : B <= w0.heap.size
 t : Tab w0
 lo : 0 < B
theorem lW {w : World} {b j : Nat} {v : Value} (h : w.cell? ⟨b, j, none⟩ = some v) : b < w.heap.size := by
 rcases Nat.lt_or_ge b w.heap.size with h' | h'
 ·exact h'
 ·have : w.heap[b]? = none := Array.getElem?_eq_none h';simp [World.cell?, this] at h
theorem lu.start {w : World} (h : Tab w) : lu w w.heap.size := ⟨ai, h, lW (h 0 (by omega))⟩
theorem lu.tab {w0 w : World} {B : Nat} (h : lu w0 B) (hb : Below B w0 w) : Tab w := fun i hi => (World.cell?_of_block (w := w0) (hb.block _ h.lo)).trans (h.t i hi)
def HAt (C : pj) (w0 : World) (B : Nat) (K : Nat -> Prop) (w : World) (q p : Nat) (h : HuS) : Prop := ∃ G, C.J w G q p h /\ (∀ b, G b -> B <= b) /\ Below B w0 w /\ lu w0 B /\ ∀ b, K b -> ¬ G b /\ b < w.heap.size
def dv (K : Nat -> Prop) (w w' : World) : Prop := ∀ b, K b -> w'.heap[b]? = w.heap[b]?
theorem dv.trans {K : Nat -> Prop} {w1 w2 w3 : World} (h : dv K w1 w2) (k : dv K w2 w3) : dv K w1 w3 := fun b e => (k b e).trans (h b e)
theorem dv.less {K K' : Nat -> Prop} {w1 w2 : World} (h : dv K w1 w2) (hK : ∀ b, K' b -> K b) : dv K' w1 w2 := fun b e => h b (hK b e)
theorem dv.at_ {K : Nat -> Prop} {w w' : World} {b : Nat} {o : Obj} (k : dv K w w') (hb : K b) (ho : w.heap[b]? = some o) : w'.heap[b]? = some o := (k b hb).trans ho
theorem dv.tW {K : Nat -> Prop} {w w' : World} {g : Nat} (ho : Only (fun b => b = g) w w') (hK : ∀ b, K b -> b ≠ g /\ b < w.heap.size) : dv K w w' := fun b e => ho.block b (hK b e).2 (hK b e).1
section
variable {C : pj} {w0 w w' : World} {B q p : Nat} {K K' : Nat -> Prop} {h h' : HuS}
theorem HAt.bel (a : HAt C w0 B K w q p h) : Below B w0 w := by obtain ⟨G, h1, h2, h3, _⟩ := a; exact h3
theorem HAt.guard (a : HAt C w0 B K w q p h) (k : Below w.heap.size w w') (hK : ∀ b, K' b -> K b \/ (w.heap.size <= b /\ b < w'.heap.size)) : HAt C w0 B K' w' q p h := by
 obtain ⟨G, h1, h2, h3, h4, h5⟩ := a;have hs := k.size;refine ⟨G, C.below h1 k, h2, h3.trans (k.mono (ap h4.le h3.size)), h4, fun b hb => ?_⟩;rcases hK b hb with e | ⟨e1, e2⟩
 ·obtain ⟨g1, g2⟩ := h5 b e;exact ⟨g1, by omega⟩
 ·exact ⟨fun hg => by have := C.lt h1 b hg; omega, e2⟩
theorem HAt.below (a : HAt C w0 B K w q p h) (k : Below w.heap.size w w') : HAt C w0 B K w' q p h := a.guard k fun b e => .inl e
theorem HAt.turn {G G' : Nat -> Prop} (h2 : ∀ b, G b -> B <= b) (h3 : Below B w0 w) (h4 : lu w0 B) (h5 : ∀ b, K b -> ¬ G b /\ b < w.heap.size) (k1 : C.J w' G' q p h') (k2 : Only G w w') (k3 : Grow w G G') : HAt C w0 B K w' q p h' /\ dv K w w' := by
 have hs := ap h4.le h3.size;have hs2 := k2.size;refine ⟨⟨G', k1, k3.above h2 hs, h3.trans (k2.below h2 hs), h4, fun b hb => ?_⟩, fun b hb => k2.block b (h5 b hb).2 (h5 b hb).1⟩;obtain ⟨g1, g2⟩ := h5 b hb;refine ⟨fun hg => ?_, by omega⟩;rcases k3 b hg with e | e
 ·exact g1 e
 ·omega
theorem lu.crg {G : Nat -> Prop} (h : lu w0 B) (hb : Below B w0 w) (hG : ∀ b, G b -> B <= b) : CrG w G := ⟨h.tab hb, fun e => by have := h.lo; have := hG _ e; omega⟩
theorem HAt.save (a : HAt C w0 B K w q p h) (hr : Room h.M 600) (he : h.ev <= 4611686018427387000) (hz : ke h = 0) : Calls prog 28 #[.pointer (some ⟨p, 0, none⟩)] w fun e w' => e = .returned (.int .i64 (ke h)) /\ HAt C w0 B K w' q p (iT h) /\ dv K w w' := by
 obtain ⟨G, h1, h2, h3, h4, h5⟩ := a;exact (C.save h1 (h4.crg h3 h2) hr he).mono fun e w' ⟨k0, G', k1, k2, k3, _⟩ => ⟨k0, HAt.turn h2 h3 h4 h5 (k1 hz) k2 k3⟩
theorem HAt.ben {I : FuncId} {vs : Array Value} {v : Value} {M' : aR} (a : HAt C w0 B K w q p h) (hc : ∀ {w F}, C.R.Bn w F q h.M -> Calls prog I vs w fun e w' => e = .returned v /\ ∃ F', C.R.Bn w' F' q M' /\ Only F w w' /\ Grow w F F') : Calls prog I vs w fun e w' => e = .returned v /\ HAt C w0 B K w' q p { h with M := M' } /\ dv K w w' := by
 obtain ⟨G, h1, h2, h3, h4, h5⟩ := a;obtain ⟨Gb, b1, b2, b3⟩ := C.ben h1;refine (hc b1).mono fun e w' ⟨he, F', k1, k2, k3⟩ => ?_
 obtain ⟨G', g1, g2, g3⟩ := b3 w' F' M' k1 k2 k3;exact ⟨he, HAt.turn h2 h3 h4 h5 g1 g2 g3⟩
end
def TwB {I J : tD} (R : Ben I) (Q : Ben J) (w0 : World) (B : Nat) (K : Nat -> Prop) (w : World) (p q : Nat) (M N : aR) : Prop := ∃ F G, R.Bn w F p M /\ Q.Bn w G q N /\ (∀ b, F b -> ¬ G b) /\ (∀ b, F b \/ G b -> B <= b) /\ Below B w0 w /\ lu w0 B /\ ∀ b, K b -> ¬ F b /\ ¬ G b /\ b < w.heap.size
section
variable {I J : tD} {R : Ben I} {Q : Ben J} {w0 w w' : World} {B p q : Nat} {K K' : Nat -> Prop} {M M' N N' : aR}
theorem TwB.bel (a : TwB R Q w0 B K w p q M N) : Below B w0 w := by obtain ⟨F, G, h1, h2, h3, h4, h5, _⟩ := a; exact h5
theorem TwB.bas (a : TwB R Q w0 B K w p q M N) : lu w0 B := by obtain ⟨F, G, h1, h2, h3, h4, h5, h6, _⟩ := a; exact h6
theorem TwB.le (a : TwB R Q w0 B K w p q M N) : B <= w.heap.size := ap a.bas.le a.bel.size
theorem TwB.tab (a : TwB R Q w0 B K w p q M N) : Tab w := a.bas.tab a.bel
theorem TwB.guard (a : TwB R Q w0 B K w p q M N) (k : Below w.heap.size w w') (hK : ∀ b, K' b -> K b \/ (w.heap.size <= b /\ b < w'.heap.size)) : TwB R Q w0 B K' w' p q M N := by
 have hle := a.le;obtain ⟨F, G, h1, h2, h3, h4, h5, h6, h7⟩ := a;have hs := k.size;refine ⟨F, G, R.below h1 k, Q.below h2 k, h3, h4, h5.trans (k.mono hle), h6, fun b hb => ?_⟩;rcases hK b hb with e | ⟨e1, e2⟩
 ·obtain ⟨g1, g2, g3⟩ := h7 b e;exact ⟨g1, g2, by omega⟩
 ·exact ⟨fun hf => by have := R.lt h1 b hf; omega, fun hf => by have := Q.lt h2 b hf; omega, e2⟩
theorem TwB.below (a : TwB R Q w0 B K w p q M N) (k : Below w.heap.size w w') : TwB R Q w0 B K w' p q M N := a.guard k fun b e => .inl e
theorem TwB.left {f : FuncId} {vs : Array Value} {v : Value} (a : TwB R Q w0 B K w p q M N) (hc : ∀ F, R.Bn w F p M -> Calls prog f vs w fun e w' => e = .returned v /\ ∃ F', R.Bn w' F' p M' /\ Only F w w' /\ Grow w F F') : Calls prog f vs w fun e w' => e = .returned v /\ TwB R Q w0 B K w' p q M' N /\ dv K w w' := by
 have hle := a.le;obtain ⟨F, G, h1, h2, h3, h4, h5, h6, h7⟩ := a;refine (hc F h1).mono fun e w' ⟨k0, F', k1, k2, k3⟩ => ?_
 have hs := k2.size;refine ⟨k0, ⟨F', G, k1, Q.only h2 k2 fun b hb hf => h3 b hf hb, fun b hf hg => ?_, fun b hb => ?_, h5.trans (k2.below (fun b e => h4 b (.inl e)) hle), h6, fun b hb => ?_⟩, fun b hb => k2.block b (h7 b hb).2.2 (h7 b hb).1⟩
 ·rcases k3 b hf with y | y
  ·exact h3 b y hg
  ·have := Q.lt h2 b hg; omega
 ·rcases hb with hb | hb
  ·rcases k3 b hb with y | y
   ·exact h4 b (.inl y)
   ·omega
  ·exact h4 b (.inr hb)
 ·obtain ⟨g1, g2, g3⟩ := h7 b hb;refine ⟨fun hf => ?_, g2, by omega⟩;rcases k3 b hf with y | y
  ·exact g1 y
  ·omega
theorem TwB.right {f : FuncId} {vs : Array Value} {v : Value} (a : TwB R Q w0 B K w p q M N) (hc : ∀ G, Q.Bn w G q N -> Calls prog f vs w fun e w' => e = .returned v /\ ∃ G', Q.Bn w' G' q N' /\ Only G w w' /\ Grow w G G') : Calls prog f vs w fun e w' => e = .returned v /\ TwB R Q w0 B K w' p q M N' /\ dv K w w' := by
 have hle := a.le;obtain ⟨F, G, h1, h2, h3, h4, h5, h6, h7⟩ := a;refine (hc G h2).mono fun e w' ⟨k0, G', k1, k2, k3⟩ => ?_
 have hs := k2.size;refine ⟨k0, ⟨F, G', R.only h1 k2 fun b hb hf => h3 b hb hf, k1, fun b hf hg => ?_, fun b hb => ?_, h5.trans (k2.below (fun b e => h4 b (.inr e)) hle), h6, fun b hb => ?_⟩, fun b hb => k2.block b (h7 b hb).2.2 (h7 b hb).2.1⟩
 ·rcases k3 b hg with y | y
  ·exact h3 b hf y
  ·have := R.lt h1 b hf; omega
 ·rcases hb with hb | hb
  ·exact h4 b (.inl hb)
  ·rcases k3 b hb with y | y
   ·exact h4 b (.inr y)
   ·omega
 ·obtain ⟨g1, g2, g3⟩ := h7 b hb;refine ⟨g1, fun hf => ?_, by omega⟩;rcases k3 b hf with y | y
  ·exact g2 y
  ·omega
theorem TwB.lZ {f : FuncId} {vs : Array Value} {P : Ending -> World -> Prop} (a : TwB R Q w0 B K w p q M N) (hc : ∀ G, Q.Bn w G q N -> Calls prog f vs w P) : Calls prog f vs w P := by
 obtain ⟨F, G, h1, h2, _⟩ := a;exact hc G h2
theorem TwB.start {F G : Nat -> Prop} (hT : Tab w0) (h1 : R.Bn w F p M) (h2 : Q.Bn w G q N) (h3 : ∀ b, F b -> ¬ G b) (h4 : ∀ b, F b \/ G b -> w0.heap.size <= b) (h5 : Below w0.heap.size w0 w) : TwB R Q w0 w0.heap.size (fun _ => False) w p q M N := ⟨F, G, h1, h2, h3, h4, h5, lu.start hT, fun _ e => e.elim⟩
end
structure Fnd where
 ev : Nat
 id : Nat
 R : Ros
deriving DecidableEq
def bv : Fnd := ⟨0, 0, bK⟩
def ly (M : aR) (s : Int) : Nat -> Bool
 |0 => true
 |k + 1 => ly M s k && !decide (dG M (k : Int) < 2 + s)
def gaF (M : aR) (n : Nat) (R : Ros) : Bool := decide (n <= 2305843009213693952) && decide ((M.ds.length : Int) = R.m + 1) && !decide (dG M R.m < 10 + R.r) && ly M R.s R.m.toNat
def gaX (M : aR) (d : Int) : Blk := dY M d 0
def gaY (M : aR) (d : Int) : Blk := dY M d 1
def gaQ (M : aR) (d : Int) : Bool := decide (0 <= d /\ d < (M.ds.length : Int) - 1) && decide (ct M d 0 = 0) && decide (ct M d 1 = 0) && decide (nwE (gaX M d) (gaY M d) = 0) && gaF M (nwN (gaX M d) (gaY M d)) (nwS (gaX M d) (gaY M d)).ros
def gaE (M : aR) (d : Int) : Int := if M.cf = true then 8 else if gaQ M d = true then 0 else 7
def gaN (M : aR) (d : Int) : Nat := if gaE M d = 0 then nwN (gaX M d) (gaY M d) else 0
def gaS (M : aR) (d : Int) : Sup := if gaE M d = 0 then nwS (gaX M d) (gaY M d) else aT
def gaU (o : Option Fnd) (n : Nat) : Bool := match o with
 |none => true
 |some f => decide (f.ev < n)
def gaP (M : aR) (d : Int) : Fnd := ⟨gaN M d, (gaS M d).id, (gaS M d).ros⟩
def gaK (M : aR) : Nat -> Option Fnd
 |0 => none
 |k + 1 => if gaE M (k : Int) = 0 /\ gaU (gaK M k) (gaN M (k : Int)) = true then some (gaP M (k : Int)) else gaK M k
def g7 (x y : Ros) : Bool := decide (x.m = y.m /\ x.s = y.s /\ x.r = y.r)
def gaW (M : aR) (f : Fnd) (j : Nat) : Bool := decide (gaE M (j : Int) = 0) && decide ((gaS M (j : Int)).self = (j : Int)) && decide ((gaS M (j : Int)).id = f.id) && g7 (gaS M (j : Int)).ros f.R
def gaL (M : aR) (f : Fnd) : Nat -> Ros
 |0 => f.R
 |k + 1 => if gaW M f k = true then gaL M f k else cx (gaL M f k) (k : Int)
def gaO (M : aR) : Option Fnd := gaK M (M.ds.length - 1)
def glE (M : aR) : Int := if M.cf = true then 8 else match gaO M with
 |none => 7
 |some _ => 0
def glF (M : aR) : Fnd := if M.cf = true then bv else match gaO M with
 |none => bv
 |some f => ⟨f.ev, f.id, gaL M f f.R.m.toNat⟩
section
variable {M : aR} {d : Int} {f : Fnd} {a b : Blk}
theorem jn (M : aR) (d : Int) : (gaE M d = 8 /\ M.cf = true) \/ (gaE M d = 0 /\ M.cf = false /\ gaQ M d = true) \/ (gaE M d = 7 /\ M.cf = false /\ gaQ M d = false) := by
 unfold gaE;cases h : M.cf
 ·rw [if_neg (by decide)];cases h2 : gaQ M d
  ·exact .inr (.inr ⟨rfl, rfl, rfl⟩)
  ·exact .inr (.inl ⟨rfl, rfl, rfl⟩)
 ·exact .inl ⟨rfl, rfl⟩
theorem fv (h : gaQ M d = true) : (0 <= d /\ d < (M.ds.length : Int) - 1) /\ ct M d 0 = 0 /\ ct M d 1 = 0 /\ nwE (gaX M d) (gaY M d) = 0 /\ gaF M (nwN (gaX M d) (gaY M d)) (nwS (gaX M d) (gaY M d)).ros = true := by
 unfold gaQ at h;simp only [Bool.and_eq_true, decide_eq_true_eq] at h;exact ⟨h.1.1.1.1, h.1.1.1.2, h.1.1.2, h.1.2, h.2⟩
theorem yR (h : gaE M d = 0) : M.cf = false /\ gaQ M d = true := by
 rcases jn M d with ⟨e, _⟩ | ⟨_, e⟩ | ⟨e, _⟩
 ·omega
 ·exact e
 ·omega
theorem pa (h : gaE M d = 0) : gaN M d = nwN (gaX M d) (gaY M d) /\ gaS M d = nwS (gaX M d) (gaY M d) := ⟨if_pos h, if_pos h⟩
theorem lP (h : gaE M d ≠ 0) : gaN M d = 0 /\ gaS M d = aT := ⟨if_neg h, if_neg h⟩
theorem j0 {n : Nat} {R : Ros} (h : gaF M n R = true) : n <= 2305843009213693952 /\ (M.ds.length : Int) = R.m + 1 /\ 10 + R.r <= dG M R.m /\ ly M R.s R.m.toNat = true := by
 unfold gaF at h;simp only [Bool.and_eq_true, decide_eq_true_eq, Bool.not_eq_true', decide_eq_false_iff_not] at h;exact ⟨h.1.1.1, h.1.1.2, by omega, h.2⟩
theorem abN {n : Nat} {R : Ros} (h : n <= 2305843009213693952 /\ (M.ds.length : Int) = R.m + 1 /\ 10 + R.r <= dG M R.m /\ ly M R.s R.m.toNat = true) : gaF M n R = true := by
 unfold gaF;simp only [Bool.and_eq_true, decide_eq_true_eq, Bool.not_eq_true', decide_eq_false_iff_not];exact ⟨⟨⟨h.1, h.2.1⟩, by omega⟩, h.2.2.2⟩
theorem iO {s : Int} : ∀ {k : Nat}, ly M s k = true ↔ ∀ j, j < k -> 2 + s <= dG M (j : Int)
 |0 => ⟨fun _ j hj => absurd hj (by omega), fun _ => rfl⟩
 |k + 1 => by
  rw [ly, Bool.and_eq_true, Bool.not_eq_true', decide_eq_false_iff_not, iO (k := k)]
  constructor
  ·rintro ⟨h1, h2⟩ j hj;by_cases e : j = k
   ·subst e; omega
   ·exact h1 j (by omega)
  ·exact fun h => ⟨fun j hj => h j (by omega), by have := h k (by omega); omega⟩
theorem rU (h : nwE a b = 0) : 1 <= nwN a b /\ dX (nwS a b) = true /\ (nwS a b).id < 18446744073709551616 := by
 unfold nwE at h;have h' : ¬ (gsN a = 0 /\ gsN b = 0) := fun e => by rw [if_pos e] at h; cases h
 unfold nwN nwS;by_cases e : gsN a < gsN b
 ·rw [if_pos e, if_pos e];have h0 : gsE b = 0 := Decidable.byContradiction fun x => by have := gn x; omega
  have := rM h0;exact ⟨by omega, this.2.2.1, this.2.2.2⟩
 ·rw [if_neg e, if_neg e];have h0 : gsE a = 0 := Decidable.byContradiction fun x => by have := gn x; omega
  have := rM h0;exact ⟨by omega, this.2.2.1, this.2.2.2⟩
theorem pD (h : gaE M d = 0) : (1 <= gaN M d /\ gaN M d <= 2305843009213693952) /\ (gaS M d).id ≠ 0 /\ bn (gaS M d).ros = true /\ (0 <= (gaS M d).self /\ (gaS M d).self < (gaS M d).ros.m) /\ (M.ds.length : Int) = (gaS M d).ros.m + 1 /\ 10 + (gaS M d).ros.r <= dG M (gaS M d).ros.m /\ ∀ j, j < (gaS M d).ros.m.toNat -> 2 + (gaS M d).ros.s <= dG M (j : Int) := by
 obtain ⟨e1, e2⟩ := pa h;obtain ⟨_, _, _, q4, q5⟩ := fv (yR h).2;obtain ⟨f1, f2, f3, f4⟩ := j0 q5;obtain ⟨n1, n2, n3⟩ := rU q4;obtain ⟨s1, s2, s3⟩ := js n2;rw [e1, e2];exact ⟨⟨n1, f1⟩, s1, s2, s3, f2, f3, iO.1 f4⟩
theorem rP : ∀ {k : Nat} {f : Fnd}, gaK M k = some f -> ∃ j, j < k /\ gaE M (j : Int) = 0 /\ f = gaP M (j : Int)
 |0, f, h => by cases h
 |k + 1, f, h => by
  rw [gaK] at h
  split at h
  ·rename_i e
   injection h with h;exact ⟨k, by omega, e.1, h.symm⟩
  ·obtain ⟨j, h1, h2⟩ := rP h;exact ⟨j, by omega, h2⟩
theorem mQ {f : Fnd} (hf : bn f.R = true) : ∀ k, bn (gaL M f k) = true /\ (gaL M f k).m = f.R.m /\ (gaL M f k).s = f.R.s /\ (gaL M f k).r = f.R.r
 |0 => ⟨hf, rfl, rfl, rfl⟩
 |k + 1 => by
  obtain ⟨h1, h2, h3, h4⟩ := mQ hf k;rw [gaL]
  split
  ·exact ⟨h1, h2, h3, h4⟩
  ·have hx : ∀ (x : Ros) (m : Int), (cx x m).m = x.m /\ (cx x m).s = x.s /\ (cx x m).r = x.r := fun x m => by
    unfold cx
    split
    ·split <;> exact ⟨rfl, rfl, rfl⟩
    ·exact ⟨rfl, rfl, rfl⟩
   obtain ⟨x1, x2, x3⟩ := hx (gaL M f k) (k : Int);exact ⟨kT _ h1, x1.trans h2, x2.trans h3, x3.trans h4⟩
end
def bu (x : Fnd) : List Value := .int .u64 x.ev :: .int .u64 x.id :: aS x.R
def fnd (x : Fnd) : Value := .agg (bu x).toArray
theorem aZ (x : Fnd) : (bu x).length = 23 := by simp [bu, a9]
theorem oo (x : Fnd) : ∀ v ∈ bu x, v.oneCell' = true := by
 intro v hv;simp only [bu, List.mem_cons] at hv;rcases hv with rfl | rfl | hv
 ·rfl
 ·rfl
 ·exact eV _ v hv
theorem ij : (prog.info? 50).map (·.size) = some 23 := by kernel_rfl
theorem l8 : (prog.info? 50).map (fun i => i.zero) = some (some (fnd bv)) := by kernel_rfl
section
variable {ρ : Operand -> Value} {o : Oper} {x y : Operand} {w : World} {b off : Nat}
theorem dP {c : Fnd} (ho : o.op = .load 50 x) (hx : ρ x = .pointer (some ⟨b, off, none⟩)) (hc : w.rangeAt b off (bu c)) : (execOp ρ o).run prog w = .ok (.value (fnd c)) w :=
 eD underlying50 rfl (by rw [aZ]; exact ij) ho hx hc
theorem kq {c : Fnd} (ho : o.op = .box 50 x) (hx : ρ x = fnd c) : (execOp ρ o).run prog w = .ok (.value (.pointer (some ⟨w.heap.size, 0, none⟩))) (w.alloc (.cells (bu c).toArray 50)) := fg ho hx
theorem cW (ho : o.op = .alloc 50) : (execOp ρ o).run prog w = .ok (.value (.pointer (some ⟨w.heap.size, 0, none⟩))) (w.alloc (.cells (bu bv).toArray 50)) := dC l8 ho
theorem dO {c d : Fnd} (ho : o.op = .store 50 x y) (hx : ρ x = .pointer (some ⟨w.heap.size, 0, none⟩)) (hy : ρ y = fnd c) : (execOp ρ o).run prog (w.alloc (.cells (bu d).toArray 50)) = .ok .skip (w.alloc (.cells (bu c).toArray 50)) :=
 fZ (by rw [aZ]; exact ij) (by rw [aZ, aZ]) (oo c) ho hx hy
theorem ey {c : Fnd} (ho : o.op = .store 50 x y) (hx : ρ x = .pointer (some ⟨b, off, none⟩)) (hy : ρ y = fnd c) (ht : w.there b off 23) : (execOp ρ o).run prog w = .ok .skip (w.setCells b off (bu c)) :=
 dq (by rw [aZ]; exact ij) (oo c) ho hx hy (by rw [aZ]; exact ht)
theorem wl (w : World) : (Instr.build 50 #[]).run prog w = .ok (fnd bv) w := by kernel_rfl
theorem iD (ho : o.op = .build 50 #[]) : (execOp ρ o).run prog w = .ok (.value (fnd bv)) w := jA ho (wl w)
end
structure qo (P : n6) : Prop where
 super : ∀ {w F q M} (d : Int), P.Bn w F q M -> Tab w -> Calls prog 18 #[.pointer (some ⟨q, 0, none⟩), .int .i64 d] w fun e w' => e = .returned (.tuple #[.int .u64 (gaN M d : Nat), sup (gaS M d), .int .i64 (gaE M d)]) /\ Below w.heap.size w w'
 look : ∀ {w F q M}, P.Bn w F q M -> Tab w -> Calls prog 20 #[.pointer (some ⟨q, 0, none⟩)] w fun e w' => e = .returned (.tuple #[fnd (glF M), .int .i64 (glE M)]) /\ Below w.heap.size w w'
section
variable {ρ : Operand -> Value} {o : Oper} {x y : Operand} {w : World}
theorem vU (n k : Int) (w : World) : (Instr.build 37 #[(0, .int .u64 n), (1, .int .i64 k)]).run prog w = .ok (.agg ((Value.int .u64 n :: Value.int .i64 k :: aS bK).toArray)) w := by kernel_rfl
theorem iy (n : Nat) (k : Int) {u v : Operand} (ho : o.op = .build 37 #[(0, u), (1, v)]) (hu : ρ u = .int .u64 (n : Int)) (hv : ρ v = .int .i64 k) : (execOp ρ o).run prog w = .ok (.value (sup ⟨n, k, bK⟩)) w := by
 have h := vU (n : Int) k w
 subst_vars
 unfold execOp;simp only [ho, hu, hv, List.map_toArray, List.map_cons, List.map_nil, Sem.run_bind, h, Result.andThen_ok, Sem.run_pure]
 rfl
theorem wV (m s r : Int) (w : World) : (Instr.build 32 #[(0, .int .i64 m), (1, .int .i64 s), (2, .int .i64 r)]).run prog w = .ok (.agg #[.int .i64 m, .int .i64 s, .int .i64 r]) w := by kernel_rfl
theorem ix (m s r : Int) {u v z : Operand} (ho : o.op = .build 32 #[(0, u), (1, v), (2, z)]) (hu : ρ u = .int .i64 m) (hv : ρ v = .int .i64 s) (hz : ρ z = .int .i64 r) : (execOp ρ o).run prog w = .ok (.value (.agg #[.int .i64 m, .int .i64 s, .int .i64 r])) w := by
 have h := wV m s r w;unfold execOp;simp only [ho, hu, hv, hz, List.map_toArray, List.map_cons, List.map_nil, Sem.run_bind, h, Result.andThen_ok, Sem.run_pure]
theorem ir (m s r : Int) {g off : Nat} (ho : o.op = .store 32 x y) (hx : ρ x = .pointer (some ⟨g, off, none⟩)) (hy : ρ y = .agg #[.int .i64 m, .int .i64 s, .int .i64 r]) (ht : w.there g off 3) :
  (execOp ρ o).run prog w = .ok .skip (((w.setCell ⟨g, off, none⟩ (.int .i64 m)).setCell ⟨g, off + 1, none⟩ (.int .i64 s)).setCell ⟨g, off + 1 + 1, none⟩ (.int .i64 r)) :=
 dq (cs := [.int .i64 m, .int .i64 s, .int .i64 r]) abt (by intro v hv; simp only [List.mem_cons, List.not_mem_nil, or_false] at hv; rcases hv with rfl | rfl | rfl <;> rfl) ho hx hy ht
theorem fO {g c : Nat} (hc : 44 <= c) (ho : o.op = .slice 116 x (some (.const (.int .i64 14))) (some (.const (.int .i64 18))) none) (hx : ρ x = .slice (some ⟨g, 0, none⟩) 44 c) (h1 : ρ (.const (.int .i64 14)) = .int .i64 14) (h2 : ρ (.const (.int .i64 18)) = .int .i64 18) :
  (execOp ρ o).run prog w = .ok (.value (.slice (some ⟨g, 14, none⟩) 4 (c - 14))) w := by
 have h : (Instr.sliceAt 116 (.slice (some ⟨g, 0, none⟩) 44 c) (some (.int .i64 14)) (some (.int .i64 18)) none).run prog w = .ok (.slice (some ⟨g, 14, none⟩) 4 (c - 14)) w := by
  have := ra (w := w) (b := g) (off := 0) (n := 44) (c := c) (u := 14) (t := 18) (by omega) (by omega) (by omega)
  simpa using this
 unfold execOp;simp only [ho, hx, h1, h2, Option.map_some, Option.map_none, Sem.run_bind, h, Result.andThen_ok, Sem.run_pure]
end
theorem oV {ρ : Operand -> Value} {o : Oper} {x y : Operand} {w : World} {c d : Blk} {t : TypeId} (b : Bool) (ho : o.op = .binOp .neq 29 x y t) (hx : ρ x = blk c) (hy : ρ y = blk d) (h : (!decide (c = d)) = b) : (execOp ρ o).run prog w = .ok (.value (.bool b)) w := by
 subst h; exact yS ho hx hy
theorem mv (y : Sup) {j : Nat} (hj : j < 16) (u : UInt8) : (aN y).set (5 + j) (.int .u8 (u.toNat : Int)) = aN { y with ros := { y.ros with st := eP (y.ros.st.toList.set j u) } } := by
 obtain ⟨id, self, m, s, r, st, cur, gone⟩ := y
 show (aN ⟨id, self, ⟨m, s, r, st, cur, gone⟩⟩).set (5 + j) _ = aN ⟨id, self, ⟨m, s, r, eP (st.toList.set j u), cur, gone⟩⟩
 rw [mo, mo, fi (by simp)];have e : 5 + j = j + 1 + 1 + 1 + 1 + 1 := by omega
 rw [e];simp only [List.set_cons_succ];rw [List.set_append_left _ _ (by simp [bk]; omega)];unfold vals;rw [List.map_set]
theorem mm {l : List UInt8} {j k : Nat} (hj : j < l.length) (u : UInt8) : bt (l.set j u) k = if k = j then (u.toNat : Int) else bt l k := by
 by_cases h : k = j
 ·subst h;rw [if_pos rfl, cZ (by simpa using hj)];simp
 ·rw [if_neg h];unfold bt;simp only [List.getD];rw [List.getElem?_set_ne (fun e => h e.symm)]
theorem kW {l : List UInt8} {p : Nat} (h : p < l.length) : (val 8 (piece l p 1) : Int) = bt l p := by
 have e := i6 (b := l) (p := p) (k := 0) (by omega);have z : val 8 (piece l p 0) = 0 := by simp [piece, val]
 rw [z] at e
 simpa using e
structure RgW (w1 w' : World) (s : Nat) (y : Sup) : Prop where
 sup : bJ w' s y
 bel : Below w1.heap.size w1 w'
 s0 : w1.heap.size <= s
section
variable {w1 w' w2 : World} {s : Nat} {y y' : Sup}
theorem RgW.keep (h : RgW w1 w' s y) (hb : Below w'.heap.size w' w2) : RgW w1 w2 s y := ⟨h.sup.below (aY h.sup) hb, h.bel.trans (hb.mono h.bel.size), h.s0⟩
theorem RgW.set (h : RgW w1 w' s y) (j : Nat) (v : Value) (e : (aN y).set j v = aN y') : RgW w1 (w'.setCell ⟨s, j, none⟩ v) s y' :=
 ⟨h.sup.set e, h.bel.grown (fz w' s j v) h.bel.size (fun k hk => by injection hk with e; have := h.s0; omega), h.s0⟩
theorem RgW.start (w1 : World) (y : Sup) : RgW w1 (w1.alloc (.cells (aN y).toArray 37)) w1.heap.size y := ⟨bJ.new w1 y, aj.alloc ai _, ai⟩
theorem RgW.out (h : RgW w1 w' s y) {w : World} (hB : Below w.heap.size w w1) : Below w.heap.size w w' := hB.trans (h.bel.mono hB.size)
end
theorem tR (b : Blk) (w : World) (h : db b.toList ≠ 0) : Calls prog 85 #[blk b] w fun e w' => e = .returned (.tuple #[.int .u64 (0 : Nat), sup aT, .int .i64 (db b.toList : Nat)]) /\ Below w.heap.size w w' := by
 obtain ⟨n, hn⟩ : ∃ n, c8 b.toList = n := ⟨_, rfl⟩;obtain ⟨l, hl⟩ : ∃ l, cH b.toList = l := ⟨_, rfl⟩;have h1 := (Below.refl w.heap.size w).alloc ai (.cells (cel b).toArray 29);have h2 := h1.alloc h1.size (.cells (aN aT).toArray 37);have HA : Hid (((w.alloc (.cells (cel b).toArray 29)).alloc (.cells (aN aT).toArray 37)).rangeAt w.heap.size 0 (cel b)) := ae (World.rangeAt_alloc (cR w (cel b) 29) _);have hsn := bJ.new (w.alloc (.cells (cel b).toArray 29)) aT;rw [World.size_alloc] at hsn;have HR := ae (aP (o := 0) (n := 23) hsn (by rw [aA]; exact ai));have HZ := ae (aY hsn);have HB := ae h2;have HN := ae hn;have HL := ae hl;clear h1 h2 hsn;obtain ⟨E, hE⟩ : ∃ E, db b.toList = E := ⟨_, rfl⟩;rw [hE] at h;have HE := ae hE;have hne : ((E : Int) != 0) = true := by simp; omega
 clear hE hn hl;go_enter func85, ntmps85;go_wp2_with (first | (refine au rfl (bZ rfl rfl) ?_) | (refine au rfl (aW rfl) ?_) | (refine au rfl (bf (c := b) rfl rfl ?_) ?_; (with_reducible exact HA.out)) | fail)
 try simp only [World.size_alloc]
 generalize (w.alloc (.cells (cel b).toArray 29)).alloc (.cells (aN aT).toArray 37) = w0 at *;refine (iQ b _ w0 (ae rfl)).mono ?_;rintro e w1 ⟨v, rfl, hv, hb⟩;rw [HN.out];rw [HE.out];have HR1 := ae (bg HR HZ hb);have HB1 := ae (HB.out.trans (hb.mono HB.out.size));clear hv hb HA HR HB;go_wp2_with (first | (refine au rfl (cG rfl) ?_) | (refine az rfl (bN (c := aT) rfl rfl rfl ?_) ?_; (with_reducible exact HR1.out)) | fail);refine bodyPost_ret (cC (t := 37) (cs := aN aT) rfl _ _ _ rfl ?h1 underlying37 rfl ?h2) rfl ⟨by rw [HE.out]; rfl, ?h3⟩
 case h1 => exact World.rangeAt_setCells_same _ _ _ _ (by rw [aA]; exact HR1)
 case h2 => rw [aA]; exact dj
 case h3 => exact below_setCells HB1 (Nat.le_succ _) _
theorem xg (b : Blk) (w : World) (h0 : db b.toList = 0) (hev : evB (c8 b.toList) = false) : Calls prog 85 #[blk b] w fun e w' => e = .returned (.tuple #[.int .u64 (0 : Nat), sup aT, .int .i64 (5 : Nat)]) /\ Below w.heap.size w w' := by
 obtain ⟨n, hn⟩ : ∃ n, c8 b.toList = n := ⟨_, rfl⟩;obtain ⟨l, hl⟩ : ∃ l, cH b.toList = l := ⟨_, rfl⟩;have h1 := (Below.refl w.heap.size w).alloc ai (.cells (cel b).toArray 29);have h2 := h1.alloc h1.size (.cells (aN aT).toArray 37);have HA : Hid (((w.alloc (.cells (cel b).toArray 29)).alloc (.cells (aN aT).toArray 37)).rangeAt w.heap.size 0 (cel b)) := ae (World.rangeAt_alloc (cR w (cel b) 29) _);have hsn := bJ.new (w.alloc (.cells (cel b).toArray 29)) aT;rw [World.size_alloc] at hsn;have HR := ae (aP (o := 0) (n := 23) hsn (by rw [aA]; exact ai));have HZ := ae (aY hsn);have HB := ae h2;have HN := ae hn;have HL := ae hl;clear h1 h2 hsn;rw [hn] at hev;have HEV := ae hev;clear hev;have hll : l.length = 44 := by rw [<- hl]; exact et h0
 have HLL := ae hll;obtain ⟨I, hI⟩ : ∃ I : Nat, val 8 (piece l 0 8) = I := ⟨_, rfl⟩;obtain ⟨M, hM⟩ : ∃ M : Nat, val 8 (piece l 8 1) = M := ⟨_, rfl⟩;obtain ⟨T, hT⟩ : ∃ T : Nat, val 8 (piece l 9 2) = T := ⟨_, rfl⟩;obtain ⟨R, hR⟩ : ∃ R : Nat, val 8 (piece l 11 2) = R := ⟨_, rfl⟩;obtain ⟨E, hE⟩ : ∃ E : Nat, val 8 (piece l 13 1) = E := ⟨_, rfl⟩;obtain ⟨C, hC⟩ : ∃ C : Nat, val 8 (piece l 18 2) = C := ⟨_, rfl⟩;obtain ⟨G, hG⟩ : ∃ G : Nat, val 8 (piece l 20 1) = G := ⟨_, rfl⟩;obtain ⟨gb, hgb⟩ : ∃ gb, decide (G = 1) = gb := ⟨_, rfl⟩;have hgg : (bt l 20 == 1) = gb := by
  have e := kW (l := l) (p := 20) (by omega);rw [hG] at e;rw [<- e, <- hgb, Bool.eq_iff_iff]; simp; omega
 obtain ⟨st, hst⟩ : ∃ st, aU 2 16 (val 8 (piece l 14 4)) = st := ⟨_, rfl⟩;have HST := ae hst;have HSL : Hid (st.length = 16) := ae (by rw [<- hst, aD]);have HDEF : Hid (bS l = ⟨I, (E : Nat), ⟨(M : Nat), (T : Nat), (R : Nat), eP st, (C : Nat), gb⟩⟩) := ae (by unfold bS; rw [hI, hM, hT, hR, hE, hC, hG, hgb, hst]);have HGB := ae hgg;have H0 := ae h0;have HII := ae hI;have HMM := ae hM;have HTT := ae hT;have HRR := ae hR;have HEE := ae hE;have HCC := ae hC;have HGG := ae hG;clear hI hM hT hR hE hC hG hgb hst hll hgg h0 hn hl;go_enter func85, ntmps85;go_wp2_with (first | (refine au rfl (bZ rfl rfl) ?_) | (refine au rfl (aW rfl) ?_) | (refine au rfl (bf (c := b) rfl rfl ?_) ?_; (with_reducible exact HA.out)) | fail)
 try simp only [World.size_alloc]
 generalize (w.alloc (.cells (cel b).toArray 29)).alloc (.cells (aN aT).toArray 37) = w0 at *;refine (iQ b _ w0 (ae rfl)).mono ?_;rintro e w1 ⟨v, rfl, hv, hb⟩;rw [HN.out];rw [H0.out];rw [HL.out] at hv;obtain ⟨g, c, rfl, _, hc1, hc2⟩ := hv.smn (by rw [HLL.out]; omega);rw [HLL.out] at hc1 hv ⊢;have HRD := ae hv.rd;have HR1 := ae (bg HR HZ hb);have HA1 := ae (ce HA (by have := HZ.out; omega) hb);have HB1 := ae (HB.out.trans (hb.mono HB.out.size));have HZ1 : Hid (w.heap.size + 1 < w1.heap.size) := ae (aq HZ hb.size);have HC1 := ae hc1;clear hv hb HA HR HB HZ hc1 hc2;go_wp2_with fail;refine (dU _ 44 c _ l 0 8 w1 HRD (by unfold maxLen; omega) (by omega) (by omega) (by omega)).mono ?_;rintro e w' ⟨rfl, rfl⟩;rw [HII.out];go_wp2_with fail;refine (di _ 44 c _ l 13 1 w1 HRD (by unfold maxLen; omega) (by omega) (by omega) (by omega)).mono ?_;rintro e w' ⟨rfl, rfl⟩;rw [HEE.out];have HW0 := ae (RgW.start w1 ⟨I, (E : Nat), bK⟩);go_upto_region 6 with (first | (refine au rfl (iy I (E : Nat) rfl rfl rfl) ?_) | (refine au rfl (aW rfl) ?_) | (refine az rfl (bW rfl rfl rfl) ?_) | fail);generalize w1.alloc (.cells (aN ⟨I, (E : Nat), bK⟩).toArray 37) = w2 at *;obtain ⟨s, hs⟩ : ∃ s, w1.heap.size = s := ⟨_, rfl⟩;have HSD := ae hs;rw [hs] at HW0 ⊢;clear hs;have HRD2 := ae (HRD.out.below HW0.out.bel);go_wp2_with fail;refine (di _ 44 c _ l 8 1 _ HRD2 (by unfold maxLen; omega) (by omega) (by omega) (by omega)).mono ?_;rintro e w' ⟨rfl, rfl⟩;rw [HMM.out];go_wp2_with fail;refine (di _ 44 c _ l 9 2 _ HRD2 (by unfold maxLen; omega) (by omega) (by omega) (by omega)).mono ?_;rintro e w' ⟨rfl, rfl⟩;rw [HTT.out];go_wp2_with fail;refine (di _ 44 c _ l 11 2 _ HRD2 (by unfold maxLen; omega) (by omega) (by omega) (by omega)).mono ?_;rintro e w' ⟨rfl, rfl⟩;rw [HRR.out];have HTH := ae (aP (o := 2) (n := 3) HW0.out.sup (by rw [aA]; omega));have HW1 : Hid (RgW w1 (((w2.setCell ⟨s, 2, none⟩ (.int .i64 (M : Nat))).setCell ⟨s, 2 + 1, none⟩ (.int .i64 (T : Nat))).setCell ⟨s, 2 + 1 + 1, none⟩ (.int .i64 (R : Nat))) s ⟨I, (E : Nat), ⟨(M : Nat), (T : Nat), (R : Nat), bK.st, 0, false⟩⟩) :=
  ae (((HW0.out.set 2 _ (mK _ _)).set 3 _ (ny _ _)).set 4 _ (nt _ _))
 go_upto_region 7 with (first | (refine au rfl (ix (M : Nat) (T : Nat) (R : Nat) rfl rfl rfl rfl) ?_) | (refine az rfl (ir (M : Nat) (T : Nat) (R : Nat) rfl rfl rfl HTH.out) ?_) | fail);generalize ((w2.setCell ⟨s, 2, none⟩ (.int .i64 (M : Nat))).setCell ⟨s, 2 + 1, none⟩ (.int .i64 (T : Nat))).setCell ⟨s, 2 + 1 + 1, none⟩ (.int .i64 (R : Nat)) = w3 at *;clear HRD2 HTH HW0;have HRD3 := ae (HRD.out.below HW1.out.bel);have HRD4 : Hid (Rd w3 w1.heap.size (some ⟨g, 14, none⟩) 4 (piece l 14 4)) := ae ⟨co (by rw [HLL.out]; omega), fun j hj => by
  obtain ⟨b0, o0, e, hb0, hc0⟩ := HRD3.out.2 (14 + j) (by omega);injection e with e;injection e with e1 e2;subst e1 e2;refine ⟨g, 14, rfl, hb0, ?_⟩;rw [gh hj];rw [Nat.zero_add] at hc0;exact hc0⟩
 have hs1 := HW1.out.bel.size;go_wp2_with (first | (refine au rfl (fO HC1 rfl rfl rfl rfl) ?_) | fail);refine (iw _ 4 (c - 14) _ 2 16 _ (piece l 14 4) w3 (ae rfl) HRD4 hs1 (by omega) (by omega) (by omega) (by omega) (by decide)).mono ?_;rintro e w4 ⟨v, rfl, hv, hb⟩;rw [HST.out] at hv;obtain ⟨A, cc, rfl, _, _, _⟩ := hv.open_ HSL;have HV := ae hv;have HW2 := ae (HW1.out.keep hb);have HSB : Hid (s < w3.heap.size) := ae (aY HW1.out.sup);clear hv hb HRD3 HRD4 HW1 hs1;obtain ⟨B4, hB4⟩ : ∃ B4, w3.heap.size = B4 := ⟨_, rfl⟩;rw [hB4] at HV HSB;clear hB4;go_wp2_with fail
 go_loopw [13] (fun i wr => ∃ j : Nat, j <= 16 /\ i = .int .i64 j /\ ∃ z : Vector UInt8 16, RgW w1 wr s ⟨I, (E : Nat), ⟨(M : Nat), (T : Nat), (R : Nat), z, 0, false⟩⟩ /\ (∀ k, k < j -> bt z.toList k = bt st k) /\ Made wr B4 (.slice A 16 cc) st) (fun i _ => 16 - (intOf i).toNat)
 case atStart => exact ⟨0, Nat.zero_le _, rfl, _, HW2, fun k hk => absurd hk (by omega), HV⟩
 case round =>
  obtain ⟨j, hj, rfl, z, hW, hz, hM⟩ := hrel;have HWR := ae hW;have HZR := ae hz;have HMR := ae hM;clear hW hz hM;by_cases hlt : j < 16
  ·obtain ⟨bA, oA, rfl, hA, cA⟩ := HMR.out.rd.2 j hlt;have cs := HWR.out.sup.sta hlt;have fs := HWR.out.sup.free (5 + j);have hu : bt st j = ((st.getD j 0).toNat : Int) := rfl;rw [hu] at cA;have HU := ae hu;clear hu;obtain ⟨u, hu⟩ : ∃ u, st.getD j 0 = u := ⟨_, rfl⟩;rw [hu] at cA HU;clear hu;have HW' := ae (HWR.out.set (5 + j) _ (mv _ hlt u));have HM' := ae (HMR.out.ox (fz wr s (5 + j) (.int .u8 (u.toNat : Int))) (fun k hk => by injection hk with e; have := HSB.out; omega));have HZ' : Hid (∀ k, k < j + 1 -> bt (eP (z.toList.set j u)).toList k = bt st k) := ae fun k hk => by
    rw [fi (by simp), mm (by simpa using hlt)]
    split
    ·rename_i e; rw [e, HU.out]
    ·exact HZR.out k (by omega)
   go_wp2_with fail;go_roundw
   case rel => exact ⟨j + 1, by omega, by go_num, _, HW', HZ', HM'⟩
   case measure => simp [intOf]; omega
  ·have e : j = 16 := by omega
   subst e;have hzst : z = eP st := by
    rw [<- eC z]
    congr 1
    exact eB (by rw [HSL.out]; simp) fun k hk => HZR.out k (by simpa using hk)
   subst hzst;clear HMR HZR HV HW2;have HRD5 := ae (HRD.out.below HWR.out.bel);go_wp2_with fail;refine (di _ 44 c _ l 18 2 _ HRD5 (by unfold maxLen; omega) (by omega) (by omega) (by omega)).mono ?_;rintro e w' ⟨rfl, rfl⟩;rw [HCC.out];have cs := HWR.out.sup.cells.2.2.2.2.2.1;have fs := HWR.out.sup.free 21;have HW6 : Hid (RgW w1 (wr.setCell ⟨s, 21, none⟩ (.int .i64 (C : Nat))) s ⟨I, (E : Nat), ⟨(M : Nat), (T : Nat), (R : Nat), eP st, (C : Nat), false⟩⟩) := ae (HWR.out.set 21 _ (iV _ _));clear HWR HRD5;go_upto_region 13 with fail;generalize wr.setCell ⟨s, 21, none⟩ (.int .i64 (C : Nat)) = w6 at *;clear cs fs;obtain ⟨b20, o20, e20, hb20, c20⟩ := (HRD.out.below HW6.out.bel).2 20 (by omega);injection e20 with e20;injection e20 with e1 e2;subst e1 e2;have cs := HW6.out.sup.cells.2.2.2.2.2.2;have fs := HW6.out.sup.free 22;have HW7 : Hid (RgW w1 (w6.setCell ⟨s, 22, none⟩ (.bool (bt l 20 == 1))) s ⟨I, (E : Nat), ⟨(M : Nat), (T : Nat), (R : Nat), eP st, (C : Nat), gb⟩⟩) := ae (HW6.out.set 22 _ (by rw [HGB.out]; exact ia _ _));rw [<- HDEF.out] at HW7;clear HW6;go_upto_region 14 with fail;generalize w6.setCell ⟨s, 22, none⟩ (.bool (bt l 20 == 1)) = w7 at *;clear cs fs c20 hb20 HGB HDEF HST HSL HII HMM HTT HRR HEE HCC HSB;obtain ⟨y, hy⟩ : ∃ y, bS l = y := ⟨_, rfl⟩;rw [hy] at HW7;have HY := ae hy;clear hy;have HB7 := ae (HW7.out.out HB1);have HR7 := ae (bg HR1 HZ1 HW7.out.bel);have HA7 := ae (ce HA1 (by have := HZ1.out; omega) HW7.out.bel);have HZ7 : Hid (w.heap.size + 1 < w7.heap.size) := ae (aq HZ1 HW7.out.bel.size);have HS7 := ae HW7.out.sup;clear HW7 HA1 HR1 HB1 HZ1 HRD;go_wp2_with fail;refine (nC n w7).mono ?_;rintro e w' ⟨rfl, rfl⟩;rw [HEV.out];go_wp2_with (first | (refine au rfl (cG rfl) ?_) | (refine az rfl (bN (c := aT) rfl rfl rfl ?_) ?_; (with_reducible exact HR7.out)) | fail);refine bodyPost_ret (cC (t := 37) (cs := aN aT) rfl _ _ _ rfl ?h1 underlying37 rfl ?h2) rfl ⟨rfl, ?h3⟩
   case h1 => exact World.rangeAt_setCells_same _ _ _ _ (by rw [aA]; exact HR7)
   case h2 => rw [aA]; exact dj
   case h3 => exact below_setCells HB7 (Nat.le_succ _) _
theorem uQ (b : Blk) (w : World) (h0 : db b.toList = 0) (hev : evB (c8 b.toList) = true) (hm : dX (bS (cH b.toList)) = false) : Calls prog 85 #[blk b] w fun e w' => e = .returned (.tuple #[.int .u64 (0 : Nat), sup aT, .int .i64 (5 : Nat)]) /\ Below w.heap.size w w' := by
 obtain ⟨n, hn⟩ : ∃ n, c8 b.toList = n := ⟨_, rfl⟩;obtain ⟨l, hl⟩ : ∃ l, cH b.toList = l := ⟨_, rfl⟩;have h1 := (Below.refl w.heap.size w).alloc ai (.cells (cel b).toArray 29);have h2 := h1.alloc h1.size (.cells (aN aT).toArray 37);have HA : Hid (((w.alloc (.cells (cel b).toArray 29)).alloc (.cells (aN aT).toArray 37)).rangeAt w.heap.size 0 (cel b)) := ae (World.rangeAt_alloc (cR w (cel b) 29) _);have hsn := bJ.new (w.alloc (.cells (cel b).toArray 29)) aT;rw [World.size_alloc] at hsn;have HR := ae (aP (o := 0) (n := 23) hsn (by rw [aA]; exact ai));have HZ := ae (aY hsn);have HB := ae h2;have HN := ae hn;have HL := ae hl;clear h1 h2 hsn;rw [hn] at hev;rw [hl] at hm;have HEV := ae hev;have HM0 := ae hm;clear hev hm;have hll : l.length = 44 := by rw [<- hl]; exact et h0
 have HLL := ae hll;obtain ⟨I, hI⟩ : ∃ I : Nat, val 8 (piece l 0 8) = I := ⟨_, rfl⟩;obtain ⟨M, hM⟩ : ∃ M : Nat, val 8 (piece l 8 1) = M := ⟨_, rfl⟩;obtain ⟨T, hT⟩ : ∃ T : Nat, val 8 (piece l 9 2) = T := ⟨_, rfl⟩;obtain ⟨R, hR⟩ : ∃ R : Nat, val 8 (piece l 11 2) = R := ⟨_, rfl⟩;obtain ⟨E, hE⟩ : ∃ E : Nat, val 8 (piece l 13 1) = E := ⟨_, rfl⟩;obtain ⟨C, hC⟩ : ∃ C : Nat, val 8 (piece l 18 2) = C := ⟨_, rfl⟩;obtain ⟨G, hG⟩ : ∃ G : Nat, val 8 (piece l 20 1) = G := ⟨_, rfl⟩;obtain ⟨gb, hgb⟩ : ∃ gb, decide (G = 1) = gb := ⟨_, rfl⟩;have hgg : (bt l 20 == 1) = gb := by
  have e := kW (l := l) (p := 20) (by omega);rw [hG] at e;rw [<- e, <- hgb, Bool.eq_iff_iff]; simp; omega
 obtain ⟨st, hst⟩ : ∃ st, aU 2 16 (val 8 (piece l 14 4)) = st := ⟨_, rfl⟩;have HST := ae hst;have HSL : Hid (st.length = 16) := ae (by rw [<- hst, aD]);have HDEF : Hid (bS l = ⟨I, (E : Nat), ⟨(M : Nat), (T : Nat), (R : Nat), eP st, (C : Nat), gb⟩⟩) := ae (by unfold bS; rw [hI, hM, hT, hR, hE, hC, hG, hgb, hst]);have HGB := ae hgg;have H0 := ae h0;have HII := ae hI;have HMM := ae hM;have HTT := ae hT;have HRR := ae hR;have HEE := ae hE;have HCC := ae hC;have HGG := ae hG;clear hI hM hT hR hE hC hG hgb hst hll hgg h0 hn hl;go_enter func85, ntmps85;go_wp2_with (first | (refine au rfl (bZ rfl rfl) ?_) | (refine au rfl (aW rfl) ?_) | (refine au rfl (bf (c := b) rfl rfl ?_) ?_; (with_reducible exact HA.out)) | fail)
 try simp only [World.size_alloc]
 generalize (w.alloc (.cells (cel b).toArray 29)).alloc (.cells (aN aT).toArray 37) = w0 at *;refine (iQ b _ w0 (ae rfl)).mono ?_;rintro e w1 ⟨v, rfl, hv, hb⟩;rw [HN.out];rw [H0.out];rw [HL.out] at hv;obtain ⟨g, c, rfl, _, hc1, hc2⟩ := hv.smn (by rw [HLL.out]; omega);rw [HLL.out] at hc1 hv ⊢;have HRD := ae hv.rd;have HR1 := ae (bg HR HZ hb);have HA1 := ae (ce HA (by have := HZ.out; omega) hb);have HB1 := ae (HB.out.trans (hb.mono HB.out.size));have HZ1 : Hid (w.heap.size + 1 < w1.heap.size) := ae (aq HZ hb.size);have HC1 := ae hc1;clear hv hb HA HR HB HZ hc1 hc2;go_wp2_with fail;refine (dU _ 44 c _ l 0 8 w1 HRD (by unfold maxLen; omega) (by omega) (by omega) (by omega)).mono ?_;rintro e w' ⟨rfl, rfl⟩;rw [HII.out];go_wp2_with fail;refine (di _ 44 c _ l 13 1 w1 HRD (by unfold maxLen; omega) (by omega) (by omega) (by omega)).mono ?_;rintro e w' ⟨rfl, rfl⟩;rw [HEE.out];have HW0 := ae (RgW.start w1 ⟨I, (E : Nat), bK⟩);go_upto_region 6 with (first | (refine au rfl (iy I (E : Nat) rfl rfl rfl) ?_) | (refine au rfl (aW rfl) ?_) | (refine az rfl (bW rfl rfl rfl) ?_) | fail);generalize w1.alloc (.cells (aN ⟨I, (E : Nat), bK⟩).toArray 37) = w2 at *;obtain ⟨s, hs⟩ : ∃ s, w1.heap.size = s := ⟨_, rfl⟩;have HSD := ae hs;rw [hs] at HW0 ⊢;clear hs;have HRD2 := ae (HRD.out.below HW0.out.bel);go_wp2_with fail;refine (di _ 44 c _ l 8 1 _ HRD2 (by unfold maxLen; omega) (by omega) (by omega) (by omega)).mono ?_;rintro e w' ⟨rfl, rfl⟩;rw [HMM.out];go_wp2_with fail;refine (di _ 44 c _ l 9 2 _ HRD2 (by unfold maxLen; omega) (by omega) (by omega) (by omega)).mono ?_;rintro e w' ⟨rfl, rfl⟩;rw [HTT.out];go_wp2_with fail;refine (di _ 44 c _ l 11 2 _ HRD2 (by unfold maxLen; omega) (by omega) (by omega) (by omega)).mono ?_;rintro e w' ⟨rfl, rfl⟩;rw [HRR.out];have HTH := ae (aP (o := 2) (n := 3) HW0.out.sup (by rw [aA]; omega));have HW1 : Hid (RgW w1 (((w2.setCell ⟨s, 2, none⟩ (.int .i64 (M : Nat))).setCell ⟨s, 2 + 1, none⟩ (.int .i64 (T : Nat))).setCell ⟨s, 2 + 1 + 1, none⟩ (.int .i64 (R : Nat))) s ⟨I, (E : Nat), ⟨(M : Nat), (T : Nat), (R : Nat), bK.st, 0, false⟩⟩) :=
  ae (((HW0.out.set 2 _ (mK _ _)).set 3 _ (ny _ _)).set 4 _ (nt _ _))
 go_upto_region 7 with (first | (refine au rfl (ix (M : Nat) (T : Nat) (R : Nat) rfl rfl rfl rfl) ?_) | (refine az rfl (ir (M : Nat) (T : Nat) (R : Nat) rfl rfl rfl HTH.out) ?_) | fail);generalize ((w2.setCell ⟨s, 2, none⟩ (.int .i64 (M : Nat))).setCell ⟨s, 2 + 1, none⟩ (.int .i64 (T : Nat))).setCell ⟨s, 2 + 1 + 1, none⟩ (.int .i64 (R : Nat)) = w3 at *;clear HRD2 HTH HW0;have HRD3 := ae (HRD.out.below HW1.out.bel);have HRD4 : Hid (Rd w3 w1.heap.size (some ⟨g, 14, none⟩) 4 (piece l 14 4)) := ae ⟨co (by rw [HLL.out]; omega), fun j hj => by
  obtain ⟨b0, o0, e, hb0, hc0⟩ := HRD3.out.2 (14 + j) (by omega);injection e with e;injection e with e1 e2;subst e1 e2;refine ⟨g, 14, rfl, hb0, ?_⟩;rw [gh hj];rw [Nat.zero_add] at hc0;exact hc0⟩
 have hs1 := HW1.out.bel.size;go_wp2_with (first | (refine au rfl (fO HC1 rfl rfl rfl rfl) ?_) | fail);refine (iw _ 4 (c - 14) _ 2 16 _ (piece l 14 4) w3 (ae rfl) HRD4 hs1 (by omega) (by omega) (by omega) (by omega) (by decide)).mono ?_;rintro e w4 ⟨v, rfl, hv, hb⟩;rw [HST.out] at hv;obtain ⟨A, cc, rfl, _, _, _⟩ := hv.open_ HSL;have HV := ae hv;have HW2 := ae (HW1.out.keep hb);have HSB : Hid (s < w3.heap.size) := ae (aY HW1.out.sup);clear hv hb HRD3 HRD4 HW1 hs1;obtain ⟨B4, hB4⟩ : ∃ B4, w3.heap.size = B4 := ⟨_, rfl⟩;rw [hB4] at HV HSB;clear hB4;go_wp2_with fail
 go_loopw [13] (fun i wr => ∃ j : Nat, j <= 16 /\ i = .int .i64 j /\ ∃ z : Vector UInt8 16, RgW w1 wr s ⟨I, (E : Nat), ⟨(M : Nat), (T : Nat), (R : Nat), z, 0, false⟩⟩ /\ (∀ k, k < j -> bt z.toList k = bt st k) /\ Made wr B4 (.slice A 16 cc) st) (fun i _ => 16 - (intOf i).toNat)
 case atStart => exact ⟨0, Nat.zero_le _, rfl, _, HW2, fun k hk => absurd hk (by omega), HV⟩
 case round =>
  obtain ⟨j, hj, rfl, z, hW, hz, hM⟩ := hrel;have HWR := ae hW;have HZR := ae hz;have HMR := ae hM;clear hW hz hM;by_cases hlt : j < 16
  ·obtain ⟨bA, oA, rfl, hA, cA⟩ := HMR.out.rd.2 j hlt;have cs := HWR.out.sup.sta hlt;have fs := HWR.out.sup.free (5 + j);have hu : bt st j = ((st.getD j 0).toNat : Int) := rfl;rw [hu] at cA;have HU := ae hu;clear hu;obtain ⟨u, hu⟩ : ∃ u, st.getD j 0 = u := ⟨_, rfl⟩;rw [hu] at cA HU;clear hu;have HW' := ae (HWR.out.set (5 + j) _ (mv _ hlt u));have HM' := ae (HMR.out.ox (fz wr s (5 + j) (.int .u8 (u.toNat : Int))) (fun k hk => by injection hk with e; have := HSB.out; omega));have HZ' : Hid (∀ k, k < j + 1 -> bt (eP (z.toList.set j u)).toList k = bt st k) := ae fun k hk => by
    rw [fi (by simp), mm (by simpa using hlt)]
    split
    ·rename_i e; rw [e, HU.out]
    ·exact HZR.out k (by omega)
   go_wp2_with fail;go_roundw
   case rel => exact ⟨j + 1, by omega, by go_num, _, HW', HZ', HM'⟩
   case measure => simp [intOf]; omega
  ·have e : j = 16 := by omega
   subst e;have hzst : z = eP st := by
    rw [<- eC z]
    congr 1
    exact eB (by rw [HSL.out]; simp) fun k hk => HZR.out k (by simpa using hk)
   subst hzst;clear HMR HZR HV HW2;have HRD5 := ae (HRD.out.below HWR.out.bel);go_wp2_with fail;refine (di _ 44 c _ l 18 2 _ HRD5 (by unfold maxLen; omega) (by omega) (by omega) (by omega)).mono ?_;rintro e w' ⟨rfl, rfl⟩;rw [HCC.out];have cs := HWR.out.sup.cells.2.2.2.2.2.1;have fs := HWR.out.sup.free 21;have HW6 : Hid (RgW w1 (wr.setCell ⟨s, 21, none⟩ (.int .i64 (C : Nat))) s ⟨I, (E : Nat), ⟨(M : Nat), (T : Nat), (R : Nat), eP st, (C : Nat), false⟩⟩) := ae (HWR.out.set 21 _ (iV _ _));clear HWR HRD5;go_upto_region 13 with fail;generalize wr.setCell ⟨s, 21, none⟩ (.int .i64 (C : Nat)) = w6 at *;clear cs fs;obtain ⟨b20, o20, e20, hb20, c20⟩ := (HRD.out.below HW6.out.bel).2 20 (by omega);injection e20 with e20;injection e20 with e1 e2;subst e1 e2;have cs := HW6.out.sup.cells.2.2.2.2.2.2;have fs := HW6.out.sup.free 22;have HW7 : Hid (RgW w1 (w6.setCell ⟨s, 22, none⟩ (.bool (bt l 20 == 1))) s ⟨I, (E : Nat), ⟨(M : Nat), (T : Nat), (R : Nat), eP st, (C : Nat), gb⟩⟩) := ae (HW6.out.set 22 _ (by rw [HGB.out]; exact ia _ _));rw [<- HDEF.out] at HW7;clear HW6;go_upto_region 14 with fail;generalize w6.setCell ⟨s, 22, none⟩ (.bool (bt l 20 == 1)) = w7 at *;clear cs fs c20 hb20 HGB HDEF HST HSL HII HMM HTT HRR HEE HCC HSB;obtain ⟨y, hy⟩ : ∃ y, bS l = y := ⟨_, rfl⟩;rw [hy] at HW7 HM0;have HY := ae hy;clear hy;have HB7 := ae (HW7.out.out HB1);have HR7 := ae (bg HR1 HZ1 HW7.out.bel);have HA7 := ae (ce HA1 (by have := HZ1.out; omega) HW7.out.bel);have HZ7 : Hid (w.heap.size + 1 < w7.heap.size) := ae (aq HZ1 HW7.out.bel.size);have HS7 := ae HW7.out.sup;clear HW7 HA1 HR1 HB1 HZ1 HRD;go_wp2_with fail;refine (nC n w7).mono ?_;rintro e w' ⟨rfl, rfl⟩;rw [HEV.out];go_wp2_with (first | (refine av (by rfl) (bz (c := y) rfl rfl ?_) ?_; (with_reducible exact HS7.out.range)) | fail);refine (ug y w7).mono ?_;rintro e w8 ⟨rfl, hb⟩;rw [HM0.out];have HS8 := ae (HS7.out.below (aY HS7) hb);have HB8 := ae (HB7.out.trans (hb.mono HB7.out.size));have HR8 := ae (bg HR7 HZ7 hb);have HA8 := ae (ce HA7 (by have := HZ7.out; omega) hb);have HZ8 : Hid (w.heap.size + 1 < w8.heap.size) := ae (aq HZ7 hb.size);clear hb HS7 HB7 HR7 HA7 HZ7;go_wp2_with (first | (refine au rfl (cG rfl) ?_) | (refine az rfl (bN (c := aT) rfl rfl rfl ?_) ?_; (with_reducible exact HR8.out)) | fail);refine bodyPost_ret (cC (t := 37) (cs := aN aT) rfl _ _ _ rfl ?h1 underlying37 rfl ?h2) rfl ⟨rfl, ?h3⟩
   case h1 => exact World.rangeAt_setCells_same _ _ _ _ (by rw [aA]; exact HR8)
   case h2 => rw [aA]; exact dj
   case h3 => exact below_setCells HB8 (Nat.le_succ _) _
theorem yn (b : Blk) (w : World) (h0 : db b.toList = 0) (hev : evB (c8 b.toList) = true) (hm : dX (bS (cH b.toList)) = true) (hd : dK (c8 b.toList) (cU (bS (cH b.toList))) ≠ b) : Calls prog 85 #[blk b] w fun e w' => e = .returned (.tuple #[.int .u64 (0 : Nat), sup aT, .int .i64 (5 : Nat)]) /\ Below w.heap.size w w' := by
 obtain ⟨n, hn⟩ : ∃ n, c8 b.toList = n := ⟨_, rfl⟩;obtain ⟨l, hl⟩ : ∃ l, cH b.toList = l := ⟨_, rfl⟩;have h1 := (Below.refl w.heap.size w).alloc ai (.cells (cel b).toArray 29);have h2 := h1.alloc h1.size (.cells (aN aT).toArray 37);have HA : Hid (((w.alloc (.cells (cel b).toArray 29)).alloc (.cells (aN aT).toArray 37)).rangeAt w.heap.size 0 (cel b)) := ae (World.rangeAt_alloc (cR w (cel b) 29) _);have hsn := bJ.new (w.alloc (.cells (cel b).toArray 29)) aT;rw [World.size_alloc] at hsn;have HR := ae (aP (o := 0) (n := 23) hsn (by rw [aA]; exact ai));have HZ := ae (aY hsn);have HB := ae h2;have HN := ae hn;have HL := ae hl;clear h1 h2 hsn;have hi64 := eY (l := cH b.toList) (by rw [et h0]; omega);have hn64 := jC b;have hpe := fc (n := c8 b.toList) (bS (cH b.toList)) hev;rw [hn] at hev hd hn64 hpe;rw [hl] at hm hd hi64 hpe;have HEV := ae hev;have HM0 := ae hm;have HD0 : Hid ((!decide (dK n (cU (bS l)) = b)) = true) := ae (by simpa using hd);have HI64 := ae hi64;have HN64 := ae hn64;have HPE := ae hpe;clear hev hm hd hi64 hn64 hpe;have hll : l.length = 44 := by rw [<- hl]; exact et h0
 have HLL := ae hll;obtain ⟨I, hI⟩ : ∃ I : Nat, val 8 (piece l 0 8) = I := ⟨_, rfl⟩;obtain ⟨M, hM⟩ : ∃ M : Nat, val 8 (piece l 8 1) = M := ⟨_, rfl⟩;obtain ⟨T, hT⟩ : ∃ T : Nat, val 8 (piece l 9 2) = T := ⟨_, rfl⟩;obtain ⟨R, hR⟩ : ∃ R : Nat, val 8 (piece l 11 2) = R := ⟨_, rfl⟩;obtain ⟨E, hE⟩ : ∃ E : Nat, val 8 (piece l 13 1) = E := ⟨_, rfl⟩;obtain ⟨C, hC⟩ : ∃ C : Nat, val 8 (piece l 18 2) = C := ⟨_, rfl⟩;obtain ⟨G, hG⟩ : ∃ G : Nat, val 8 (piece l 20 1) = G := ⟨_, rfl⟩;obtain ⟨gb, hgb⟩ : ∃ gb, decide (G = 1) = gb := ⟨_, rfl⟩;have hgg : (bt l 20 == 1) = gb := by
  have e := kW (l := l) (p := 20) (by omega);rw [hG] at e;rw [<- e, <- hgb, Bool.eq_iff_iff]; simp; omega
 obtain ⟨st, hst⟩ : ∃ st, aU 2 16 (val 8 (piece l 14 4)) = st := ⟨_, rfl⟩;have HST := ae hst;have HSL : Hid (st.length = 16) := ae (by rw [<- hst, aD]);have HDEF : Hid (bS l = ⟨I, (E : Nat), ⟨(M : Nat), (T : Nat), (R : Nat), eP st, (C : Nat), gb⟩⟩) := ae (by unfold bS; rw [hI, hM, hT, hR, hE, hC, hG, hgb, hst]);have HGB := ae hgg;have H0 := ae h0;have HII := ae hI;have HMM := ae hM;have HTT := ae hT;have HRR := ae hR;have HEE := ae hE;have HCC := ae hC;have HGG := ae hG;clear hI hM hT hR hE hC hG hgb hst hll hgg h0 hn hl;go_enter func85, ntmps85;go_wp2_with (first | (refine au rfl (bZ rfl rfl) ?_) | (refine au rfl (aW rfl) ?_) | (refine au rfl (bf (c := b) rfl rfl ?_) ?_; (with_reducible exact HA.out)) | fail)
 try simp only [World.size_alloc]
 generalize (w.alloc (.cells (cel b).toArray 29)).alloc (.cells (aN aT).toArray 37) = w0 at *;refine (iQ b _ w0 (ae rfl)).mono ?_;rintro e w1 ⟨v, rfl, hv, hb⟩;rw [HN.out];rw [H0.out];rw [HL.out] at hv;obtain ⟨g, c, rfl, _, hc1, hc2⟩ := hv.smn (by rw [HLL.out]; omega);rw [HLL.out] at hc1 hv ⊢;have HRD := ae hv.rd;have HR1 := ae (bg HR HZ hb);have HA1 := ae (ce HA (by have := HZ.out; omega) hb);have HB1 := ae (HB.out.trans (hb.mono HB.out.size));have HZ1 : Hid (w.heap.size + 1 < w1.heap.size) := ae (aq HZ hb.size);have HC1 := ae hc1;clear hv hb HA HR HB HZ hc1 hc2;go_wp2_with fail;refine (dU _ 44 c _ l 0 8 w1 HRD (by unfold maxLen; omega) (by omega) (by omega) (by omega)).mono ?_;rintro e w' ⟨rfl, rfl⟩;rw [HII.out];go_wp2_with fail;refine (di _ 44 c _ l 13 1 w1 HRD (by unfold maxLen; omega) (by omega) (by omega) (by omega)).mono ?_;rintro e w' ⟨rfl, rfl⟩;rw [HEE.out];have HW0 := ae (RgW.start w1 ⟨I, (E : Nat), bK⟩);go_upto_region 6 with (first | (refine au rfl (iy I (E : Nat) rfl rfl rfl) ?_) | (refine au rfl (aW rfl) ?_) | (refine az rfl (bW rfl rfl rfl) ?_) | fail);generalize w1.alloc (.cells (aN ⟨I, (E : Nat), bK⟩).toArray 37) = w2 at *;obtain ⟨s, hs⟩ : ∃ s, w1.heap.size = s := ⟨_, rfl⟩;have HSD := ae hs;rw [hs] at HW0 ⊢;clear hs;have HRD2 := ae (HRD.out.below HW0.out.bel);go_wp2_with fail;refine (di _ 44 c _ l 8 1 _ HRD2 (by unfold maxLen; omega) (by omega) (by omega) (by omega)).mono ?_;rintro e w' ⟨rfl, rfl⟩;rw [HMM.out];go_wp2_with fail;refine (di _ 44 c _ l 9 2 _ HRD2 (by unfold maxLen; omega) (by omega) (by omega) (by omega)).mono ?_;rintro e w' ⟨rfl, rfl⟩;rw [HTT.out];go_wp2_with fail;refine (di _ 44 c _ l 11 2 _ HRD2 (by unfold maxLen; omega) (by omega) (by omega) (by omega)).mono ?_;rintro e w' ⟨rfl, rfl⟩;rw [HRR.out];have HTH := ae (aP (o := 2) (n := 3) HW0.out.sup (by rw [aA]; omega));have HW1 : Hid (RgW w1 (((w2.setCell ⟨s, 2, none⟩ (.int .i64 (M : Nat))).setCell ⟨s, 2 + 1, none⟩ (.int .i64 (T : Nat))).setCell ⟨s, 2 + 1 + 1, none⟩ (.int .i64 (R : Nat))) s ⟨I, (E : Nat), ⟨(M : Nat), (T : Nat), (R : Nat), bK.st, 0, false⟩⟩) :=
  ae (((HW0.out.set 2 _ (mK _ _)).set 3 _ (ny _ _)).set 4 _ (nt _ _))
 go_upto_region 7 with (first | (refine au rfl (ix (M : Nat) (T : Nat) (R : Nat) rfl rfl rfl rfl) ?_) | (refine az rfl (ir (M : Nat) (T : Nat) (R : Nat) rfl rfl rfl HTH.out) ?_) | fail);generalize ((w2.setCell ⟨s, 2, none⟩ (.int .i64 (M : Nat))).setCell ⟨s, 2 + 1, none⟩ (.int .i64 (T : Nat))).setCell ⟨s, 2 + 1 + 1, none⟩ (.int .i64 (R : Nat)) = w3 at *;clear HRD2 HTH HW0;have HRD3 := ae (HRD.out.below HW1.out.bel);have HRD4 : Hid (Rd w3 w1.heap.size (some ⟨g, 14, none⟩) 4 (piece l 14 4)) := ae ⟨co (by rw [HLL.out]; omega), fun j hj => by
  obtain ⟨b0, o0, e, hb0, hc0⟩ := HRD3.out.2 (14 + j) (by omega);injection e with e;injection e with e1 e2;subst e1 e2;refine ⟨g, 14, rfl, hb0, ?_⟩;rw [gh hj];rw [Nat.zero_add] at hc0;exact hc0⟩
 have hs1 := HW1.out.bel.size;go_wp2_with (first | (refine au rfl (fO HC1 rfl rfl rfl rfl) ?_) | fail);refine (iw _ 4 (c - 14) _ 2 16 _ (piece l 14 4) w3 (ae rfl) HRD4 hs1 (by omega) (by omega) (by omega) (by omega) (by decide)).mono ?_;rintro e w4 ⟨v, rfl, hv, hb⟩;rw [HST.out] at hv;obtain ⟨A, cc, rfl, _, _, _⟩ := hv.open_ HSL;have HV := ae hv;have HW2 := ae (HW1.out.keep hb);have HSB : Hid (s < w3.heap.size) := ae (aY HW1.out.sup);clear hv hb HRD3 HRD4 HW1 hs1;obtain ⟨B4, hB4⟩ : ∃ B4, w3.heap.size = B4 := ⟨_, rfl⟩;rw [hB4] at HV HSB;clear hB4;go_wp2_with fail
 go_loopw [13] (fun i wr => ∃ j : Nat, j <= 16 /\ i = .int .i64 j /\ ∃ z : Vector UInt8 16, RgW w1 wr s ⟨I, (E : Nat), ⟨(M : Nat), (T : Nat), (R : Nat), z, 0, false⟩⟩ /\ (∀ k, k < j -> bt z.toList k = bt st k) /\ Made wr B4 (.slice A 16 cc) st) (fun i _ => 16 - (intOf i).toNat)
 case atStart => exact ⟨0, Nat.zero_le _, rfl, _, HW2, fun k hk => absurd hk (by omega), HV⟩
 case round =>
  obtain ⟨j, hj, rfl, z, hW, hz, hM⟩ := hrel;have HWR := ae hW;have HZR := ae hz;have HMR := ae hM;clear hW hz hM;by_cases hlt : j < 16
  ·obtain ⟨bA, oA, rfl, hA, cA⟩ := HMR.out.rd.2 j hlt;have cs := HWR.out.sup.sta hlt;have fs := HWR.out.sup.free (5 + j);have hu : bt st j = ((st.getD j 0).toNat : Int) := rfl;rw [hu] at cA;have HU := ae hu;clear hu;obtain ⟨u, hu⟩ : ∃ u, st.getD j 0 = u := ⟨_, rfl⟩;rw [hu] at cA HU;clear hu;have HW' := ae (HWR.out.set (5 + j) _ (mv _ hlt u));have HM' := ae (HMR.out.ox (fz wr s (5 + j) (.int .u8 (u.toNat : Int))) (fun k hk => by injection hk with e; have := HSB.out; omega));have HZ' : Hid (∀ k, k < j + 1 -> bt (eP (z.toList.set j u)).toList k = bt st k) := ae fun k hk => by
    rw [fi (by simp), mm (by simpa using hlt)]
    split
    ·rename_i e; rw [e, HU.out]
    ·exact HZR.out k (by omega)
   go_wp2_with fail;go_roundw
   case rel => exact ⟨j + 1, by omega, by go_num, _, HW', HZ', HM'⟩
   case measure => simp [intOf]; omega
  ·have e : j = 16 := by omega
   subst e;have hzst : z = eP st := by
    rw [<- eC z]
    congr 1
    exact eB (by rw [HSL.out]; simp) fun k hk => HZR.out k (by simpa using hk)
   subst hzst;clear HMR HZR HV HW2;have HRD5 := ae (HRD.out.below HWR.out.bel);go_wp2_with fail;refine (di _ 44 c _ l 18 2 _ HRD5 (by unfold maxLen; omega) (by omega) (by omega) (by omega)).mono ?_;rintro e w' ⟨rfl, rfl⟩;rw [HCC.out];have cs := HWR.out.sup.cells.2.2.2.2.2.1;have fs := HWR.out.sup.free 21;have HW6 : Hid (RgW w1 (wr.setCell ⟨s, 21, none⟩ (.int .i64 (C : Nat))) s ⟨I, (E : Nat), ⟨(M : Nat), (T : Nat), (R : Nat), eP st, (C : Nat), false⟩⟩) := ae (HWR.out.set 21 _ (iV _ _));clear HWR HRD5;go_upto_region 13 with fail;generalize wr.setCell ⟨s, 21, none⟩ (.int .i64 (C : Nat)) = w6 at *;clear cs fs;obtain ⟨b20, o20, e20, hb20, c20⟩ := (HRD.out.below HW6.out.bel).2 20 (by omega);injection e20 with e20;injection e20 with e1 e2;subst e1 e2;have cs := HW6.out.sup.cells.2.2.2.2.2.2;have fs := HW6.out.sup.free 22;have HW7 : Hid (RgW w1 (w6.setCell ⟨s, 22, none⟩ (.bool (bt l 20 == 1))) s ⟨I, (E : Nat), ⟨(M : Nat), (T : Nat), (R : Nat), eP st, (C : Nat), gb⟩⟩) := ae (HW6.out.set 22 _ (by rw [HGB.out]; exact ia _ _));rw [<- HDEF.out] at HW7;clear HW6;go_upto_region 14 with fail;generalize w6.setCell ⟨s, 22, none⟩ (.bool (bt l 20 == 1)) = w7 at *;clear cs fs c20 hb20 HGB HDEF HST HSL HII HMM HTT HRR HEE HCC HSB;obtain ⟨y, hy⟩ : ∃ y, bS l = y := ⟨_, rfl⟩;rw [hy] at HW7 HM0 HD0 HI64 HPE;have HY := ae hy;clear hy;have HB7 := ae (HW7.out.out HB1);have HR7 := ae (bg HR1 HZ1 HW7.out.bel);have HA7 := ae (ce HA1 (by have := HZ1.out; omega) HW7.out.bel);have HZ7 : Hid (w.heap.size + 1 < w7.heap.size) := ae (aq HZ1 HW7.out.bel.size);have HS7 := ae HW7.out.sup;clear HW7 HA1 HR1 HB1 HZ1 HRD;go_wp2_with fail;refine (nC n w7).mono ?_;rintro e w' ⟨rfl, rfl⟩;rw [HEV.out];go_wp2_with (first | (refine av (by rfl) (bz (c := y) rfl rfl ?_) ?_; (with_reducible exact HS7.out.range)) | fail);refine (ug y w7).mono ?_;rintro e w8 ⟨rfl, hb⟩;rw [HM0.out];have HS8 := ae (HS7.out.below (aY HS7) hb);have HB8 := ae (HB7.out.trans (hb.mono HB7.out.size));have HR8 := ae (bg HR7 HZ7 hb);have HA8 := ae (ce HA7 (by have := HZ7.out; omega) hb);have HZ8 : Hid (w.heap.size + 1 < w8.heap.size) := ae (aq HZ7 hb.size);clear hb HS7 HB7 HR7 HA7 HZ7;go_wp2_with (first | (refine au rfl (bz (c := y) rfl rfl ?_) ?_; (with_reducible exact HS8.out.range)) | fail);refine (ye y w8 HI64 HM0).mono ?_;rintro e w9 ⟨v, rfl, hv, hb⟩;obtain ⟨A9, c9, rfl, hrd, _, _⟩ := hv.open_ (dE y);have HRD9 := ae hrd;have HS9 := ae (HS8.out.below (aY HS8) hb);have HB9 := ae (HB8.out.trans (hb.mono HB8.out.size));have HR9 := ae (bg HR8 HZ8 hb);have HA9 := ae (ce HA8 (by have := HZ8.out; omega) hb);have HZ9 : Hid (w.heap.size + 1 < w9.heap.size) := ae (aq HZ8 hb.size);clear hb hv hrd HS8 HB8 HR8 HA8 HZ8;go_wp2_with fail;refine (lN n 21 c9 _ A9 (cU y) w9 HN64 HRD9 ai (by unfold maxLen; omega)).mono ?_;rintro e w10 ⟨rfl, hb⟩;rw [HPE.out];obtain ⟨q, hq⟩ : ∃ q, dK n (cU y) = q := ⟨_, rfl⟩;rw [hq] at HD0 ⊢;clear hq;have hb2 := hb.alloc hb.size (.cells (cel q).toArray 29);have HQ := ae (cR w10 (cel q) 29);have HS10 := ae (HS9.out.below (aY HS9) hb2).range;have HB10 := ae (HB9.out.trans (hb2.mono HB9.out.size));have HR10 := ae (bg HR9 HZ9 hb2);have HA10 := ae (ce HA9 (by have := HZ9.out; omega) hb2);clear hb hb2 HS9 HB9 HR9 HA9 HZ9 HRD9;go_upto_region 17 with (first | (refine au rfl (bw rfl) ?_) | (refine az rfl (fY rfl rfl rfl) ?_) | fail);generalize w10.alloc (.cells (cel q).toArray 29) = w11 at *;generalize w10.heap.size = qb at *;go_wp2_with (first | (refine au rfl (bf (c := q) rfl rfl ?_) ?_; (with_reducible exact HQ.out)) | (refine au rfl (bf (c := b) rfl rfl ?_) ?_; (with_reducible exact HA10.out)) | (refine au rfl (oV true rfl rfl rfl HD0.out) ?_) | (refine au rfl (cG rfl) ?_) | (refine az rfl (bN (c := aT) rfl rfl rfl ?_) ?_; (with_reducible exact HR10.out)) | fail);refine bodyPost_ret (cC (t := 37) (cs := aN aT) rfl _ _ _ rfl ?h1 underlying37 rfl ?h2) rfl ⟨rfl, ?h3⟩
   case h1 => exact World.rangeAt_setCells_same _ _ _ _ (by rw [aA]; exact HR10)
   case h2 => rw [aA]; exact dj
   case h3 => exact below_setCells HB10 (Nat.le_succ _) _
theorem vc (b : Blk) (w : World) (h0 : db b.toList = 0) (hev : evB (c8 b.toList) = true) (hm : dX (bS (cH b.toList)) = true) (hd : dK (c8 b.toList) (cU (bS (cH b.toList))) = b) : Calls prog 85 #[blk b] w fun e w' => e = .returned (.tuple #[.int .u64 (c8 b.toList : Nat), sup (bS (cH b.toList)), .int .i64 (0 : Nat)]) /\ Below w.heap.size w w' := by
 obtain ⟨n, hn⟩ : ∃ n, c8 b.toList = n := ⟨_, rfl⟩;obtain ⟨l, hl⟩ : ∃ l, cH b.toList = l := ⟨_, rfl⟩;have h1 := (Below.refl w.heap.size w).alloc ai (.cells (cel b).toArray 29);have h2 := h1.alloc h1.size (.cells (aN aT).toArray 37);have HA : Hid (((w.alloc (.cells (cel b).toArray 29)).alloc (.cells (aN aT).toArray 37)).rangeAt w.heap.size 0 (cel b)) := ae (World.rangeAt_alloc (cR w (cel b) 29) _);have hsn := bJ.new (w.alloc (.cells (cel b).toArray 29)) aT;rw [World.size_alloc] at hsn;have HR := ae (aP (o := 0) (n := 23) hsn (by rw [aA]; exact ai));have HZ := ae (aY hsn);have HB := ae h2;have HN := ae hn;have HL := ae hl;clear h1 h2 hsn;have hi64 := eY (l := cH b.toList) (by rw [et h0]; omega);have hn64 := jC b;have hpe := fc (n := c8 b.toList) (bS (cH b.toList)) hev;rw [hn] at hev hd hn64 hpe;rw [hl] at hm hd hi64 hpe;have HEV := ae hev;have HM0 := ae hm;have HD0 : Hid ((!decide (dK n (cU (bS l)) = b)) = false) := ae (by simpa using hd);have HI64 := ae hi64;have HN64 := ae hn64;have HPE := ae hpe;clear hev hm hd hi64 hn64 hpe;have hll : l.length = 44 := by rw [<- hl]; exact et h0
 have HLL := ae hll;obtain ⟨I, hI⟩ : ∃ I : Nat, val 8 (piece l 0 8) = I := ⟨_, rfl⟩;obtain ⟨M, hM⟩ : ∃ M : Nat, val 8 (piece l 8 1) = M := ⟨_, rfl⟩;obtain ⟨T, hT⟩ : ∃ T : Nat, val 8 (piece l 9 2) = T := ⟨_, rfl⟩;obtain ⟨R, hR⟩ : ∃ R : Nat, val 8 (piece l 11 2) = R := ⟨_, rfl⟩;obtain ⟨E, hE⟩ : ∃ E : Nat, val 8 (piece l 13 1) = E := ⟨_, rfl⟩;obtain ⟨C, hC⟩ : ∃ C : Nat, val 8 (piece l 18 2) = C := ⟨_, rfl⟩;obtain ⟨G, hG⟩ : ∃ G : Nat, val 8 (piece l 20 1) = G := ⟨_, rfl⟩;obtain ⟨gb, hgb⟩ : ∃ gb, decide (G = 1) = gb := ⟨_, rfl⟩;have hgg : (bt l 20 == 1) = gb := by
  have e := kW (l := l) (p := 20) (by omega);rw [hG] at e;rw [<- e, <- hgb, Bool.eq_iff_iff]; simp; omega
 obtain ⟨st, hst⟩ : ∃ st, aU 2 16 (val 8 (piece l 14 4)) = st := ⟨_, rfl⟩;have HST := ae hst;have HSL : Hid (st.length = 16) := ae (by rw [<- hst, aD]);have HDEF : Hid (bS l = ⟨I, (E : Nat), ⟨(M : Nat), (T : Nat), (R : Nat), eP st, (C : Nat), gb⟩⟩) := ae (by unfold bS; rw [hI, hM, hT, hR, hE, hC, hG, hgb, hst]);have HGB := ae hgg;have H0 := ae h0;have HII := ae hI;have HMM := ae hM;have HTT := ae hT;have HRR := ae hR;have HEE := ae hE;have HCC := ae hC;have HGG := ae hG;clear hI hM hT hR hE hC hG hgb hst hll hgg h0 hn hl;go_enter func85, ntmps85;go_wp2_with (first | (refine au rfl (bZ rfl rfl) ?_) | (refine au rfl (aW rfl) ?_) | (refine au rfl (bf (c := b) rfl rfl ?_) ?_; (with_reducible exact HA.out)) | fail)
 try simp only [World.size_alloc]
 generalize (w.alloc (.cells (cel b).toArray 29)).alloc (.cells (aN aT).toArray 37) = w0 at *;refine (iQ b _ w0 (ae rfl)).mono ?_;rintro e w1 ⟨v, rfl, hv, hb⟩;rw [HN.out];rw [H0.out];rw [HL.out] at hv;obtain ⟨g, c, rfl, _, hc1, hc2⟩ := hv.smn (by rw [HLL.out]; omega);rw [HLL.out] at hc1 hv ⊢;have HRD := ae hv.rd;have HR1 := ae (bg HR HZ hb);have HA1 := ae (ce HA (by have := HZ.out; omega) hb);have HB1 := ae (HB.out.trans (hb.mono HB.out.size));have HZ1 : Hid (w.heap.size + 1 < w1.heap.size) := ae (aq HZ hb.size);have HC1 := ae hc1;clear hv hb HA HR HB HZ hc1 hc2;go_wp2_with fail;refine (dU _ 44 c _ l 0 8 w1 HRD (by unfold maxLen; omega) (by omega) (by omega) (by omega)).mono ?_;rintro e w' ⟨rfl, rfl⟩;rw [HII.out];go_wp2_with fail;refine (di _ 44 c _ l 13 1 w1 HRD (by unfold maxLen; omega) (by omega) (by omega) (by omega)).mono ?_;rintro e w' ⟨rfl, rfl⟩;rw [HEE.out];have HW0 := ae (RgW.start w1 ⟨I, (E : Nat), bK⟩);go_upto_region 6 with (first | (refine au rfl (iy I (E : Nat) rfl rfl rfl) ?_) | (refine au rfl (aW rfl) ?_) | (refine az rfl (bW rfl rfl rfl) ?_) | fail);generalize w1.alloc (.cells (aN ⟨I, (E : Nat), bK⟩).toArray 37) = w2 at *;obtain ⟨s, hs⟩ : ∃ s, w1.heap.size = s := ⟨_, rfl⟩;have HSD := ae hs;rw [hs] at HW0 ⊢;clear hs;have HRD2 := ae (HRD.out.below HW0.out.bel);go_wp2_with fail;refine (di _ 44 c _ l 8 1 _ HRD2 (by unfold maxLen; omega) (by omega) (by omega) (by omega)).mono ?_;rintro e w' ⟨rfl, rfl⟩;rw [HMM.out];go_wp2_with fail;refine (di _ 44 c _ l 9 2 _ HRD2 (by unfold maxLen; omega) (by omega) (by omega) (by omega)).mono ?_;rintro e w' ⟨rfl, rfl⟩;rw [HTT.out];go_wp2_with fail;refine (di _ 44 c _ l 11 2 _ HRD2 (by unfold maxLen; omega) (by omega) (by omega) (by omega)).mono ?_;rintro e w' ⟨rfl, rfl⟩;rw [HRR.out];have HTH := ae (aP (o := 2) (n := 3) HW0.out.sup (by rw [aA]; omega));have HW1 : Hid (RgW w1 (((w2.setCell ⟨s, 2, none⟩ (.int .i64 (M : Nat))).setCell ⟨s, 2 + 1, none⟩ (.int .i64 (T : Nat))).setCell ⟨s, 2 + 1 + 1, none⟩ (.int .i64 (R : Nat))) s ⟨I, (E : Nat), ⟨(M : Nat), (T : Nat), (R : Nat), bK.st, 0, false⟩⟩) :=
  ae (((HW0.out.set 2 _ (mK _ _)).set 3 _ (ny _ _)).set 4 _ (nt _ _))
 go_upto_region 7 with (first | (refine au rfl (ix (M : Nat) (T : Nat) (R : Nat) rfl rfl rfl rfl) ?_) | (refine az rfl (ir (M : Nat) (T : Nat) (R : Nat) rfl rfl rfl HTH.out) ?_) | fail);generalize ((w2.setCell ⟨s, 2, none⟩ (.int .i64 (M : Nat))).setCell ⟨s, 2 + 1, none⟩ (.int .i64 (T : Nat))).setCell ⟨s, 2 + 1 + 1, none⟩ (.int .i64 (R : Nat)) = w3 at *;clear HRD2 HTH HW0;have HRD3 := ae (HRD.out.below HW1.out.bel);have HRD4 : Hid (Rd w3 w1.heap.size (some ⟨g, 14, none⟩) 4 (piece l 14 4)) := ae ⟨co (by rw [HLL.out]; omega), fun j hj => by
  obtain ⟨b0, o0, e, hb0, hc0⟩ := HRD3.out.2 (14 + j) (by omega);injection e with e;injection e with e1 e2;subst e1 e2;refine ⟨g, 14, rfl, hb0, ?_⟩;rw [gh hj];rw [Nat.zero_add] at hc0;exact hc0⟩
 have hs1 := HW1.out.bel.size;go_wp2_with (first | (refine au rfl (fO HC1 rfl rfl rfl rfl) ?_) | fail);refine (iw _ 4 (c - 14) _ 2 16 _ (piece l 14 4) w3 (ae rfl) HRD4 hs1 (by omega) (by omega) (by omega) (by omega) (by decide)).mono ?_;rintro e w4 ⟨v, rfl, hv, hb⟩;rw [HST.out] at hv;obtain ⟨A, cc, rfl, _, _, _⟩ := hv.open_ HSL;have HV := ae hv;have HW2 := ae (HW1.out.keep hb);have HSB : Hid (s < w3.heap.size) := ae (aY HW1.out.sup);clear hv hb HRD3 HRD4 HW1 hs1;obtain ⟨B4, hB4⟩ : ∃ B4, w3.heap.size = B4 := ⟨_, rfl⟩;rw [hB4] at HV HSB;clear hB4;go_wp2_with fail
 go_loopw [13] (fun i wr => ∃ j : Nat, j <= 16 /\ i = .int .i64 j /\ ∃ z : Vector UInt8 16, RgW w1 wr s ⟨I, (E : Nat), ⟨(M : Nat), (T : Nat), (R : Nat), z, 0, false⟩⟩ /\ (∀ k, k < j -> bt z.toList k = bt st k) /\ Made wr B4 (.slice A 16 cc) st) (fun i _ => 16 - (intOf i).toNat)
 case atStart => exact ⟨0, Nat.zero_le _, rfl, _, HW2, fun k hk => absurd hk (by omega), HV⟩
 case round =>
  obtain ⟨j, hj, rfl, z, hW, hz, hM⟩ := hrel;have HWR := ae hW;have HZR := ae hz;have HMR := ae hM;clear hW hz hM;by_cases hlt : j < 16
  ·obtain ⟨bA, oA, rfl, hA, cA⟩ := HMR.out.rd.2 j hlt;have cs := HWR.out.sup.sta hlt;have fs := HWR.out.sup.free (5 + j);have hu : bt st j = ((st.getD j 0).toNat : Int) := rfl;rw [hu] at cA;have HU := ae hu;clear hu;obtain ⟨u, hu⟩ : ∃ u, st.getD j 0 = u := ⟨_, rfl⟩;rw [hu] at cA HU;clear hu;have HW' := ae (HWR.out.set (5 + j) _ (mv _ hlt u));have HM' := ae (HMR.out.ox (fz wr s (5 + j) (.int .u8 (u.toNat : Int))) (fun k hk => by injection hk with e; have := HSB.out; omega));have HZ' : Hid (∀ k, k < j + 1 -> bt (eP (z.toList.set j u)).toList k = bt st k) := ae fun k hk => by
    rw [fi (by simp), mm (by simpa using hlt)]
    split
    ·rename_i e; rw [e, HU.out]
    ·exact HZR.out k (by omega)
   go_wp2_with fail;go_roundw
   case rel => exact ⟨j + 1, by omega, by go_num, _, HW', HZ', HM'⟩
   case measure => simp [intOf]; omega
  ·have e : j = 16 := by omega
   subst e;have hzst : z = eP st := by
    rw [<- eC z]
    congr 1
    exact eB (by rw [HSL.out]; simp) fun k hk => HZR.out k (by simpa using hk)
   subst hzst;clear HMR HZR HV HW2;have HRD5 := ae (HRD.out.below HWR.out.bel);go_wp2_with fail;refine (di _ 44 c _ l 18 2 _ HRD5 (by unfold maxLen; omega) (by omega) (by omega) (by omega)).mono ?_;rintro e w' ⟨rfl, rfl⟩;rw [HCC.out];have cs := HWR.out.sup.cells.2.2.2.2.2.1;have fs := HWR.out.sup.free 21;have HW6 : Hid (RgW w1 (wr.setCell ⟨s, 21, none⟩ (.int .i64 (C : Nat))) s ⟨I, (E : Nat), ⟨(M : Nat), (T : Nat), (R : Nat), eP st, (C : Nat), false⟩⟩) := ae (HWR.out.set 21 _ (iV _ _));clear HWR HRD5;go_upto_region 13 with fail;generalize wr.setCell ⟨s, 21, none⟩ (.int .i64 (C : Nat)) = w6 at *;clear cs fs;obtain ⟨b20, o20, e20, hb20, c20⟩ := (HRD.out.below HW6.out.bel).2 20 (by omega);injection e20 with e20;injection e20 with e1 e2;subst e1 e2;have cs := HW6.out.sup.cells.2.2.2.2.2.2;have fs := HW6.out.sup.free 22;have HW7 : Hid (RgW w1 (w6.setCell ⟨s, 22, none⟩ (.bool (bt l 20 == 1))) s ⟨I, (E : Nat), ⟨(M : Nat), (T : Nat), (R : Nat), eP st, (C : Nat), gb⟩⟩) := ae (HW6.out.set 22 _ (by rw [HGB.out]; exact ia _ _));rw [<- HDEF.out] at HW7;clear HW6;go_upto_region 14 with fail;generalize w6.setCell ⟨s, 22, none⟩ (.bool (bt l 20 == 1)) = w7 at *;clear cs fs c20 hb20 HGB HDEF HST HSL HII HMM HTT HRR HEE HCC HSB;obtain ⟨y, hy⟩ : ∃ y, bS l = y := ⟨_, rfl⟩;rw [hy] at HW7 HM0 HD0 HI64 HPE;have HY := ae hy;clear hy;have HB7 := ae (HW7.out.out HB1);have HR7 := ae (bg HR1 HZ1 HW7.out.bel);have HA7 := ae (ce HA1 (by have := HZ1.out; omega) HW7.out.bel);have HZ7 : Hid (w.heap.size + 1 < w7.heap.size) := ae (aq HZ1 HW7.out.bel.size);have HS7 := ae HW7.out.sup;clear HW7 HA1 HR1 HB1 HZ1 HRD;go_wp2_with fail;refine (nC n w7).mono ?_;rintro e w' ⟨rfl, rfl⟩;rw [HEV.out];go_wp2_with (first | (refine av (by rfl) (bz (c := y) rfl rfl ?_) ?_; (with_reducible exact HS7.out.range)) | fail);refine (ug y w7).mono ?_;rintro e w8 ⟨rfl, hb⟩;rw [HM0.out];have HS8 := ae (HS7.out.below (aY HS7) hb);have HB8 := ae (HB7.out.trans (hb.mono HB7.out.size));have HR8 := ae (bg HR7 HZ7 hb);have HA8 := ae (ce HA7 (by have := HZ7.out; omega) hb);have HZ8 : Hid (w.heap.size + 1 < w8.heap.size) := ae (aq HZ7 hb.size);clear hb HS7 HB7 HR7 HA7 HZ7;go_wp2_with (first | (refine au rfl (bz (c := y) rfl rfl ?_) ?_; (with_reducible exact HS8.out.range)) | fail);refine (ye y w8 HI64 HM0).mono ?_;rintro e w9 ⟨v, rfl, hv, hb⟩;obtain ⟨A9, c9, rfl, hrd, _, _⟩ := hv.open_ (dE y);have HRD9 := ae hrd;have HS9 := ae (HS8.out.below (aY HS8) hb);have HB9 := ae (HB8.out.trans (hb.mono HB8.out.size));have HR9 := ae (bg HR8 HZ8 hb);have HA9 := ae (ce HA8 (by have := HZ8.out; omega) hb);have HZ9 : Hid (w.heap.size + 1 < w9.heap.size) := ae (aq HZ8 hb.size);clear hb hv hrd HS8 HB8 HR8 HA8 HZ8;go_wp2_with fail;refine (lN n 21 c9 _ A9 (cU y) w9 HN64 HRD9 ai (by unfold maxLen; omega)).mono ?_;rintro e w10 ⟨rfl, hb⟩;rw [HPE.out];obtain ⟨q, hq⟩ : ∃ q, dK n (cU y) = q := ⟨_, rfl⟩;rw [hq] at HD0 ⊢;clear hq;have hb2 := hb.alloc hb.size (.cells (cel q).toArray 29);have HQ := ae (cR w10 (cel q) 29);have HS10 := ae (HS9.out.below (aY HS9) hb2).range;have HB10 := ae (HB9.out.trans (hb2.mono HB9.out.size));have HR10 := ae (bg HR9 HZ9 hb2);have HA10 := ae (ce HA9 (by have := HZ9.out; omega) hb2);clear hb hb2 HS9 HB9 HR9 HA9 HZ9 HRD9;go_upto_region 17 with (first | (refine au rfl (bw rfl) ?_) | (refine az rfl (fY rfl rfl rfl) ?_) | fail);generalize w10.alloc (.cells (cel q).toArray 29) = w11 at *;generalize w10.heap.size = qb at *;go_wp2_with (first | (refine au rfl (bf (c := q) rfl rfl ?_) ?_; (with_reducible exact HQ.out)) | (refine au rfl (bf (c := b) rfl rfl ?_) ?_; (with_reducible exact HA10.out)) | (refine au rfl (oV false rfl rfl rfl HD0.out) ?_) | fail);refine wp_region_still_tail 3 (by kernel_rfl) (by kernel_rfl) ?_;simp only [ac];refine aM rfl (aJ rfl aez) ?_;simp only [aa];refine aM rfl (bz (c := y) rfl aez HS10) ?_;simp only [aa];refine aM rfl (dp rfl aez) ?_;simp only [aa];refine wpStill_nil ?_;change wpList _ _ _ _ _ (World.drew _);refine bj rfl (bN (c := y) rfl (ev rfl) (ev rfl) HR10.out) ?_;simp only [aa];refine aK 1 ?_;go_wp2_with fail;refine bodyPost_ret (cC (t := 37) (cs := aN y) rfl _ _ _ rfl ?h1 underlying37 rfl ?h2) rfl ⟨by rw [HN.out, HL.out, HY.out]; rfl, ?h3⟩
   case h1 => exact World.rangeAt_setCells_same _ _ _ _ (by rw [aA]; exact HR10)
   case h2 => rw [aA]; exact dj
   case h3 => exact below_setCells (bd HB10) (Nat.le_succ _) _
theorem aby (b : Blk) (w : World) : Calls prog 85 #[blk b] w fun e w' => e = .returned (.tuple #[.int .u64 (gsN b : Nat), sup (gsS b), .int .i64 (gsE b : Nat)]) /\ Below w.heap.size w w' := by
 by_cases h0 : db b.toList = 0
 ·by_cases hev : evB (c8 b.toList) = true
  ·by_cases hm : dX (bS (cH b.toList)) = true
   ·by_cases hd : dK (c8 b.toList) (cU (bS (cH b.toList))) = b
    ·have hE := tL h0 ⟨hev, hm, (kw h0 hev _).1 hd⟩;rw [nD hE, pu hE, hE];exact vc b w h0 hev hm hd
    ·have hE := gR h0 (fun h => hd ((kw h0 hev _).2 h.2.2));rw [gn (by omega), gG (by omega), hE];exact yn b w h0 hev hm hd
   ·have hE := gR h0 (fun h => hm h.2.1);rw [gn (by omega), gG (by omega), hE];exact uQ b w h0 hev (by simpa using hm)
  ·have hE := gR h0 (fun h => hev h.1);rw [gn (by omega), gG (by omega), hE];exact xg b w h0 (by simpa using hev)
 ·have hE := nI h0;rw [gn (by omega), gG (by omega), hE];exact tR b w h0
theorem sG (a b : Blk) (w : World) : Calls prog 58 #[blk a, blk b] w fun e w' => e = .returned (.tuple #[.int .u64 (nwN a b : Nat), sup (nwS a b), .int .i64 (nwE a b : Nat)]) /\ Below w.heap.size w w' := by
 obtain ⟨h1, h2, h3, h4, h5⟩ := jy w a b;unfold w3_ at h1 h2 h3 h4 h5;obtain ⟨x, hx⟩ : ∃ x, gsN a = x := ⟨_, rfl⟩;obtain ⟨y, hy⟩ : ∃ y, gsN b = y := ⟨_, rfl⟩;obtain ⟨p, hp⟩ : ∃ p, gsS a = p := ⟨_, rfl⟩;obtain ⟨q, hq⟩ : ∃ q, gsS b = q := ⟨_, rfl⟩;obtain ⟨ea, hea⟩ : ∃ e, gsE a = e := ⟨_, rfl⟩;obtain ⟨eb, heb⟩ : ∃ e, gsE b = e := ⟨_, rfl⟩;have HX := ae hx;have HY := ae hy;have HP := ae hp;have HQ := ae hq;have HEA := ae hea;have HEB := ae heb;have hxa := iY (b := a);have hxb := iY (b := b);rw [hx, hea] at hxa;rw [hy, heb] at hxb;have HXA := ae hxa;have HXB := ae hxb;clear hx hy hp hq hea heb hxa hxb;have HNN : Hid (nwN a b = if x < y then y else x) := ae (by unfold nwN; rw [HX.out, HY.out]);have HNS : Hid (nwS a b = if x < y then q else p) := ae (by unfold nwS; rw [HX.out, HY.out, HP.out, HQ.out]);have HNE : Hid (nwE a b = if x = 0 /\ y = 0 then 7 else 0) := ae (by unfold nwE; rw [HX.out, HY.out]);have HPZ : Hid (ea ≠ 0 -> p = aT) := ae fun h => by rw [<- HP.out]; exact gG (by rw [HEA.out]; exact h)
 have HA := ae h1;have HBK := ae h2;have HR := ae h3;have HB := ae h4;have HZ := ae h5;clear h1 h2 h3 h4 h5;go_enter func58, ntmps58;go_wp2_with (first | (refine au rfl (bZ rfl rfl) ?_) | (refine au rfl (aW rfl) ?_) | (refine au rfl (bf (c := a) rfl rfl ?_) ?_; (with_reducible exact HA.out)) | fail)
 try simp only [World.size_alloc]
 generalize ((w.alloc (.cells (cel a).toArray 29)).alloc (.cells (cel b).toArray 29)).alloc (.cells (aN aT).toArray 37) = w0 at *;refine (aby a w0).mono ?_;rintro e w1 ⟨rfl, hb⟩;rw [HX.out, HP.out, HEA.out];have hb1 := hb.alloc hb.size (.cells (aN p).toArray 37);have HBK1 := ae (ce HBK (by have := HZ.out; omega) hb1);have HR1 := ae (bg HR HZ hb1);have HB1 := ae (HB.out.trans (hb1.mono HB.out.size));have HPA := ae (bJ.new w1 p);have HZ1 : Hid (w.heap.size + 1 + 1 < (w1.alloc (.cells (aN p).toArray 37)).heap.size) := ae (aq HZ hb1.size);clear hb hb1 HA HBK HB HZ HR;go_upto_region 2 with (first | (refine au rfl (aW rfl) ?_) | (refine az rfl (bW rfl rfl rfl) ?_) | fail);generalize w1.alloc (.cells (aN p).toArray 37) = w2 at *;go_wp2_with (first | (refine au rfl (bf (c := b) rfl rfl ?_) ?_; (with_reducible exact HBK1.out)) | fail);refine (aby b w2).mono ?_;rintro e w3 ⟨rfl, hb⟩;rw [HY.out, HQ.out, HEB.out];have hb3 := hb.alloc hb.size (.cells (aN q).toArray 37);have HB4 := ae (HB1.out.trans (hb3.mono HB1.out.size));have HR4 := ae (bg HR1 HZ1 hb3);have HPR := ae (HPA.out.below (aY HPA) hb3).range;have HQR := ae (bJ.new w3 q).range;clear hb hb3 HBK1 HB1 HR1 HPA HZ1;go_upto_region 3 with (first | (refine au rfl (aW rfl) ?_) | (refine az rfl (bW rfl rfl rfl) ?_) | fail);generalize w3.alloc (.cells (aN q).toArray 37) = w4 at *;by_cases h0 : ea = 0
 ·have HEAN : Hid (((ea : Int) != 0) = false) := ae (by rw [h0]; rfl);have hx0 : x ≠ 0 := fun e => (HXA.out.1 e) h0
  rw [if_neg (by omega)] at HNE;refine aV 1 ?_;refine aep (aI false rfl aez evk HEAN) ?_;refine aG 2 rfl (aJ rfl aez) (by kernel_rfl) ?_;simp only [bc, ac, aa];refine aK 1 ?_;go_upto_region 5 with fail;refine aV 1 ?_;refine aep (aI false rfl aez evk HEAN) ?_;refine runs 2 ?_;by_cases h1 : eb = 0
  ·have HEBQ : Hid (((eb : Int) == 0) = true) := ae (by rw [h1]; rfl);refine aew (aH true rfl aez evk HEBQ) ?_;refine runs 3 ?_;by_cases hlt : x < y
   ·have HGT : Hid (decide ((x : Int) < (y : Int)) = true) := ae (am (by omega));rw [if_pos hlt] at HNN HNS;clear h0 h1 hx0 hlt;refine aew (df true rfl aez aez HGT) ?_;refine aK 2 ?_;go_wp2_with fail;refine wp_region_still_tail 3 (by kernel_rfl) (by kernel_rfl) ?_;simp only [ac];refine aM rfl (aJ rfl aez) ?_;simp only [aa];refine aM rfl (bz (c := q) rfl aez HQR) ?_;simp only [aa];refine aM rfl (dp rfl aez) ?_;simp only [aa];refine wpStill_nil ?_;change wpList _ _ _ _ _ (World.drew _);refine bj rfl (bN (c := q) rfl (ev rfl) (ev rfl) HR4.out) ?_;simp only [aa];refine aK 1 ?_;go_wp2_with fail;refine bodyPost_ret (cC (t := 37) (cs := aN q) rfl _ _ _ rfl ?h1 underlying37 rfl ?h2) rfl ⟨by rw [HNE.out, HNN.out, HNS.out]; rfl, ?h3⟩
    case h1 => exact World.rangeAt_setCells_same _ _ _ _ (by rw [aA]; exact HR4)
    case h2 => rw [aA]; exact dj
    case h3 => exact below_setCells (bd HB4) (by omega) _
   ·have HGT : Hid (decide ((x : Int) < (y : Int)) = false) := ae (al (by omega));rw [if_neg hlt] at HNN HNS;clear h0 h1 hx0 hlt;refine aew (df false rfl aez aez HGT) ?_;refine aK 2 ?_;go_wp2_with fail;refine wp_region_still_tail 3 (by kernel_rfl) (by kernel_rfl) ?_;simp only [ac];refine aM rfl (aJ rfl aez) ?_;simp only [aa];refine aM rfl (bz (c := p) rfl aez HPR) ?_;simp only [aa];refine aM rfl (dp rfl aez) ?_;simp only [aa];refine wpStill_nil ?_;change wpList _ _ _ _ _ (World.drew _);refine bj rfl (bN (c := p) rfl (ev rfl) (ev rfl) HR4.out) ?_;simp only [aa];refine aK 1 ?_;go_wp2_with fail;refine bodyPost_ret (cC (t := 37) (cs := aN p) rfl _ _ _ rfl ?h1 underlying37 rfl ?h2) rfl ⟨by rw [HNE.out, HNN.out, HNS.out]; rfl, ?h3⟩
    case h1 => exact World.rangeAt_setCells_same _ _ _ _ (by rw [aA]; exact HR4)
    case h2 => rw [aA]; exact dj
    case h3 => exact below_setCells (bd HB4) (by omega) _
  ·have HEBQ : Hid (((eb : Int) == 0) = false) := ae (by simp; omega);have hy0 : y = 0 := HXB.out.2 h1;rw [if_neg (by omega)] at HNN HNS;clear h0 h1 hx0 hy0;refine aew (aH false rfl aez evk HEBQ) ?_;refine aG 3 aek (aJ rfl aez) (by kernel_rfl) ?_;simp only [bc, ac, aa];refine aK 2 ?_;go_wp2_with fail;refine wp_region_still_tail 3 (by kernel_rfl) (by kernel_rfl) ?_;simp only [ac];refine aM rfl (aJ rfl aez) ?_;simp only [aa];refine aM rfl (bz (c := p) rfl aez HPR) ?_;simp only [aa];refine aM rfl (dp rfl aez) ?_;simp only [aa];refine wpStill_nil ?_;change wpList _ _ _ _ _ (World.drew _);refine bj rfl (bN (c := p) rfl (ev rfl) (ev rfl) HR4.out) ?_;simp only [aa];refine aK 1 ?_;go_wp2_with fail;refine bodyPost_ret (cC (t := 37) (cs := aN p) rfl _ _ _ rfl ?h1 underlying37 rfl ?h2) rfl ⟨by rw [HNE.out, HNN.out, HNS.out]; rfl, ?h3⟩
   case h1 => exact World.rangeAt_setCells_same _ _ _ _ (by rw [aA]; exact HR4)
   case h2 => rw [aA]; exact dj
   case h3 => exact below_setCells (bd HB4) (by omega) _
 ·have HEAN : Hid (((ea : Int) != 0) = true) := ae (by simp; omega);have hx0 : x = 0 := HXA.out.2 h0;have HPZ2 := ae (HPZ.out h0);refine aV 1 ?_;refine aep (aI true rfl aez evk HEAN) ?_;refine runs 2 ?_;by_cases h1 : eb = 0
  ·have HEBN : Hid (((eb : Int) != 0) = false) := ae (by rw [h1]; rfl);have HEBQ : Hid (((eb : Int) == 0) = true) := ae (by rw [h1]; rfl);have hy0 : y ≠ 0 := fun e => (HXB.out.1 e) h1
   rw [if_pos (by omega)] at HNN HNS;rw [if_neg (by omega)] at HNE;clear h0 h1 hx0 hy0;refine aew (aI false rfl aez evk HEBN) ?_;refine aK 1 ?_;go_upto_region 5 with fail;refine aV 1 ?_;refine aep (aI true rfl aez evk HEAN) ?_;refine aG 7 rfl (aJ rfl aez) (by kernel_rfl) ?_;simp only [bc, ac, aa];refine aK 1 ?_;go_wp2_with fail;refine wp_region_still_tail 3 (by kernel_rfl) (by kernel_rfl) ?_;simp only [ac];refine aM rfl (aJ rfl aez) ?_;simp only [aa];refine aM rfl (bz (c := q) rfl aez HQR) ?_;simp only [aa];refine aM rfl (dp rfl aez) ?_;simp only [aa];refine wpStill_nil ?_;change wpList _ _ _ _ _ (World.drew _);refine bj rfl (bN (c := q) rfl (ev rfl) (ev rfl) HR4.out) ?_;simp only [aa];refine aK 1 ?_;go_wp2_with fail;refine bodyPost_ret (cC (t := 37) (cs := aN q) rfl _ _ _ rfl ?h1 underlying37 rfl ?h2) rfl ⟨by rw [HNE.out, HNN.out, HNS.out]; rfl, ?h3⟩
   case h1 => exact World.rangeAt_setCells_same _ _ _ _ (by rw [aA]; exact HR4)
   case h2 => rw [aA]; exact dj
   case h3 => exact below_setCells (bd HB4) (by omega) _
  ·have HEBN : Hid (((eb : Int) != 0) = true) := ae (by simp; omega);have hy0 : y = 0 := HXB.out.2 h1;rw [if_neg (by omega)] at HNN HNS;rw [if_pos (by omega)] at HNE;rw [hx0] at HNN;rw [HPZ2.out] at HNS;clear h0 h1 hx0 hy0;refine aew (aI true rfl aez evk HEBN) ?_;refine aK 1 ?_;go_wp2_with (first | (refine au rfl (cG rfl) ?_) | (refine az rfl (bN (c := aT) rfl rfl rfl ?_) ?_; (with_reducible exact HR4.out)) | fail);refine bodyPost_ret (cC (t := 37) (cs := aN aT) rfl _ _ _ rfl ?h1 underlying37 rfl ?h2) rfl ⟨by rw [HNE.out, HNN.out, HNS.out]; rfl, ?h3⟩
   case h1 => exact World.rangeAt_setCells_same _ _ _ _ (by rw [aA]; exact HR4)
   case h2 => rw [aA]; exact dj
   case h3 => exact below_setCells HB4 (by omega) _
end Go.Proofs.YtehefifamaofkaaGreatDoor
