import Derived.Test.YtehefifamaofkaaGreatDoorGsaf
import Derived.LaidEqlPtr
namespace Go.Proofs.YtehefifamaofkaaGreatDoor
set_option maxHeartbeats 8000000
open Go.Proofs.Tryz
open Go.RowKit
set_option linter.unusedVariables false
set_option maxRecDepth 100000
structure CrG (w : World) (G : Nat -> Prop) : Prop where
 t : Tab w
 off : ¬ G 0
structure nv where
 R : nM
 J : World -> (Nat -> Prop) -> Nat -> Nat -> HuS -> Prop
 lt : ∀ {w G q p h}, J w G q p h -> ∀ b, G b -> b < w.heap.size
 fin : ∀ {w G q p h}, J w G q p h -> aU h.R = true /\ h.id ≠ 0
 only : ∀ {w w' G F q p h}, J w G q p h -> Only F w w' -> (∀ b, G b -> ¬ F b) -> J w' G q p h
 ben : ∀ {w G q p h}, J w G q p h -> ∃ Gb, R.Bn w Gb q h.M /\ (∀ b, Gb b -> G b) /\ ∀ w' Gb' M', R.Bn w' Gb' q M' -> Only Gb w w' -> Grow w Gb Gb' -> ∃ G', J w' G' q p { h with M := M' } /\ Only G w w' /\ Grow w G G'
 new_ : ∀ {w G q M} (id ev : Nat) (x : Ros), id < 18446744073709551616 -> ev < 18446744073709551616 -> R.Bn w G q M -> Calls prog 27 #[.pointer (some ⟨q, 0, none⟩), .int .u64 (id : Int), .int .u64 (ev : Int), ros x] w fun e w' =>
  Below w.heap.size w w' /\ ((ju M id ev x = true /\ ∃ p G', e = .returned (.tuple #[.pointer (some ⟨p, 0, none⟩), .int .i64 0]) /\ J w' G' q p ⟨M, id, ev, x⟩ /\ ∀ b, G' b -> G b \/ w.heap.size <= b) \/ (ju M id ev x = false /\ e = .returned (.tuple #[.pointer none, .int .i64 2])))
 new_nil : ∀ (w : World) (id ev : Nat) (x : Ros), id < 18446744073709551616 -> ev < 18446744073709551616 -> Calls prog 27 #[.pointer none, .int .u64 (id : Int), .int .u64 (ev : Int), ros x] w fun e w' => e = .returned (.tuple #[.pointer none, .int .i64 1]) /\ Below w.heap.size w w'
 save : ∀ {w G q p h}, J w G q p h -> CrG w G -> Room h.M 600 -> h.ev <= 4611686018427387000 -> Calls prog 28 #[.pointer (some ⟨p, 0, none⟩)] w fun e w' => e = .returned (.int .i64 (ia h)) /\ ∃ G', (ia h = 0 -> J w' G' q p (el h)) /\ Only G w w' /\ Grow w G G' /\ ∃ Gb, R.Bn w' Gb q (el h).M /\ ∀ b, Gb b -> G' b
 rS : ∀ {w G q p h}, J w G q p h -> Calls prog 32 #[.pointer (some ⟨p, 0, none⟩)] w fun e w' => e = .returned (.int .u64 (h.ev : Int)) /\ Below w.heap.size w w'
 nL : ∀ {w G q p h}, J w G q p h -> Calls prog 29 #[.pointer (some ⟨p, 0, none⟩)] w fun e w' => e = .returned (ros h.R) /\ Below w.heap.size w w'
 No : World -> Value -> Prop
 zc : List Value
 zb : List Value
 no_nil : ∀ w : World, No w (.pointer none)
 bld0 : ∀ w : World, (Instr.build 112 #[]).run prog w = .ok (.agg zc.toArray) w
 bldB : ∀ w : World, (Instr.build 75 #[]).run prog w = .ok (.agg zb.toArray) w
 no_zero : ∀ w : World, No (w.alloc (.cells zc.toArray 112)) (.pointer (some ⟨w.heap.size, 0, none⟩))
 no_below : ∀ {w w' : World} {v : Value}, No w v -> Below w.heap.size w w' -> No w' v
 new_zero : ∀ (w : World) (b : Nat) (id ev : Nat) (x : Ros), w.heap[b]? = some (.cells zb.toArray 75 (0, 0)) -> id < 18446744073709551616 -> ev < 18446744073709551616 -> Calls prog 27 #[.pointer (some ⟨b, 0, none⟩), .int .u64 (id : Int), .int .u64 (ev : Int), ros x] w fun e w' => e = .returned (.tuple #[.pointer none, .int .i64 1]) /\ Below w.heap.size w w'
 no_save : ∀ (w : World) (v : Value) , No w v -> Calls prog 28 #[v] w fun e w' => e = .returned (.int .i64 1) /\ Below w.heap.size w w'
 no_event : ∀ (w : World) (v : Value) , No w v -> Calls prog 32 #[v] w fun e w' => e = .returned (.int .u64 0) /\ Below w.heap.size w w'
theorem nv.below (C : nv) {w w' : World} {G : Nat -> Prop} {q p : Nat} {h : HuS} (hj : C.J w G q p h) (k : Below w.heap.size w w') : C.J w' G q p h := C.only hj (Only.of_below (fun _ => False) k) fun _ _ e => e
structure jM (w0 : World) (B : Nat) : Prop where
 le : B <= w0.heap.size
 t : Tab w0
 lo : 0 < B
theorem ko {w : World} {b j : Nat} {v : Value} (h : w.cell? ⟨b, j, none⟩ = some v) : b < w.heap.size := by
 rcases Nat.lt_or_ge b w.heap.size with h' | h'
 ·exact h'
 ·have : w.heap[b]? = none := Array.getElem?_eq_none h';simp [World.cell?, this] at h
theorem jM.start {w : World} (h : Tab w) : jM w w.heap.size := ⟨ai, h, ko (h 0 (by omega))⟩
theorem jM.tab {w0 w : World} {B : Nat} (h : jM w0 B) (hb : Below B w0 w) : Tab w := fun i hi => (World.cell?_of_block (w := w0) (hb.block _ h.lo)).trans (h.t i hi)
def HAt (C : nv) (w0 : World) (B : Nat) (K : Nat -> Prop) (w : World) (q p : Nat) (h : HuS) : Prop := ∃ G, C.J w G q p h /\ (∀ b, G b -> B <= b) /\ Below B w0 w /\ jM w0 B /\ ∀ b, K b -> ¬ G b /\ b < w.heap.size
def dd (K : Nat -> Prop) (w w' : World) : Prop := ∀ b, K b -> w'.heap[b]? = w.heap[b]?
theorem dd.trans {K : Nat -> Prop} {w1 w2 w3 : World} (h : dd K w1 w2) (k : dd K w2 w3) : dd K w1 w3 := fun b e => (k b e).trans (h b e)
theorem dd.less {K K' : Nat -> Prop} {w1 w2 : World} (h : dd K w1 w2) (hK : ∀ b, K' b -> K b) : dd K' w1 w2 := fun b e => h b (hK b e)
theorem dd.at_ {K : Nat -> Prop} {w w' : World} {b : Nat} {o : Obj} (k : dd K w w') (hb : K b) (ho : w.heap[b]? = some o) : w'.heap[b]? = some o := (k b hb).trans ho
theorem dd.rL {K : Nat -> Prop} {w w' : World} {g : Nat} (ho : Only (fun b => b = g) w w') (hK : ∀ b, K b -> b ≠ g /\ b < w.heap.size) : dd K w w' := fun b e => ho.block b (hK b e).2 (hK b e).1
section
variable {C : nv} {w0 w w' : World} {B q p : Nat} {K K' : Nat -> Prop} {h h' : HuS}
theorem HAt.bel (a : HAt C w0 B K w q p h) : Below B w0 w := by obtain ⟨G, h1, h2, h3, _⟩ := a; exact h3
theorem HAt.guard (a : HAt C w0 B K w q p h) (k : Below w.heap.size w w') (hK : ∀ b, K' b -> K b \/ (w.heap.size <= b /\ b < w'.heap.size)) : HAt C w0 B K' w' q p h := by
 obtain ⟨G, h1, h2, h3, h4, h5⟩ := a;have hs := k.size;refine ⟨G, C.below h1 k, h2, h3.trans (k.mono (ap h4.le h3.size)), h4, fun b hb => ?_⟩;rcases hK b hb with e | ⟨e1, e2⟩
 ·obtain ⟨g1, g2⟩ := h5 b e;exact ⟨g1, by omega⟩
 ·exact ⟨fun hg => by have := C.lt h1 b hg; omega, e2⟩
theorem HAt.below (a : HAt C w0 B K w q p h) (k : Below w.heap.size w w') : HAt C w0 B K w' q p h := a.guard k fun b e => .inl e
theorem HAt.turn {G G' : Nat -> Prop} (h2 : ∀ b, G b -> B <= b) (h3 : Below B w0 w) (h4 : jM w0 B) (h5 : ∀ b, K b -> ¬ G b /\ b < w.heap.size) (k1 : C.J w' G' q p h') (k2 : Only G w w') (k3 : Grow w G G') : HAt C w0 B K w' q p h' /\ dd K w w' := by
 have hs := ap h4.le h3.size;have hs2 := k2.size;refine ⟨⟨G', k1, k3.above h2 hs, h3.trans (k2.below h2 hs), h4, fun b hb => ?_⟩, fun b hb => k2.block b (h5 b hb).2 (h5 b hb).1⟩;obtain ⟨g1, g2⟩ := h5 b hb;refine ⟨fun hg => ?_, by omega⟩;rcases k3 b hg with e | e
 ·exact g1 e
 ·omega
theorem jM.crg {G : Nat -> Prop} (h : jM w0 B) (hb : Below B w0 w) (hG : ∀ b, G b -> B <= b) : CrG w G := ⟨h.tab hb, fun e => by have := h.lo; have := hG _ e; omega⟩
theorem HAt.save (a : HAt C w0 B K w q p h) (hr : Room h.M 600) (he : h.ev <= 4611686018427387000) (hz : ia h = 0) : Calls prog 28 #[.pointer (some ⟨p, 0, none⟩)] w fun e w' => e = .returned (.int .i64 (ia h)) /\ HAt C w0 B K w' q p (el h) /\ dd K w w' := by
 obtain ⟨G, h1, h2, h3, h4, h5⟩ := a;exact (C.save h1 (h4.crg h3 h2) hr he).mono fun e w' ⟨k0, G', k1, k2, k3, _⟩ => ⟨k0, HAt.turn h2 h3 h4 h5 (k1 hz) k2 k3⟩
theorem HAt.ben {I : FuncId} {vs : Array Value} {v : Value} {M' : aM} (a : HAt C w0 B K w q p h) (hc : ∀ {w F}, C.R.Bn w F q h.M -> Calls prog I vs w fun e w' => e = .returned v /\ ∃ F', C.R.Bn w' F' q M' /\ Only F w w' /\ Grow w F F') : Calls prog I vs w fun e w' => e = .returned v /\ HAt C w0 B K w' q p { h with M := M' } /\ dd K w w' := by
 obtain ⟨G, h1, h2, h3, h4, h5⟩ := a;obtain ⟨Gb, b1, b2, b3⟩ := C.ben h1;refine (hc b1).mono fun e w' ⟨he, F', k1, k2, k3⟩ => ?_
 obtain ⟨G', g1, g2, g3⟩ := b3 w' F' M' k1 k2 k3;exact ⟨he, HAt.turn h2 h3 h4 h5 g1 g2 g3⟩
theorem HAt.rS (a : HAt C w0 B K w q p h) : Calls prog 32 #[.pointer (some ⟨p, 0, none⟩)] w fun e w' => e = .returned (.int .u64 (h.ev : Int)) /\ Below w.heap.size w w' := by obtain ⟨G, h1, _⟩ := a; exact C.rS h1
theorem HAt.nL (a : HAt C w0 B K w q p h) : Calls prog 29 #[.pointer (some ⟨p, 0, none⟩)] w fun e w' => e = .returned (ros h.R) /\ Below w.heap.size w w' := by obtain ⟨G, h1, _⟩ := a; exact C.nL h1
end
def TwB {I J : ru} (R : Ben I) (Q : Ben J) (w0 : World) (B : Nat) (K : Nat -> Prop) (w : World) (p q : Nat) (M N : aM) : Prop := ∃ F G, R.Bn w F p M /\ Q.Bn w G q N /\ (∀ b, F b -> ¬ G b) /\ (∀ b, F b \/ G b -> B <= b) /\ Below B w0 w /\ jM w0 B /\ ∀ b, K b -> ¬ F b /\ ¬ G b /\ b < w.heap.size
section
variable {I J : ru} {R : Ben I} {Q : Ben J} {w0 w w' : World} {B p q : Nat} {K K' : Nat -> Prop} {M M' N N' : aM}
theorem TwB.bel (a : TwB R Q w0 B K w p q M N) : Below B w0 w := by obtain ⟨F, G, h1, h2, h3, h4, h5, _⟩ := a; exact h5
theorem TwB.bas (a : TwB R Q w0 B K w p q M N) : jM w0 B := by obtain ⟨F, G, h1, h2, h3, h4, h5, h6, _⟩ := a; exact h6
theorem TwB.le (a : TwB R Q w0 B K w p q M N) : B <= w.heap.size := ap a.bas.le a.bel.size
theorem TwB.guard (a : TwB R Q w0 B K w p q M N) (k : Below w.heap.size w w') (hK : ∀ b, K' b -> K b \/ (w.heap.size <= b /\ b < w'.heap.size)) : TwB R Q w0 B K' w' p q M N := by
 have hle := a.le;obtain ⟨F, G, h1, h2, h3, h4, h5, h6, h7⟩ := a;have hs := k.size;refine ⟨F, G, R.below h1 k, Q.below h2 k, h3, h4, h5.trans (k.mono hle), h6, fun b hb => ?_⟩;rcases hK b hb with e | ⟨e1, e2⟩
 ·obtain ⟨g1, g2, g3⟩ := h7 b e;exact ⟨g1, g2, by omega⟩
 ·exact ⟨fun hf => by have := R.lt h1 b hf; omega, fun hf => by have := Q.lt h2 b hf; omega, e2⟩
theorem TwB.below (a : TwB R Q w0 B K w p q M N) (k : Below w.heap.size w w') : TwB R Q w0 B K w' p q M N := a.guard k fun b e => .inl e
theorem TwB.start {F G : Nat -> Prop} (hT : Tab w0) (h1 : R.Bn w F p M) (h2 : Q.Bn w G q N) (h3 : ∀ b, F b -> ¬ G b) (h4 : ∀ b, F b \/ G b -> w0.heap.size <= b) (h5 : Below w0.heap.size w0 w) : TwB R Q w0 w0.heap.size (fun _ => False) w p q M N := ⟨F, G, h1, h2, h3, h4, h5, jM.start hT, fun _ e => e.elim⟩
end
structure Fnd where
 ev : Nat
 id : Nat
 R : Ros
deriving DecidableEq
def co : Fnd := ⟨0, 0, bF⟩
def nB (M : aM) (s : Int) : Nat -> Bool
 |0 => true
 |k + 1 => nB M s k && !decide (dz M (k : Int) < 2 + s)
def gaF (M : aM) (n : Nat) (R : Ros) : Bool := decide (n <= 2305843009213693952) && decide ((M.ds.length : Int) = R.m + 1) && !decide (dz M R.m < 10 + R.r) && nB M R.s R.m.toNat
def gaX (M : aM) (d : Int) : Blk := dA M d 0
def gaY (M : aM) (d : Int) : Blk := dA M d 1
def gaQ (M : aM) (d : Int) : Bool := decide (0 <= d /\ d < (M.ds.length : Int) - 1) && decide (cg M d 0 = 0) && decide (cg M d 1 = 0) && decide (nwE (gaX M d) (gaY M d) = 0) && gaF M (nwN (gaX M d) (gaY M d)) (nwS (gaX M d) (gaY M d)).ros
def gaE (M : aM) (d : Int) : Int := if M.bK = true then 8 else if gaQ M d = true then 0 else 7
def gaN (M : aM) (d : Int) : Nat := if gaE M d = 0 then nwN (gaX M d) (gaY M d) else 0
def gaS (M : aM) (d : Int) : Sup := if gaE M d = 0 then nwS (gaX M d) (gaY M d) else bq
def gaU (o : Option Fnd) (n : Nat) : Bool := match o with
 |none => true
 |some f => decide (f.ev < n)
def gaP (M : aM) (d : Int) : Fnd := ⟨gaN M d, (gaS M d).id, (gaS M d).ros⟩
def gaK (M : aM) : Nat -> Option Fnd
 |0 => none
 |k + 1 => if gaE M (k : Int) = 0 /\ gaU (gaK M k) (gaN M (k : Int)) = true then some (gaP M (k : Int)) else gaK M k
def ma (x y : Ros) : Bool := decide (x.m = y.m /\ x.s = y.s /\ x.r = y.r)
def gaW (M : aM) (f : Fnd) (j : Nat) : Bool := decide (gaE M (j : Int) = 0) && decide ((gaS M (j : Int)).self = (j : Int)) && decide ((gaS M (j : Int)).id = f.id) && ma (gaS M (j : Int)).ros f.R
def gaL (M : aM) (f : Fnd) : Nat -> Ros
 |0 => f.R
 |k + 1 => if gaW M f k = true then gaL M f k else cG (gaL M f k) (k : Int)
def gaO (M : aM) : Option Fnd := gaK M (M.ds.length - 1)
def glE (M : aM) : Int := if M.bK = true then 8 else match gaO M with
 |none => 7
 |some _ => 0
def glF (M : aM) : Fnd := if M.bK = true then co else match gaO M with
 |none => co
 |some f => ⟨f.ev, f.id, gaL M f f.R.m.toNat⟩
section
variable {M : aM} {d : Int} {f : Fnd} {a b : Blk}
theorem wB (M : aM) (d : Int) : (gaE M d = 8 /\ M.bK = true) \/ (gaE M d = 0 /\ M.bK = false /\ gaQ M d = true) \/ (gaE M d = 7 /\ M.bK = false /\ gaQ M d = false) := by
 unfold gaE;cases h : M.bK
 ·rw [if_neg (by decide)];cases h2 : gaQ M d
  ·exact .inr (.inr ⟨rfl, rfl, rfl⟩)
  ·exact .inr (.inl ⟨rfl, rfl, rfl⟩)
 ·exact .inl ⟨rfl, rfl⟩
theorem i7 (h : gaQ M d = true) : (0 <= d /\ d < (M.ds.length : Int) - 1) /\ cg M d 0 = 0 /\ cg M d 1 = 0 /\ nwE (gaX M d) (gaY M d) = 0 /\ gaF M (nwN (gaX M d) (gaY M d)) (nwS (gaX M d) (gaY M d)).ros = true := by
 unfold gaQ at h;simp only [Bool.and_eq_true, decide_eq_true_eq] at h;exact ⟨h.1.1.1.1, h.1.1.1.2, h.1.1.2, h.1.2, h.2⟩
theorem wd (h : gaE M d = 0) : M.bK = false /\ gaQ M d = true := by
 rcases wB M d with ⟨e, _⟩ | ⟨_, e⟩ | ⟨e, _⟩
 ·omega
 ·exact e
 ·omega
theorem qd (h : gaE M d = 0) : gaN M d = nwN (gaX M d) (gaY M d) /\ gaS M d = nwS (gaX M d) (gaY M d) := ⟨if_pos h, if_pos h⟩
theorem ml (h : gaE M d ≠ 0) : gaN M d = 0 /\ gaS M d = bq := ⟨if_neg h, if_neg h⟩
theorem nh {n : Nat} {R : Ros} (h : gaF M n R = true) : n <= 2305843009213693952 /\ (M.ds.length : Int) = R.m + 1 /\ 10 + R.r <= dz M R.m /\ nB M R.s R.m.toNat = true := by
 unfold gaF at h;simp only [Bool.and_eq_true, decide_eq_true_eq, Bool.not_eq_true', decide_eq_false_iff_not] at h;exact ⟨h.1.1.1, h.1.1.2, by omega, h.2⟩
theorem zi {n : Nat} {R : Ros} (h : n <= 2305843009213693952 /\ (M.ds.length : Int) = R.m + 1 /\ 10 + R.r <= dz M R.m /\ nB M R.s R.m.toNat = true) : gaF M n R = true := by
 unfold gaF;simp only [Bool.and_eq_true, decide_eq_true_eq, Bool.not_eq_true', decide_eq_false_iff_not];exact ⟨⟨⟨h.1, h.2.1⟩, by omega⟩, h.2.2.2⟩
theorem jj {s : Int} : ∀ {k : Nat}, nB M s k = true ↔ ∀ j, j < k -> 2 + s <= dz M (j : Int)
 |0 => ⟨fun _ j hj => absurd hj (by omega), fun _ => rfl⟩
 |k + 1 => by
  rw [nB, Bool.and_eq_true, Bool.not_eq_true', decide_eq_false_iff_not, jj (k := k)]
  constructor
  ·rintro ⟨h1, h2⟩ j hj;by_cases e : j = k
   ·subst e; omega
   ·exact h1 j (by omega)
  ·exact fun h => ⟨fun j hj => h j (by omega), by have := h k (by omega); omega⟩
theorem ug (h : nwE a b = 0) : 1 <= nwN a b /\ ew (nwS a b) = true /\ (nwS a b).id < 18446744073709551616 := by
 unfold nwE at h;have h' : ¬ (gsN a = 0 /\ gsN b = 0) := fun e => by rw [if_pos e] at h; cases h
 unfold nwN nwS;by_cases e : gsN a < gsN b
 ·rw [if_pos e, if_pos e];have h0 : gsE b = 0 := Decidable.byContradiction fun x => by have := ja x; omega
  have := pC h0;exact ⟨by omega, this.2.2.1, this.2.2.2⟩
 ·rw [if_neg e, if_neg e];have h0 : gsE a = 0 := Decidable.byContradiction fun x => by have := ja x; omega
  have := pC h0;exact ⟨by omega, this.2.2.1, this.2.2.2⟩
theorem qX (h : gaE M d = 0) : (1 <= gaN M d /\ gaN M d <= 2305843009213693952) /\ (gaS M d).id ≠ 0 /\ aU (gaS M d).ros = true /\ (0 <= (gaS M d).self /\ (gaS M d).self < (gaS M d).ros.m) /\ (M.ds.length : Int) = (gaS M d).ros.m + 1 /\ 10 + (gaS M d).ros.r <= dz M (gaS M d).ros.m /\ ∀ j, j < (gaS M d).ros.m.toNat -> 2 + (gaS M d).ros.s <= dz M (j : Int) := by
 obtain ⟨e1, e2⟩ := qd h;obtain ⟨_, _, _, q4, q5⟩ := i7 (wd h).2;obtain ⟨f1, f2, f3, f4⟩ := nh q5;obtain ⟨n1, n2, n3⟩ := ug q4;obtain ⟨s1, s2, s3⟩ := kD n2;rw [e1, e2];exact ⟨⟨n1, f1⟩, s1, s2, s3, f2, f3, jj.1 f4⟩
theorem ob {f : Fnd} (hf : aU f.R = true) : ∀ k, aU (gaL M f k) = true /\ (gaL M f k).m = f.R.m /\ (gaL M f k).s = f.R.s /\ (gaL M f k).r = f.R.r
 |0 => ⟨hf, rfl, rfl, rfl⟩
 |k + 1 => by
  obtain ⟨h1, h2, h3, h4⟩ := ob hf k;rw [gaL]
  split
  ·exact ⟨h1, h2, h3, h4⟩
  ·have hx : ∀ (x : Ros) (m : Int), (cG x m).m = x.m /\ (cG x m).s = x.s /\ (cG x m).r = x.r := fun x m => by
    unfold cG
    split
    ·split <;> exact ⟨rfl, rfl, rfl⟩
    ·exact ⟨rfl, rfl, rfl⟩
   obtain ⟨x1, x2, x3⟩ := hx (gaL M f k) (k : Int);exact ⟨il _ h1, x1.trans h2, x2.trans h3, x3.trans h4⟩
end
def bW (x : Fnd) : List Value := .int .u64 x.ev :: .int .u64 x.id :: aO x.R
def fnd (x : Fnd) : Value := .agg (bW x).toArray
theorem bJ (x : Fnd) : (bW x).length = 23 := by simp [bW, aT]
theorem mE (x : Fnd) : ∀ v ∈ bW x, v.oneCell' = true := by
 intro v hv;simp only [bW, List.mem_cons] at hv;rcases hv with rfl | rfl | hv
 ·rfl
 ·rfl
 ·exact fF _ v hv
theorem jH : (prog.info? 50).map (·.size) = some 23 := by kernel_rfl
theorem ku : (prog.info? 50).map (fun i => i.zero) = some (some (fnd co)) := by kernel_rfl
section
variable {ρ : Operand -> Value} {o : Oper} {x y : Operand} {w : World} {b off : Nat}
theorem hZ {c : Fnd} (ho : o.op = .load 50 x) (hx : ρ x = .pointer (some ⟨b, off, none⟩)) (hc : w.rangeAt b off (bW c)) : (execOp ρ o).run prog w = .ok (.value (fnd c)) w :=
 eu underlying50 rfl (by rw [bJ]; exact jH) ho hx hc
theorem rI {c : Fnd} (ho : o.op = .box 50 x) (hx : ρ x = fnd c) : (execOp ρ o).run prog w = .ok (.value (.pointer (some ⟨w.heap.size, 0, none⟩))) (w.alloc (.cells (bW c).toArray 50)) := eP ho hx
theorem dN (ho : o.op = .alloc 50) : (execOp ρ o).run prog w = .ok (.value (.pointer (some ⟨w.heap.size, 0, none⟩))) (w.alloc (.cells (bW co).toArray 50)) := dp ku ho
theorem eX {c d : Fnd} (ho : o.op = .store 50 x y) (hx : ρ x = .pointer (some ⟨w.heap.size, 0, none⟩)) (hy : ρ y = fnd c) : (execOp ρ o).run prog (w.alloc (.cells (bW d).toArray 50)) = .ok .skip (w.alloc (.cells (bW c).toArray 50)) :=
 f8 (by rw [bJ]; exact jH) (by rw [bJ, bJ]) (mE c) ho hx hy
theorem i8 {c : Fnd} (ho : o.op = .store 50 x y) (hx : ρ x = .pointer (some ⟨b, off, none⟩)) (hy : ρ y = fnd c) (ht : w.there b off 23) : (execOp ρ o).run prog w = .ok .skip (w.setCells b off (bW c)) :=
 dK (by rw [bJ]; exact jH) (mE c) ho hx hy (by rw [bJ]; exact ht)
theorem tM (w : World) : (Instr.build 50 #[]).run prog w = .ok (fnd co) w := by kernel_rfl
theorem me (ho : o.op = .build 50 #[]) : (execOp ρ o).run prog w = .ok (.value (fnd co)) w := iJ ho (tM w)
end
structure sR (P : nM) : Prop where
 super : ∀ {w F q M} (d : Int), P.Bn w F q M -> Tab w -> Calls prog 18 #[.pointer (some ⟨q, 0, none⟩), .int .i64 d] w fun e w' => e = .returned (.tuple #[.int .u64 (gaN M d : Nat), sup (gaS M d), .int .i64 (gaE M d)]) /\ Below w.heap.size w w'
 look : ∀ {w F q M}, P.Bn w F q M -> Tab w -> Calls prog 20 #[.pointer (some ⟨q, 0, none⟩)] w fun e w' => e = .returned (.tuple #[fnd (glF M), .int .i64 (glE M)]) /\ Below w.heap.size w w'
set_option linter.unusedSimpArgs false
theorem yy {x : Ros} (hf : aU x = false) (w : World) : Calls prog 31 #[ros x] w fun e w' => e = .returned (.int .i64 0) /\ Below w.heap.size w w' := by
 have HT1 := ae (fp.new w x);have HF := ae hf;clear hf;go_enter func31, ntmps31;go_wp2_with (first | (refine au rfl (aV rfl rfl) ?_) | fail);generalize w.alloc (.cells (aO x).toArray 35) = w1 at *;have ht1 := HT1.out;clear HT1
 go_loopw [3, 4] (fun n i wr => ∃ j : Nat, j <= 16 /\ i = .int .i64 j /\ n = .int .i64 (0 : Nat) /\ fp w wr x) (fun _ i _ => 16 - (intOf i).toNat)
 case atStart => exact ⟨0, Nat.zero_le _, rfl, rfl, ht1⟩
 case round =>
  clear ht1;obtain ⟨j, hj, rfl, rfl, ht⟩ := hrel;have HT := ae ht;clear ht;by_cases hlt : j < 16
  ·have H16 : Hid (decide ((j : Int) < 16) = true) := ae (am (by omega));go_upto_region 3 with fail;refine aZ 1 ?_;refine abG (bu true rfl abQ evk H16) ?_;refine runs 1 ?_;refine abN (aN rfl abQ (HT.out.at0)) ?_;refine ay abB (aA call24 rfl (evc abQ evn)) ?_;refine (di wr HF).mono ?_;rintro e w2 ⟨rfl, hb⟩;have HT2 := ae (HT.out.call hb);clear hb HT;refine bp ?_;refine aL 1 ?_;go_wp2_with fail;go_ret;exact ⟨rfl, HT2.out.bel⟩
  ·have e : j = 16 := by omega
   subst e;go_wp2;go_ret;exact ⟨rfl, HT.out.bel⟩
theorem yl {x : Ros} (hf : aU x = true) (w : World) : Calls prog 31 #[ros x] w fun e w' => e = .returned (.int .i64 (outs x : Nat)) /\ Below w.heap.size w w' := by
 have HT1 := ae (fp.new w x);have HF := ae hf;clear hf;go_enter func31, ntmps31;go_wp2_with (first | (refine au rfl (aV rfl rfl) ?_) | fail);generalize w.alloc (.cells (aO x).toArray 35) = w1 at *;have ht1 := HT1.out;clear HT1;have HS : Hid (∀ j, sta x j = bt x.st.toList j) := ae fun _ => rfl
 go_loopw [3, 4] (fun n i wr => ∃ j : Nat, j <= 16 /\ i = .int .i64 j /\ n = .int .i64 (kA x.st.toList j : Nat) /\ fp w wr x) (fun _ i _ => 16 - (intOf i).toNat)
 case atStart => exact ⟨0, Nat.zero_le _, rfl, rfl, ht1⟩
 case round =>
  clear ht1;obtain ⟨j, hj, rfl, rfl, ht⟩ := hrel;have HT := ae ht;clear ht;by_cases hlt : j < 16
  ·have H16 : Hid (decide ((j : Int) < 16) = true) := ae (am (by omega));go_upto_region 3 with fail;refine aZ 1 ?_;refine abG (bu true rfl abQ evk H16) ?_;refine runs 1 ?_;refine abN (aN rfl abQ (HT.out.at0)) ?_;refine ay abB (aA call24 rfl (evc abQ evn)) ?_;refine (di wr HF).mono ?_;rintro e w2 ⟨rfl, hb⟩;have HT2 := ae (HT.out.call hb);clear hb HT;refine bp ?_;refine aL 1 ?_;have HK := ae (fV x.st.toList j);have hle := r8 x.st.toList j;generalize kA x.st.toList j = n at *;go_upto_region 5 with fail;refine aZ 1 ?_;refine abG (ax rfl abQ gC) ?_;refine abG (cr rfl abQ abQ (iW hlt)) ?_;refine abG (aE rfl abQ (jV ((HT2.out.at0).sta hlt))) ?_;by_cases h0 : sta x j = 0
   ·rw [if_pos (by rw [<- HS.out]; exact h0)] at HK;have H0 : Hid ((sta x j != 0) = false) := ae (by simpa using h0);clear h0;refine abG (aR false rfl abQ evk H0) ?_;refine ag ?_;go_wp2_with fail;go_roundw
    case rel => exact ⟨j + 1, by omega, by go_num, by rw [HK.out]; rfl, HT2⟩
    case measure => simp [intOf]; omega
   ·rw [if_neg (by rw [<- HS.out]; exact h0)] at HK;have H0 : Hid ((sta x j != 0) = true) := ae (by simpa using h0);clear h0;refine abG (aR true rfl abQ evk H0) ?_;refine ag ?_;go_wp2_with fail;go_roundw
    case rel => exact ⟨j + 1, by omega, by go_num, by rw [HK.out]; go_num, HT2⟩
    case measure => simp [intOf]; omega
  ·have e : j = 16 := by omega
   subst e;go_wp2;go_ret;exact ⟨rfl, HT.out.bel⟩
theorem yT (x : Ros) (w : World) : Calls prog 31 #[ros x] w fun e w' => e = .returned (.int .i64 (ey x : Nat)) /\ Below w.heap.size w w' := by
 unfold ey;cases hf : aU x
 ·exact yy hf w
 ·exact yl hf w
theorem eV {x : Ros} {n : Nat} (w : World) (h : ey x = n) : Calls prog 31 #[ros x] w fun e w' => e = .returned (.int .i64 (n : Nat)) /\ Below w.heap.size w w' := by subst h; exact yT x w
theorem vm {x : Ros} (hf : aU x = false) (w : World) : Calls prog 88 #[ros x] w fun e w' => e = .returned (.tuple #[.int .i64 0, .bool false]) /\ Below w.heap.size w w' := by
 have HT1 := ae (fp.new w x);have HF := ae hf;clear hf;go_enter func88, ntmps88;go_wp2_with (first | (refine au rfl (aV rfl rfl) ?_) | fail);generalize w.alloc (.cells (aO x).toArray 35) = w1 at *;have ht1 := HT1.out;clear HT1
 go_loopw [4] (fun i wr => ∃ j : Nat, j <= 16 /\ i = .int .i64 j /\ fp w wr x) (fun i _ => 16 - (intOf i).toNat)
 case atStart => exact ⟨0, Nat.zero_le _, rfl, ht1⟩
 case round =>
  clear ht1;obtain ⟨j, hj, rfl, ht⟩ := hrel;have HT := ae ht;clear ht;by_cases hlt : j < 16
  ·have H16 : Hid (decide ((j : Int) < 16) = true) := ae (am (by omega));go_upto_region 2 with fail;refine aZ 1 ?_;refine abG (bu true rfl abQ evk H16) ?_;refine runs 1 ?_;refine abN (aN rfl abQ (HT.out.at0)) ?_;refine ay abB (aA call24 rfl (evc abQ evn)) ?_;refine (di wr HF).mono ?_;rintro e w2 ⟨rfl, hb⟩;have HT2 := ae (HT.out.call hb);clear hb HT;refine bp ?_;refine aL 1 ?_;go_wp2_with fail;go_ret2;exact ⟨rfl, HT2.out.bel⟩
  ·have e : j = 16 := by omega
   subst e;go_wp2;go_ret2;exact ⟨rfl, HT.out.bel⟩
theorem uS {x : Ros} (hf : aU x = true) (w : World) : Calls prog 88 #[ros x] w fun e w' => e = .returned (.tuple #[.int .i64 ((jA x).getD 0 : Nat), .bool (jA x).isSome]) /\ Below w.heap.size w w' := by
 have HT1 := ae (fp.new w x);have HF := ae hf;clear hf;go_enter func88, ntmps88;go_wp2_with (first | (refine au rfl (aV rfl rfl) ?_) | fail);generalize w.alloc (.cells (aO x).toArray 35) = w1 at *;have ht1 := HT1.out;clear HT1;have HJ := ae (sU x);have HS : Hid (∀ j, sta x j = bt x.st.toList j) := ae fun _ => rfl
 go_loopw [4] (fun i wr => ∃ j : Nat, j <= 16 /\ i = .int .i64 j /\ fp w wr x /\ jz x.st.toList j = none) (fun i _ => 16 - (intOf i).toNat)
 case atStart => exact ⟨0, Nat.zero_le _, rfl, ht1, rfl⟩
 case round =>
  clear ht1;obtain ⟨j, hj, rfl, ht, h0⟩ := hrel;have HT := ae ht;clear ht;have H0 := ae h0;clear h0;by_cases hlt : j < 16
  ·have H16 : Hid (decide ((j : Int) < 16) = true) := ae (am (by omega));go_upto_region 2 with fail;refine aZ 1 ?_;refine abG (bu true rfl abQ evk H16) ?_;refine runs 1 ?_;refine abN (aN rfl abQ (HT.out.at0)) ?_;refine ay abB (aA call24 rfl (evc abQ evn)) ?_;refine (di wr HF).mono ?_;rintro e w2 ⟨rfl, hb⟩;have HT2 := ae (HT.out.call hb);clear hb HT;refine bp ?_;refine aL 1 ?_;go_upto_region 4 with fail;refine aZ 1 ?_;refine abG (ax rfl abQ gC) ?_;refine abG (cr rfl abQ abQ (iW hlt)) ?_;refine abG (aE rfl abQ (jV ((HT2.out.at0).sta hlt))) ?_;by_cases h2 : sta x j = 2
   ·have HE : Hid (jA x = some j) := ae (HJ.out.trans (yH H0 ((HS.out j).symm.trans h2) hlt));have H2 : Hid ((sta x j == 2) = true) := ae (by simpa using h2);clear h2;refine abG (aD true rfl abQ evk H2) ?_;refine ag ?_;go_wp2_with fail;go_ret2;exact ⟨by rw [HE.out]; rfl, HT2.out.bel⟩
   ·have HE := ae (tu H0 (fun e => h2 ((HS.out j).trans e)));have H2 : Hid ((sta x j == 2) = false) := ae (by simpa using h2);clear h2;refine abG (aD false rfl abQ evk H2) ?_;refine ag ?_;go_wp2_with fail;go_roundw
    case rel => exact ⟨j + 1, by omega, by go_num, HT2, HE⟩
    case measure => simp [intOf]; omega
  ·have e : j = 16 := by omega
   subst e;have HE : Hid (jA x = none) := ae (HJ.out.trans H0);go_wp2;go_ret2;exact ⟨by rw [HE.out]; rfl, HT.out.bel⟩
theorem z3 (x : Ros) (w : World) : Calls prog 88 #[ros x] w fun e w' => e = .returned (.tuple #[.int .i64 (jO x : Nat), .bool (gT x)]) /\ Below w.heap.size w w' := by
 unfold jO gT;cases hf : aU x
 ·exact vm hf w
 ·exact uS hf w
theorem dZ {x : Ros} {m : Nat} {b : Bool} (w : World) (hm : jO x = m) (hb : gT x = b) : Calls prog 88 #[ros x] w fun e w' => e = .returned (.tuple #[.int .i64 (m : Nat), .bool b]) /\ Below w.heap.size w w' := by subst hm hb; exact z3 x w
theorem vD {x : Ros} (hf : aU x = false) (w : World) : Calls prog 64 #[ros x] w fun e w' => e = .returned (.int .i64 0) /\ Below w.heap.size w w' := by
 have HT1 := ae (fp.new w x);have HF := ae hf;clear hf;go_enter func64, ntmps64;go_upto_region 1 with (first | (refine au rfl (aV rfl rfl) ?_) | fail);generalize w.alloc (.cells (aO x).toArray 35) = w1 at *;refine af ?_;refine abG (aN rfl abQ (HT1.out.at0)) ?_;refine ay rfl (aA call24 rfl (evc abQ evn)) ?_;refine (di w1 HF).mono ?_;rintro e w2 ⟨rfl, hb⟩;have HT2 := ae (HT1.out.call hb);clear hb HT1;refine bp ?_;refine aL 1 ?_;go_upto_region 2 with fail;refine cC 1 ?_;go_wp2_with fail;go_ret;exact ⟨rfl, HT2.out.bel⟩
theorem qK {x : Ros} {n k : Nat} (hf : aU x = true) (hn : ey x = n) (hm : jO x = k) (hb : gT x = true) (hg : decide ((2 : Int) <= (n : Int)) = true) (w : World) : Calls prog 64 #[ros x] w fun e w' => e = .returned (.int .i64 5) /\ Below w.heap.size w w' := by
 have HT1 := ae (fp.new w x);have HF := ae hf;have HN := ae hn;have HM := ae hm;have HB := ae hb;have HG := ae hg;clear hf hn hm hb hg;go_enter func64, ntmps64;go_upto_region 1 with (first | (refine au rfl (aV rfl rfl) ?_) | fail);generalize w.alloc (.cells (aO x).toArray 35) = w1 at *;refine af ?_;refine abG (aN rfl abQ (HT1.out.at0)) ?_;refine ay rfl (aA call24 rfl (evc abQ evn)) ?_;refine (di w1 HF).mono ?_;rintro e w2 ⟨rfl, hb⟩;have HT2 := ae (HT1.out.call hb);clear hb HT1;refine bp ?_;refine aL 1 ?_;go_upto_region 3 with fail;refine af ?_;refine abG (aN rfl abQ (HT2.out.at0)) ?_;refine ay rfl (aA call31 rfl (evc abQ evn)) ?_;refine (eV w2 HN).mono ?_;rintro e w3 ⟨rfl, hb⟩;have HT3 := ae (HT2.out.call hb);clear hb HT2;refine bp ?_;refine aL 1 ?_;go_upto_region 4 with fail;refine af ?_;refine abG (aN rfl abQ (HT3.out.at0)) ?_;refine ay rfl (aA call88 rfl (evc abQ evn)) ?_;refine (dZ w3 HM HB).mono ?_;rintro e w4 ⟨rfl, hb⟩;have HT4 := ae (HT3.out.call hb);clear hb HT3;refine bp ?_;refine runs 3 ?_;refine aL 2 ?_;go_upto_region 5 with fail;refine aZ 1 ?_;refine abG (ci true rfl abQ evk HG) ?_;refine aG 6 rfl (aK rfl abQ) (by kernel_rfl) ?_;simp only [a9, ac, aa];refine aL 1 ?_;go_upto_region 6 with fail;refine cC 1 ?_;go_wp2_with fail;go_ret;exact ⟨rfl, HT4.out.bel⟩
theorem rx {x : Ros} {n k : Nat} (hf : aU x = true) (hn : ey x = n) (hm : jO x = k) (hb : gT x = true) (hg : decide ((2 : Int) <= (n : Int)) = false) (h1 : ((n : Int) == 1) = true) (ho : x.gone = true) (w : World) : Calls prog 64 #[ros x] w fun e w' => e = .returned (.int .i64 5) /\ Below w.heap.size w w' := by
 have HT1 := ae (fp.new w x);have HF := ae hf;have HN := ae hn;have HM := ae hm;have HB := ae hb;have HG := ae hg;have H1 := ae h1;have HO := ae ho;clear hf hn hm hb hg h1 ho;go_enter func64, ntmps64;go_upto_region 1 with (first | (refine au rfl (aV rfl rfl) ?_) | fail);generalize w.alloc (.cells (aO x).toArray 35) = w1 at *;refine af ?_;refine abG (aN rfl abQ (HT1.out.at0)) ?_;refine ay rfl (aA call24 rfl (evc abQ evn)) ?_;refine (di w1 HF).mono ?_;rintro e w2 ⟨rfl, hb⟩;have HT2 := ae (HT1.out.call hb);clear hb HT1;refine bp ?_;refine aL 1 ?_;go_upto_region 3 with fail;refine af ?_;refine abG (aN rfl abQ (HT2.out.at0)) ?_;refine ay rfl (aA call31 rfl (evc abQ evn)) ?_;refine (eV w2 HN).mono ?_;rintro e w3 ⟨rfl, hb⟩;have HT3 := ae (HT2.out.call hb);clear hb HT2;refine bp ?_;refine aL 1 ?_;go_upto_region 4 with fail;refine af ?_;refine abG (aN rfl abQ (HT3.out.at0)) ?_;refine ay rfl (aA call88 rfl (evc abQ evn)) ?_;refine (dZ w3 HM HB).mono ?_;rintro e w4 ⟨rfl, hb⟩;have HT4 := ae (HT3.out.call hb);clear hb HT3;refine bp ?_;refine runs 3 ?_;refine aL 2 ?_;go_upto_region 5 with fail;refine aZ 1 ?_;refine abG (ci false rfl abQ evk HG) ?_;refine runs 2 ?_;refine abN (aD true rfl abQ evk H1) ?_;refine runs 1 ?_;refine abN (ax rfl abQ mp) ?_;refine abN (aE rfl abQ (mo (HO.out ▸ HT4.out.at0.cells.2.2.2.2))) ?_;refine aL 2 ?_;go_upto_region 6 with fail;refine cC 1 ?_;go_wp2_with fail;go_ret;exact ⟨rfl, HT4.out.bel⟩
theorem sK {x : Ros} {n k : Nat} (hf : aU x = true) (hn : ey x = n) (hm : jO x = k) (hb : gT x = true) (hg : decide ((2 : Int) <= (n : Int)) = false) (h1 : ((n : Int) == 1) = false) (ho : x.gone = true) (w : World) : Calls prog 64 #[ros x] w fun e w' => e = .returned (.int .i64 4) /\ Below w.heap.size w w' := by
 have HT1 := ae (fp.new w x);have HF := ae hf;have HN := ae hn;have HM := ae hm;have HB := ae hb;have HG := ae hg;have H1 := ae h1;have HO := ae ho;clear hf hn hm hb hg h1 ho;go_enter func64, ntmps64;go_upto_region 1 with (first | (refine au rfl (aV rfl rfl) ?_) | fail);generalize w.alloc (.cells (aO x).toArray 35) = w1 at *;refine af ?_;refine abG (aN rfl abQ (HT1.out.at0)) ?_;refine ay rfl (aA call24 rfl (evc abQ evn)) ?_;refine (di w1 HF).mono ?_;rintro e w2 ⟨rfl, hb⟩;have HT2 := ae (HT1.out.call hb);clear hb HT1;refine bp ?_;refine aL 1 ?_;go_upto_region 3 with fail;refine af ?_;refine abG (aN rfl abQ (HT2.out.at0)) ?_;refine ay rfl (aA call31 rfl (evc abQ evn)) ?_;refine (eV w2 HN).mono ?_;rintro e w3 ⟨rfl, hb⟩;have HT3 := ae (HT2.out.call hb);clear hb HT2;refine bp ?_;refine aL 1 ?_;go_upto_region 4 with fail;refine af ?_;refine abG (aN rfl abQ (HT3.out.at0)) ?_;refine ay rfl (aA call88 rfl (evc abQ evn)) ?_;refine (dZ w3 HM HB).mono ?_;rintro e w4 ⟨rfl, hb⟩;have HT4 := ae (HT3.out.call hb);clear hb HT3;refine bp ?_;refine runs 3 ?_;refine aL 2 ?_;go_upto_region 5 with fail;refine aZ 1 ?_;refine abG (ci false rfl abQ evk HG) ?_;refine runs 2 ?_;refine abN (aD false rfl abQ evk H1) ?_;refine aG 2 abB (aK rfl abQ) (by kernel_rfl) ?_;simp only [a9, ac, aa];refine aL 2 ?_;go_upto_region 7 with fail;refine af ?_;refine abG (ax rfl abQ mp) ?_;refine abG (aE rfl abQ (mo (HO.out ▸ HT4.out.at0.cells.2.2.2.2))) ?_;refine ag ?_;go_upto_region 8 with fail;refine cC 1 ?_;go_wp2_with fail;go_ret;exact ⟨rfl, HT4.out.bel⟩
theorem rH {x : Ros} {n k : Nat} (hf : aU x = true) (hn : ey x = n) (hm : jO x = k) (hb : gT x = false) (hg : decide ((2 : Int) <= (n : Int)) = true) (w : World) : Calls prog 64 #[ros x] w fun e w' => e = .returned (.int .i64 5) /\ Below w.heap.size w w' := by
 have HT1 := ae (fp.new w x);have HF := ae hf;have HN := ae hn;have HM := ae hm;have HB := ae hb;have HG := ae hg;clear hf hn hm hb hg;go_enter func64, ntmps64;go_upto_region 1 with (first | (refine au rfl (aV rfl rfl) ?_) | fail);generalize w.alloc (.cells (aO x).toArray 35) = w1 at *;refine af ?_;refine abG (aN rfl abQ (HT1.out.at0)) ?_;refine ay rfl (aA call24 rfl (evc abQ evn)) ?_;refine (di w1 HF).mono ?_;rintro e w2 ⟨rfl, hb⟩;have HT2 := ae (HT1.out.call hb);clear hb HT1;refine bp ?_;refine aL 1 ?_;go_upto_region 3 with fail;refine af ?_;refine abG (aN rfl abQ (HT2.out.at0)) ?_;refine ay rfl (aA call31 rfl (evc abQ evn)) ?_;refine (eV w2 HN).mono ?_;rintro e w3 ⟨rfl, hb⟩;have HT3 := ae (HT2.out.call hb);clear hb HT2;refine bp ?_;refine aL 1 ?_;go_upto_region 4 with fail;refine af ?_;refine abG (aN rfl abQ (HT3.out.at0)) ?_;refine ay rfl (aA call88 rfl (evc abQ evn)) ?_;refine (dZ w3 HM HB).mono ?_;rintro e w4 ⟨rfl, hb⟩;have HT4 := ae (HT3.out.call hb);clear hb HT3;refine bp ?_;refine runs 3 ?_;refine aL 2 ?_;go_upto_region 5 with fail;refine aZ 1 ?_;refine abG (ci true rfl abQ evk HG) ?_;refine aG 6 rfl (aK rfl abQ) (by kernel_rfl) ?_;simp only [a9, ac, aa];refine aL 1 ?_;go_upto_region 6 with fail;refine cC 1 ?_;go_wp2_with fail;go_ret;exact ⟨rfl, HT4.out.bel⟩
theorem pK {x : Ros} {n k : Nat} (hf : aU x = true) (hn : ey x = n) (hm : jO x = k) (hb : gT x = false) (hg : decide ((2 : Int) <= (n : Int)) = false) (h1 : ((n : Int) == 1) = true) (ho : x.gone = true) (w : World) : Calls prog 64 #[ros x] w fun e w' => e = .returned (.int .i64 5) /\ Below w.heap.size w w' := by
 have HT1 := ae (fp.new w x);have HF := ae hf;have HN := ae hn;have HM := ae hm;have HB := ae hb;have HG := ae hg;have H1 := ae h1;have HO := ae ho;clear hf hn hm hb hg h1 ho;go_enter func64, ntmps64;go_upto_region 1 with (first | (refine au rfl (aV rfl rfl) ?_) | fail);generalize w.alloc (.cells (aO x).toArray 35) = w1 at *;refine af ?_;refine abG (aN rfl abQ (HT1.out.at0)) ?_;refine ay rfl (aA call24 rfl (evc abQ evn)) ?_;refine (di w1 HF).mono ?_;rintro e w2 ⟨rfl, hb⟩;have HT2 := ae (HT1.out.call hb);clear hb HT1;refine bp ?_;refine aL 1 ?_;go_upto_region 3 with fail;refine af ?_;refine abG (aN rfl abQ (HT2.out.at0)) ?_;refine ay rfl (aA call31 rfl (evc abQ evn)) ?_;refine (eV w2 HN).mono ?_;rintro e w3 ⟨rfl, hb⟩;have HT3 := ae (HT2.out.call hb);clear hb HT2;refine bp ?_;refine aL 1 ?_;go_upto_region 4 with fail;refine af ?_;refine abG (aN rfl abQ (HT3.out.at0)) ?_;refine ay rfl (aA call88 rfl (evc abQ evn)) ?_;refine (dZ w3 HM HB).mono ?_;rintro e w4 ⟨rfl, hb⟩;have HT4 := ae (HT3.out.call hb);clear hb HT3;refine bp ?_;refine runs 3 ?_;refine aL 2 ?_;go_upto_region 5 with fail;refine aZ 1 ?_;refine abG (ci false rfl abQ evk HG) ?_;refine runs 2 ?_;refine abN (aD true rfl abQ evk H1) ?_;refine runs 1 ?_;refine abN (ax rfl abQ mp) ?_;refine abN (aE rfl abQ (mo (HO.out ▸ HT4.out.at0.cells.2.2.2.2))) ?_;refine aL 2 ?_;go_upto_region 6 with fail;refine cC 1 ?_;go_wp2_with fail;go_ret;exact ⟨rfl, HT4.out.bel⟩
theorem tp {x : Ros} {n k : Nat} (hf : aU x = true) (hn : ey x = n) (hm : jO x = k) (hb : gT x = false) (hg : decide ((2 : Int) <= (n : Int)) = false) (h1 : ((n : Int) == 1) = false) (ho : x.gone = true) (w : World) : Calls prog 64 #[ros x] w fun e w' => e = .returned (.int .i64 4) /\ Below w.heap.size w w' := by
 have HT1 := ae (fp.new w x);have HF := ae hf;have HN := ae hn;have HM := ae hm;have HB := ae hb;have HG := ae hg;have H1 := ae h1;have HO := ae ho;clear hf hn hm hb hg h1 ho;go_enter func64, ntmps64;go_upto_region 1 with (first | (refine au rfl (aV rfl rfl) ?_) | fail);generalize w.alloc (.cells (aO x).toArray 35) = w1 at *;refine af ?_;refine abG (aN rfl abQ (HT1.out.at0)) ?_;refine ay rfl (aA call24 rfl (evc abQ evn)) ?_;refine (di w1 HF).mono ?_;rintro e w2 ⟨rfl, hb⟩;have HT2 := ae (HT1.out.call hb);clear hb HT1;refine bp ?_;refine aL 1 ?_;go_upto_region 3 with fail;refine af ?_;refine abG (aN rfl abQ (HT2.out.at0)) ?_;refine ay rfl (aA call31 rfl (evc abQ evn)) ?_;refine (eV w2 HN).mono ?_;rintro e w3 ⟨rfl, hb⟩;have HT3 := ae (HT2.out.call hb);clear hb HT2;refine bp ?_;refine aL 1 ?_;go_upto_region 4 with fail;refine af ?_;refine abG (aN rfl abQ (HT3.out.at0)) ?_;refine ay rfl (aA call88 rfl (evc abQ evn)) ?_;refine (dZ w3 HM HB).mono ?_;rintro e w4 ⟨rfl, hb⟩;have HT4 := ae (HT3.out.call hb);clear hb HT3;refine bp ?_;refine runs 3 ?_;refine aL 2 ?_;go_upto_region 5 with fail;refine aZ 1 ?_;refine abG (ci false rfl abQ evk HG) ?_;refine runs 2 ?_;refine abN (aD false rfl abQ evk H1) ?_;refine aG 2 abB (aK rfl abQ) (by kernel_rfl) ?_;simp only [a9, ac, aa];refine aL 2 ?_;go_upto_region 7 with fail;refine af ?_;refine abG (ax rfl abQ mp) ?_;refine abG (aE rfl abQ (mo (HO.out ▸ HT4.out.at0.cells.2.2.2.2))) ?_;refine ag ?_;go_upto_region 8 with fail;refine cC 1 ?_;go_wp2_with fail;go_ret;exact ⟨rfl, HT4.out.bel⟩
theorem sY {x : Ros} {n k : Nat} (hf : aU x = true) (hn : ey x = n) (hm : jO x = k) (hb : gT x = true) (hg : decide ((2 : Int) <= (n : Int)) = false) (h1 : ((n : Int) == 1) = true) (ho : x.gone = false) (w : World) : Calls prog 64 #[ros x] w fun e w' => e = .returned (.int .i64 3) /\ Below w.heap.size w w' := by
 have HT1 := ae (fp.new w x);have HF := ae hf;have HN := ae hn;have HM := ae hm;have HB := ae hb;have HG := ae hg;have H1 := ae h1;have HO := ae ho;clear hf hn hm hb hg h1 ho;go_enter func64, ntmps64;go_upto_region 1 with (first | (refine au rfl (aV rfl rfl) ?_) | fail);generalize w.alloc (.cells (aO x).toArray 35) = w1 at *;refine af ?_;refine abG (aN rfl abQ (HT1.out.at0)) ?_;refine ay rfl (aA call24 rfl (evc abQ evn)) ?_;refine (di w1 HF).mono ?_;rintro e w2 ⟨rfl, hb⟩;have HT2 := ae (HT1.out.call hb);clear hb HT1;refine bp ?_;refine aL 1 ?_;go_upto_region 3 with fail;refine af ?_;refine abG (aN rfl abQ (HT2.out.at0)) ?_;refine ay rfl (aA call31 rfl (evc abQ evn)) ?_;refine (eV w2 HN).mono ?_;rintro e w3 ⟨rfl, hb⟩;have HT3 := ae (HT2.out.call hb);clear hb HT2;refine bp ?_;refine aL 1 ?_;go_upto_region 4 with fail;refine af ?_;refine abG (aN rfl abQ (HT3.out.at0)) ?_;refine ay rfl (aA call88 rfl (evc abQ evn)) ?_;refine (dZ w3 HM HB).mono ?_;rintro e w4 ⟨rfl, hb⟩;have HT4 := ae (HT3.out.call hb);clear hb HT3;refine bp ?_;refine runs 3 ?_;refine aL 2 ?_;go_upto_region 5 with fail;refine aZ 1 ?_;refine abG (ci false rfl abQ evk HG) ?_;refine runs 2 ?_;refine abN (aD true rfl abQ evk H1) ?_;refine runs 1 ?_;refine abN (ax rfl abQ mp) ?_;refine abN (aE rfl abQ (mo (HO.out ▸ HT4.out.at0.cells.2.2.2.2))) ?_;refine aL 2 ?_;go_upto_region 7 with fail;refine af ?_;refine abG (ax rfl abQ mp) ?_;refine abG (aE rfl abQ (mo (HO.out ▸ HT4.out.at0.cells.2.2.2.2))) ?_;refine ag ?_;go_upto_region 9 with fail;refine cC 1 ?_;go_upto_region 10 with fail;refine cC 1 ?_;go_wp2_with fail;go_ret;exact ⟨rfl, HT4.out.bel⟩
theorem t4 {x : Ros} {n k : Nat} (hf : aU x = true) (hn : ey x = n) (hm : jO x = k) (hb : gT x = true) (hg : decide ((2 : Int) <= (n : Int)) = false) (h1 : ((n : Int) == 1) = false) (ho : x.gone = false) (w : World) : Calls prog 64 #[ros x] w fun e w' => e = .returned (.int .i64 3) /\ Below w.heap.size w w' := by
 have HT1 := ae (fp.new w x);have HF := ae hf;have HN := ae hn;have HM := ae hm;have HB := ae hb;have HG := ae hg;have H1 := ae h1;have HO := ae ho;clear hf hn hm hb hg h1 ho;go_enter func64, ntmps64;go_upto_region 1 with (first | (refine au rfl (aV rfl rfl) ?_) | fail);generalize w.alloc (.cells (aO x).toArray 35) = w1 at *;refine af ?_;refine abG (aN rfl abQ (HT1.out.at0)) ?_;refine ay rfl (aA call24 rfl (evc abQ evn)) ?_;refine (di w1 HF).mono ?_;rintro e w2 ⟨rfl, hb⟩;have HT2 := ae (HT1.out.call hb);clear hb HT1;refine bp ?_;refine aL 1 ?_;go_upto_region 3 with fail;refine af ?_;refine abG (aN rfl abQ (HT2.out.at0)) ?_;refine ay rfl (aA call31 rfl (evc abQ evn)) ?_;refine (eV w2 HN).mono ?_;rintro e w3 ⟨rfl, hb⟩;have HT3 := ae (HT2.out.call hb);clear hb HT2;refine bp ?_;refine aL 1 ?_;go_upto_region 4 with fail;refine af ?_;refine abG (aN rfl abQ (HT3.out.at0)) ?_;refine ay rfl (aA call88 rfl (evc abQ evn)) ?_;refine (dZ w3 HM HB).mono ?_;rintro e w4 ⟨rfl, hb⟩;have HT4 := ae (HT3.out.call hb);clear hb HT3;refine bp ?_;refine runs 3 ?_;refine aL 2 ?_;go_upto_region 5 with fail;refine aZ 1 ?_;refine abG (ci false rfl abQ evk HG) ?_;refine runs 2 ?_;refine abN (aD false rfl abQ evk H1) ?_;refine aG 2 abB (aK rfl abQ) (by kernel_rfl) ?_;simp only [a9, ac, aa];refine aL 2 ?_;go_upto_region 7 with fail;refine af ?_;refine abG (ax rfl abQ mp) ?_;refine abG (aE rfl abQ (mo (HO.out ▸ HT4.out.at0.cells.2.2.2.2))) ?_;refine ag ?_;go_upto_region 9 with fail;refine cC 1 ?_;go_upto_region 10 with fail;refine cC 1 ?_;go_wp2_with fail;go_ret;exact ⟨rfl, HT4.out.bel⟩
theorem uu {x : Ros} {n k : Nat} (hf : aU x = true) (hn : ey x = n) (hm : jO x = k) (hb : gT x = false) (hg : decide ((2 : Int) <= (n : Int)) = false) (h1 : ((n : Int) == 1) = true) (ho : x.gone = false) (w : World) : Calls prog 64 #[ros x] w fun e w' => e = .returned (.int .i64 2) /\ Below w.heap.size w w' := by
 have HT1 := ae (fp.new w x);have HF := ae hf;have HN := ae hn;have HM := ae hm;have HB := ae hb;have HG := ae hg;have H1 := ae h1;have HO := ae ho;clear hf hn hm hb hg h1 ho;go_enter func64, ntmps64;go_upto_region 1 with (first | (refine au rfl (aV rfl rfl) ?_) | fail);generalize w.alloc (.cells (aO x).toArray 35) = w1 at *;refine af ?_;refine abG (aN rfl abQ (HT1.out.at0)) ?_;refine ay rfl (aA call24 rfl (evc abQ evn)) ?_;refine (di w1 HF).mono ?_;rintro e w2 ⟨rfl, hb⟩;have HT2 := ae (HT1.out.call hb);clear hb HT1;refine bp ?_;refine aL 1 ?_;go_upto_region 3 with fail;refine af ?_;refine abG (aN rfl abQ (HT2.out.at0)) ?_;refine ay rfl (aA call31 rfl (evc abQ evn)) ?_;refine (eV w2 HN).mono ?_;rintro e w3 ⟨rfl, hb⟩;have HT3 := ae (HT2.out.call hb);clear hb HT2;refine bp ?_;refine aL 1 ?_;go_upto_region 4 with fail;refine af ?_;refine abG (aN rfl abQ (HT3.out.at0)) ?_;refine ay rfl (aA call88 rfl (evc abQ evn)) ?_;refine (dZ w3 HM HB).mono ?_;rintro e w4 ⟨rfl, hb⟩;have HT4 := ae (HT3.out.call hb);clear hb HT3;refine bp ?_;refine runs 3 ?_;refine aL 2 ?_;go_upto_region 5 with fail;refine aZ 1 ?_;refine abG (ci false rfl abQ evk HG) ?_;refine runs 2 ?_;refine abN (aD true rfl abQ evk H1) ?_;refine runs 1 ?_;refine abN (ax rfl abQ mp) ?_;refine abN (aE rfl abQ (mo (HO.out ▸ HT4.out.at0.cells.2.2.2.2))) ?_;refine aL 2 ?_;go_upto_region 7 with fail;refine af ?_;refine abG (ax rfl abQ mp) ?_;refine abG (aE rfl abQ (mo (HO.out ▸ HT4.out.at0.cells.2.2.2.2))) ?_;refine ag ?_;go_upto_region 9 with fail;refine cC 1 ?_;go_upto_region 11 with fail;refine aZ 1 ?_;refine abG (aD true rfl abQ evk H1) ?_;refine ag ?_;go_upto_region 12 with fail;refine cC 1 ?_;go_wp2_with fail;go_ret;exact ⟨rfl, HT4.out.bel⟩
theorem vF {x : Ros} {n k : Nat} (hf : aU x = true) (hn : ey x = n) (hm : jO x = k) (hb : gT x = false) (hg : decide ((2 : Int) <= (n : Int)) = false) (h1 : ((n : Int) == 1) = false) (ho : x.gone = false) (w : World) : Calls prog 64 #[ros x] w fun e w' => e = .returned (.int .i64 1) /\ Below w.heap.size w w' := by
 have HT1 := ae (fp.new w x);have HF := ae hf;have HN := ae hn;have HM := ae hm;have HB := ae hb;have HG := ae hg;have H1 := ae h1;have HO := ae ho;clear hf hn hm hb hg h1 ho;go_enter func64, ntmps64;go_upto_region 1 with (first | (refine au rfl (aV rfl rfl) ?_) | fail);generalize w.alloc (.cells (aO x).toArray 35) = w1 at *;refine af ?_;refine abG (aN rfl abQ (HT1.out.at0)) ?_;refine ay rfl (aA call24 rfl (evc abQ evn)) ?_;refine (di w1 HF).mono ?_;rintro e w2 ⟨rfl, hb⟩;have HT2 := ae (HT1.out.call hb);clear hb HT1;refine bp ?_;refine aL 1 ?_;go_upto_region 3 with fail;refine af ?_;refine abG (aN rfl abQ (HT2.out.at0)) ?_;refine ay rfl (aA call31 rfl (evc abQ evn)) ?_;refine (eV w2 HN).mono ?_;rintro e w3 ⟨rfl, hb⟩;have HT3 := ae (HT2.out.call hb);clear hb HT2;refine bp ?_;refine aL 1 ?_;go_upto_region 4 with fail;refine af ?_;refine abG (aN rfl abQ (HT3.out.at0)) ?_;refine ay rfl (aA call88 rfl (evc abQ evn)) ?_;refine (dZ w3 HM HB).mono ?_;rintro e w4 ⟨rfl, hb⟩;have HT4 := ae (HT3.out.call hb);clear hb HT3;refine bp ?_;refine runs 3 ?_;refine aL 2 ?_;go_upto_region 5 with fail;refine aZ 1 ?_;refine abG (ci false rfl abQ evk HG) ?_;refine runs 2 ?_;refine abN (aD false rfl abQ evk H1) ?_;refine aG 2 abB (aK rfl abQ) (by kernel_rfl) ?_;simp only [a9, ac, aa];refine aL 2 ?_;go_upto_region 7 with fail;refine af ?_;refine abG (ax rfl abQ mp) ?_;refine abG (aE rfl abQ (mo (HO.out ▸ HT4.out.at0.cells.2.2.2.2))) ?_;refine ag ?_;go_upto_region 9 with fail;refine cC 1 ?_;go_upto_region 11 with fail;refine aZ 1 ?_;refine abG (aD false rfl abQ evk H1) ?_;refine ag ?_;go_upto_region 13 with fail;refine cC 1 ?_;go_wp2_with fail;go_ret;exact ⟨rfl, HT4.out.bel⟩
theorem uA {x : Ros} (hf : aU x = true) : stN x = if 2 <= outs x \/ (outs x = 1 /\ x.gone = true) then 5 else if x.gone = true then 4 else if cw x = 1 then 3 else if outs x = 1 then 2 else 1 := by unfold stN; rw [if_pos hf]
theorem yx {x : Ros} (hf : aU x = true) : gT x = decide (cw x = 1) := by
 have h1 := (dv hf).2.2.1;have h2 := rp x;unfold gT;rw [hf, Bool.true_and];cases hj : jA x with
 |none => have := h2.1 hj; rw [al (by omega)]; rfl
 |some j =>
  have : cw x ≠ 0 := fun e => by rw [h2.2 e] at hj; cases hj
  rw [am (by omega)]; rfl
theorem uL (x : Ros) (w : World) : Calls prog 64 #[ros x] w fun e w' => e = .returned (.int .i64 (stN x : Nat)) /\ Below w.heap.size w w' := by
 cases hf : aU x
 ·rw [show stN x = 0 from by unfold stN; rw [hf]; rfl]; exact vD hf w
 have hm : ey x = outs x := by unfold ey; rw [if_pos hf]
 have hb := yx hf;have ho := qu (dv hf).2.1;rw [uA hf];by_cases c1 : 2 <= outs x
 ·rw [if_pos (.inl c1)];cases hq : gT x
  ·exact rH hf hm rfl hq (am (by omega)) w
  ·exact qK hf hm rfl hq (am (by omega)) w
 have hg : decide ((2 : Int) <= (outs x : Int)) = false := al (by omega);cases hgo : x.gone
 ·rw [if_neg (by rintro (h | ⟨_, h⟩); exact c1 h; cases h), if_neg (by decide)];by_cases k1 : cw x = 1
  ·rw [if_pos k1];rw [am k1] at hb;by_cases n1 : outs x = 1
   ·exact sY hf hm rfl hb hg (by rw [n1]; rfl) hgo w
   ·exact t4 hf hm rfl hb hg (by simp; omega) hgo w
  ·rw [if_neg k1];rw [al k1] at hb;by_cases n1 : outs x = 1
   ·rw [if_pos n1]; exact uu hf hm rfl hb hg (by rw [n1]; rfl) hgo w
   ·rw [if_neg n1]; exact vF hf hm rfl hb hg (by simp; omega) hgo w
 ·by_cases n1 : outs x = 1
  ·rw [if_pos (.inr ⟨n1, rfl⟩)];cases hq : gT x
   ·exact pK hf hm rfl hq hg (by rw [n1]; rfl) hgo w
   ·exact rx hf hm rfl hq hg (by rw [n1]; rfl) hgo w
  ·rw [if_neg (by omega), if_pos rfl];cases hq : gT x
   ·exact tp hf hm rfl hq hg (by simp; omega) hgo w
   ·exact sK hf hm rfl hq hg (by simp; omega) hgo w
section
variable (x : Ros) {j : Nat} (hj : j < 16)
include hj
theorem iL : (aO x).set (3 + j) (.int .u8 1) = aO (dW x j 1) := wC x hj 1
end
theorem sp {y : Ros} {b : Bool} (w : World) (h : aU y = b) : Calls prog 65 #[ros y] w fun e w' => e = .returned (.bool b) /\ Below w.heap.size w w' := by subst h; exact yS y w
theorem xO {x : Ros} {m : Int} (hf : aU x = false) (w : World) : Calls prog 63 #[ros x, .int .i64 m] w fun e w' => e = .returned (.tuple #[ros (x), .bool false]) /\ Below w.heap.size w w' := by
 have HT1 := ae (fT.new w x);have HF := ae hf;clear hf;go_enter func63, ntmps63;go_upto_region 1 with (first | (refine au rfl (aV rfl rfl) ?_) | (refine au rfl (bP rfl) ?_) | fail);generalize (w.alloc (.cells (aO x).toArray 35)).alloc (.cells (aO bF).toArray 35) = w1 at *;refine af ?_;refine abG (aN rfl abQ (HT1.out.at0)) ?_;refine ay rfl (aA call66 rfl (evc abQ evn)) ?_;refine (gY w1 HF).mono ?_;rintro e w2 ⟨rfl, hb⟩;have HT2 := ae (HT1.out.call hb);clear hb HT1;refine bp ?_;refine runs 1 ?_;refine aG 4 rfl (aK rfl abQ) (by kernel_rfl) ?_;simp only [a9, ac, aa];refine aL 1 ?_;go_upto_region 2 with fail;refine af ?_;refine abG (aN rfl abQ (HT2.out.at0)) ?_;refine az rfl (cu rfl (ev rfl) (ev rfl) HT2.out.at1) ?_;simp only [aa];have HT3 := ae (HT2.out.put (x));generalize fe w2 (w.heap.size + 1) (x) = w3 at HT3 ⊢;clear HT2;refine aL 1 ?_;go_wp2_with fail;exact bodyPost_ret (fg rfl _ _ _ rfl HT3.out.at1) rfl ⟨rfl, HT3.out.bel⟩
theorem wQ {x : Ros} {m : Int} (hf : aU x = true) (hq : dB x m = false) (w : World) : Calls prog 63 #[ros x, .int .i64 m] w fun e w' => e = .returned (.tuple #[ros (x), .bool false]) /\ Below w.heap.size w w' := by
 have HT1 := ae (fT.new w x);have HF := ae hf;have HQ := ae hq;clear hf hq;go_enter func63, ntmps63;go_upto_region 1 with (first | (refine au rfl (aV rfl rfl) ?_) | (refine au rfl (bP rfl) ?_) | fail);generalize (w.alloc (.cells (aO x).toArray 35)).alloc (.cells (aO bF).toArray 35) = w1 at *;refine af ?_;refine abG (aN rfl abQ (HT1.out.at0)) ?_;refine ay rfl (aA call66 rfl (evc abQ evn)) ?_;refine (gY w1 HF).mono ?_;rintro e w2 ⟨rfl, hb⟩;have HT2 := ae (HT1.out.call hb);clear hb HT1;refine bp ?_;refine runs 2 ?_;refine abN (aN rfl abQ (HT2.out.at0)) ?_;refine runs 1 ?_;refine ay abB (aA call87 rfl (evc abQ (evc abQ evn))) ?_;refine (iM w2 HQ).mono ?_;rintro e w3 ⟨rfl, hb⟩;have HT3 := ae (HT2.out.call hb);clear hb HT2;refine bp ?_;refine aL 2 ?_;go_upto_region 2 with fail;refine af ?_;refine abG (aN rfl abQ (HT3.out.at0)) ?_;refine az rfl (cu rfl (ev rfl) (ev rfl) HT3.out.at1) ?_;simp only [aa];have HT4 := ae (HT3.out.put (x));generalize fe w3 (w.heap.size + 1) (x) = w4 at HT4 ⊢;clear HT3;refine aL 1 ?_;go_wp2_with fail;exact bodyPost_ret (fg rfl _ _ _ rfl HT4.out.at1) rfl ⟨rfl, HT4.out.bel⟩
theorem xz {x : Ros} {j : Nat} (hj : j < 16) (hf : aU x = true) (hq : dB x (j : Int) = true) (h1 : (sta x j == 1) = true) (w : World) : Calls prog 63 #[ros x, .int .i64 (j : Int)] w fun e w' => e = .returned (.tuple #[ros (x), .bool false]) /\ Below w.heap.size w w' := by
 have HT1 := ae (fT.new w x);have HF := ae hf;have HQ := ae hq;have H1 := ae h1;clear hf hq h1;go_enter func63, ntmps63;go_upto_region 1 with (first | (refine au rfl (aV rfl rfl) ?_) | (refine au rfl (bP rfl) ?_) | fail);generalize (w.alloc (.cells (aO x).toArray 35)).alloc (.cells (aO bF).toArray 35) = w1 at *;refine af ?_;refine abG (aN rfl abQ (HT1.out.at0)) ?_;refine ay rfl (aA call66 rfl (evc abQ evn)) ?_;refine (gY w1 HF).mono ?_;rintro e w2 ⟨rfl, hb⟩;have HT2 := ae (HT1.out.call hb);clear hb HT1;refine bp ?_;refine runs 2 ?_;refine abN (aN rfl abQ (HT2.out.at0)) ?_;refine runs 1 ?_;refine ay abB (aA call87 rfl (evc abQ (evc abQ evn))) ?_;refine (iM w2 HQ).mono ?_;rintro e w3 ⟨rfl, hb⟩;have HT3 := ae (HT2.out.call hb);clear hb HT2;refine bp ?_;refine aL 2 ?_;go_upto_region 3 with fail;refine aZ 1 ?_;refine abG (ax rfl abQ gC) ?_;refine abG (cr rfl abQ abQ (iW hj)) ?_;refine abG (aE rfl abQ (jV ((HT3.out.at0).sta hj))) ?_;refine ag ?_;go_upto_region 4 with fail;refine af ?_;refine abG (aD true rfl abQ evk H1) ?_;refine aL 1 ?_;go_upto_region 5 with fail;refine af ?_;refine abG (aN rfl abQ (HT3.out.at0)) ?_;refine az rfl (cu rfl (ev rfl) (ev rfl) HT3.out.at1) ?_;simp only [aa];have HT4 := ae (HT3.out.put (x));generalize fe w3 (w.heap.size + 1) (x) = w4 at HT4 ⊢;clear HT3;refine aL 1 ?_;go_wp2_with fail;exact bodyPost_ret (fg rfl _ _ _ rfl HT4.out.at1) rfl ⟨rfl, HT4.out.bel⟩
theorem yC {x : Ros} {j : Nat} (hj : j < 16) (hf : aU x = true) (hq : dB x (j : Int) = true) (h1 : (sta x j == 1) = false) (h2 : (sta x j == 2) = true) (w : World) : Calls prog 63 #[ros x, .int .i64 (j : Int)] w fun e w' => e = .returned (.tuple #[ros (dW (ij x 0) j 1), .bool true]) /\ Below w.heap.size w w' := by
 have HT1 := ae (fT.new w x);have HF := ae hf;have HQ := ae hq;have H1 := ae h1;have H2 := ae h2;clear hf hq h1 h2;go_enter func63, ntmps63;go_upto_region 1 with (first | (refine au rfl (aV rfl rfl) ?_) | (refine au rfl (bP rfl) ?_) | fail);generalize (w.alloc (.cells (aO x).toArray 35)).alloc (.cells (aO bF).toArray 35) = w1 at *;refine af ?_;refine abG (aN rfl abQ (HT1.out.at0)) ?_;refine ay rfl (aA call66 rfl (evc abQ evn)) ?_;refine (gY w1 HF).mono ?_;rintro e w2 ⟨rfl, hb⟩;have HT2 := ae (HT1.out.call hb);clear hb HT1;refine bp ?_;refine runs 2 ?_;refine abN (aN rfl abQ (HT2.out.at0)) ?_;refine runs 1 ?_;refine ay abB (aA call87 rfl (evc abQ (evc abQ evn))) ?_;refine (iM w2 HQ).mono ?_;rintro e w3 ⟨rfl, hb⟩;have HT3 := ae (HT2.out.call hb);clear hb HT2;refine bp ?_;refine aL 2 ?_;go_upto_region 3 with fail;refine aZ 1 ?_;refine abG (ax rfl abQ gC) ?_;refine abG (cr rfl abQ abQ (iW hj)) ?_;refine abG (aE rfl abQ (jV ((HT3.out.at0).sta hj))) ?_;refine ag ?_;go_upto_region 4 with fail;refine af ?_;refine abG (aD false rfl abQ evk H1) ?_;refine aL 1 ?_;go_upto_region 6 with fail;refine af ?_;refine abG (aD true rfl abQ evk H2) ?_;refine aL 1 ?_;go_upto_region 7 with fail;refine af ?_;refine abG (ax rfl abQ rn) ?_;refine az rfl (oD rfl (ev rfl) evk (HT3.out.at0.there (by omega))) ?_;simp only [aa];have HT4 := ae (HT3.out.set (pd _ (0)));generalize setW w3 w.heap.size (19) (.int .i64 (0)) = w4 at HT4 ⊢;clear HT3;refine ag ?_;go_upto_region 8 with fail;refine aZ 1 ?_;refine abG (ax rfl abQ gC) ?_;refine abG (cr rfl abQ abQ (iW hj)) ?_;refine az rfl (jn rfl (ev rfl) evk (HT4.out.at0.there (by omega))) ?_;simp only [aa];have HT5 := ae (HT4.out.set (iL _ hj));generalize setW w4 w.heap.size (3 + j) (.int .u8 1) = w5 at HT5 ⊢;clear HT4;refine ag ?_;go_upto_region 9 with fail;refine af ?_;refine abG (aN rfl abQ (HT5.out.at0)) ?_;refine az rfl (cu rfl (ev rfl) (ev rfl) HT5.out.at1) ?_;simp only [aa];have HT6 := ae (HT5.out.put (dW (ij x 0) j 1));generalize fe w5 (w.heap.size + 1) (dW (ij x 0) j 1) = w6 at HT6 ⊢;clear HT5;refine aL 1 ?_;go_wp2_with fail;exact bodyPost_ret (fg rfl _ _ _ rfl HT6.out.at1) rfl ⟨rfl, HT6.out.bel⟩
theorem xf {x : Ros} {j : Nat} (hj : j < 16) (hf : aU x = true) (hq : dB x (j : Int) = true) (h1 : (sta x j == 1) = false) (h2 : (sta x j == 2) = false) (w : World) : Calls prog 63 #[ros x, .int .i64 (j : Int)] w fun e w' => e = .returned (.tuple #[ros (dW x j 1), .bool true]) /\ Below w.heap.size w w' := by
 have HT1 := ae (fT.new w x);have HF := ae hf;have HQ := ae hq;have H1 := ae h1;have H2 := ae h2;clear hf hq h1 h2;go_enter func63, ntmps63;go_upto_region 1 with (first | (refine au rfl (aV rfl rfl) ?_) | (refine au rfl (bP rfl) ?_) | fail);generalize (w.alloc (.cells (aO x).toArray 35)).alloc (.cells (aO bF).toArray 35) = w1 at *;refine af ?_;refine abG (aN rfl abQ (HT1.out.at0)) ?_;refine ay rfl (aA call66 rfl (evc abQ evn)) ?_;refine (gY w1 HF).mono ?_;rintro e w2 ⟨rfl, hb⟩;have HT2 := ae (HT1.out.call hb);clear hb HT1;refine bp ?_;refine runs 2 ?_;refine abN (aN rfl abQ (HT2.out.at0)) ?_;refine runs 1 ?_;refine ay abB (aA call87 rfl (evc abQ (evc abQ evn))) ?_;refine (iM w2 HQ).mono ?_;rintro e w3 ⟨rfl, hb⟩;have HT3 := ae (HT2.out.call hb);clear hb HT2;refine bp ?_;refine aL 2 ?_;go_upto_region 3 with fail;refine aZ 1 ?_;refine abG (ax rfl abQ gC) ?_;refine abG (cr rfl abQ abQ (iW hj)) ?_;refine abG (aE rfl abQ (jV ((HT3.out.at0).sta hj))) ?_;refine ag ?_;go_upto_region 4 with fail;refine af ?_;refine abG (aD false rfl abQ evk H1) ?_;refine aL 1 ?_;go_upto_region 6 with fail;refine af ?_;refine abG (aD false rfl abQ evk H2) ?_;refine aL 1 ?_;go_upto_region 8 with fail;refine aZ 1 ?_;refine abG (ax rfl abQ gC) ?_;refine abG (cr rfl abQ abQ (iW hj)) ?_;refine az rfl (jn rfl (ev rfl) evk (HT3.out.at0.there (by omega))) ?_;simp only [aa];have HT4 := ae (HT3.out.set (iL _ hj));generalize setW w3 w.heap.size (3 + j) (.int .u8 1) = w4 at HT4 ⊢;clear HT3;refine ag ?_;go_upto_region 9 with fail;refine af ?_;refine abG (aN rfl abQ (HT4.out.at0)) ?_;refine az rfl (cu rfl (ev rfl) (ev rfl) HT4.out.at1) ?_;simp only [aa];have HT5 := ae (HT4.out.put (dW x j 1));generalize fe w4 (w.heap.size + 1) (dW x j 1) = w5 at HT5 ⊢;clear HT4;refine aL 1 ?_;go_wp2_with fail;exact bodyPost_ret (fg rfl _ _ _ rfl HT5.out.at1) rfl ⟨rfl, HT5.out.bel⟩
theorem xa {x : Ros} {m : Int} (hf : aU x = false) (w : World) : Calls prog 30 #[ros x, .int .i64 m] w fun e w' => e = .returned (.tuple #[ros (x), .bool false]) /\ Below w.heap.size w w' := by
 have HT1 := ae (fT.new w x);have HF := ae hf;clear hf;go_enter func30, ntmps30;go_upto_region 1 with (first | (refine au rfl (aV rfl rfl) ?_) | (refine au rfl (bP rfl) ?_) | fail);generalize (w.alloc (.cells (aO x).toArray 35)).alloc (.cells (aO bF).toArray 35) = w1 at *;refine af ?_;refine abG (aN rfl abQ (HT1.out.at0)) ?_;refine ay rfl (aA call24 rfl (evc abQ evn)) ?_;refine (di w1 HF).mono ?_;rintro e w2 ⟨rfl, hb⟩;have HT2 := ae (HT1.out.call hb);clear hb HT1;refine bp ?_;refine runs 1 ?_;refine aG 4 rfl (aK rfl abQ) (by kernel_rfl) ?_;simp only [a9, ac, aa];refine runs 1 ?_;refine aG 5 rfl (aK rfl abQ) (by kernel_rfl) ?_;simp only [a9, ac, aa];refine aL 1 ?_;go_upto_region 2 with fail;refine af ?_;refine abG (aN rfl abQ (HT2.out.at0)) ?_;refine az rfl (cu rfl (ev rfl) (ev rfl) HT2.out.at1) ?_;simp only [aa];have HT3 := ae (HT2.out.put (x));generalize fe w2 (w.heap.size + 1) (x) = w3 at HT3 ⊢;clear HT2;refine aL 1 ?_;go_wp2_with fail;exact bodyPost_ret (fg rfl _ _ _ rfl HT3.out.at1) rfl ⟨rfl, HT3.out.bel⟩
theorem xi {x : Ros} {m : Int} (hf : aU x = true) (hq : dB x m = false) (w : World) : Calls prog 30 #[ros x, .int .i64 m] w fun e w' => e = .returned (.tuple #[ros (x), .bool false]) /\ Below w.heap.size w w' := by
 have HT1 := ae (fT.new w x);have HF := ae hf;have HQ := ae hq;clear hf hq;go_enter func30, ntmps30;go_upto_region 1 with (first | (refine au rfl (aV rfl rfl) ?_) | (refine au rfl (bP rfl) ?_) | fail);generalize (w.alloc (.cells (aO x).toArray 35)).alloc (.cells (aO bF).toArray 35) = w1 at *;refine af ?_;refine abG (aN rfl abQ (HT1.out.at0)) ?_;refine ay rfl (aA call24 rfl (evc abQ evn)) ?_;refine (di w1 HF).mono ?_;rintro e w2 ⟨rfl, hb⟩;have HT2 := ae (HT1.out.call hb);clear hb HT1;refine bp ?_;refine runs 2 ?_;refine abN (aN rfl abQ (HT2.out.at0)) ?_;refine runs 1 ?_;refine ay abB (aA call70 rfl (evc abQ (evc abQ evn))) ?_;refine (iK w2 HQ).mono ?_;rintro e w3 ⟨rfl, hb⟩;have HT3 := ae (HT2.out.call hb);clear hb HT2;refine bp ?_;refine runs 2 ?_;refine aG 5 rfl (aK rfl abQ) (by kernel_rfl) ?_;simp only [a9, ac, aa];refine aL 1 ?_;go_upto_region 2 with fail;refine af ?_;refine abG (aN rfl abQ (HT3.out.at0)) ?_;refine az rfl (cu rfl (ev rfl) (ev rfl) HT3.out.at1) ?_;simp only [aa];have HT4 := ae (HT3.out.put (x));generalize fe w3 (w.heap.size + 1) (x) = w4 at HT4 ⊢;clear HT3;refine aL 1 ?_;go_wp2_with fail;exact bodyPost_ret (fg rfl _ _ _ rfl HT4.out.at1) rfl ⟨rfl, HT4.out.bel⟩
theorem xl {x : Ros} {j : Nat} (hj : j < 16) (hf : aU x = true) (hq : dB x (j : Int) = true) (h1 : (sta x j == 1) = true) (w : World) : Calls prog 30 #[ros x, .int .i64 (j : Int)] w fun e w' => e = .returned (.tuple #[ros (x), .bool false]) /\ Below w.heap.size w w' := by
 have HT1 := ae (fT.new w x);have HF := ae hf;have HQ := ae hq;have H1 := ae h1;clear hf hq h1;go_enter func30, ntmps30;go_upto_region 1 with (first | (refine au rfl (aV rfl rfl) ?_) | (refine au rfl (bP rfl) ?_) | fail);generalize (w.alloc (.cells (aO x).toArray 35)).alloc (.cells (aO bF).toArray 35) = w1 at *;refine af ?_;refine abG (aN rfl abQ (HT1.out.at0)) ?_;refine ay rfl (aA call24 rfl (evc abQ evn)) ?_;refine (di w1 HF).mono ?_;rintro e w2 ⟨rfl, hb⟩;have HT2 := ae (HT1.out.call hb);clear hb HT1;refine bp ?_;refine runs 2 ?_;refine abN (aN rfl abQ (HT2.out.at0)) ?_;refine runs 1 ?_;refine ay abB (aA call70 rfl (evc abQ (evc abQ evn))) ?_;refine (iK w2 HQ).mono ?_;rintro e w3 ⟨rfl, hb⟩;have HT3 := ae (HT2.out.call hb);clear hb HT2;refine bp ?_;refine runs 3 ?_;refine runs 1 ?_;refine abN (ax rfl abQ gC) ?_;refine abN (cr rfl abQ abQ (iW hj)) ?_;refine abN (aE rfl abQ (jV ((HT3.out.at0).sta hj))) ?_;refine abN (aD true rfl abQ evk H1) ?_;refine aL 1 ?_;go_upto_region 2 with fail;refine af ?_;refine abG (aN rfl abQ (HT3.out.at0)) ?_;refine az rfl (cu rfl (ev rfl) (ev rfl) HT3.out.at1) ?_;simp only [aa];have HT4 := ae (HT3.out.put (x));generalize fe w3 (w.heap.size + 1) (x) = w4 at HT4 ⊢;clear HT3;refine aL 1 ?_;go_wp2_with fail;exact bodyPost_ret (fg rfl _ _ _ rfl HT4.out.at1) rfl ⟨rfl, HT4.out.bel⟩
theorem xy {x : Ros} {j : Nat} (hj : j < 16) (hf : aU x = true) (hq : dB x (j : Int) = true) (h1 : (sta x j == 1) = false) (h2 : (sta x j == 2) = true) (w : World) : Calls prog 30 #[ros x, .int .i64 (j : Int)] w fun e w' => e = .returned (.tuple #[ros (dW (ij x 0) j 1), .bool true]) /\ Below w.heap.size w w' := by
 have HT1 := ae (fT.new w x);have HF := ae hf;have HQ := ae hq;have H1 := ae h1;have H2 := ae h2;clear hf hq h1 h2;go_enter func30, ntmps30;go_upto_region 1 with (first | (refine au rfl (aV rfl rfl) ?_) | (refine au rfl (bP rfl) ?_) | fail);generalize (w.alloc (.cells (aO x).toArray 35)).alloc (.cells (aO bF).toArray 35) = w1 at *;refine af ?_;refine abG (aN rfl abQ (HT1.out.at0)) ?_;refine ay rfl (aA call24 rfl (evc abQ evn)) ?_;refine (di w1 HF).mono ?_;rintro e w2 ⟨rfl, hb⟩;have HT2 := ae (HT1.out.call hb);clear hb HT1;refine bp ?_;refine runs 2 ?_;refine abN (aN rfl abQ (HT2.out.at0)) ?_;refine runs 1 ?_;refine ay abB (aA call70 rfl (evc abQ (evc abQ evn))) ?_;refine (iK w2 HQ).mono ?_;rintro e w3 ⟨rfl, hb⟩;have HT3 := ae (HT2.out.call hb);clear hb HT2;refine bp ?_;refine runs 3 ?_;refine runs 1 ?_;refine abN (ax rfl abQ gC) ?_;refine abN (cr rfl abQ abQ (iW hj)) ?_;refine abN (aE rfl abQ (jV ((HT3.out.at0).sta hj))) ?_;refine abN (aD false rfl abQ evk H1) ?_;refine aL 1 ?_;go_upto_region 3 with fail;refine aZ 1 ?_;refine abG (ax rfl abQ gC) ?_;refine abG (cr rfl abQ abQ (iW hj)) ?_;refine abG (aE rfl abQ (jV ((HT3.out.at0).sta hj))) ?_;refine abG (aD true rfl abQ evk H2) ?_;refine ag ?_;go_upto_region 4 with fail;refine af ?_;refine abG (ax rfl abQ rn) ?_;refine az rfl (oD rfl (ev rfl) evk (HT3.out.at0.there (by omega))) ?_;simp only [aa];have HT4 := ae (HT3.out.set (pd _ (0)));generalize setW w3 w.heap.size (19) (.int .i64 (0)) = w4 at HT4 ⊢;clear HT3;refine ag ?_;go_upto_region 5 with fail;refine aZ 1 ?_;refine abG (ax rfl abQ gC) ?_;refine abG (cr rfl abQ abQ (iW hj)) ?_;refine az rfl (jn rfl (ev rfl) evk (HT4.out.at0.there (by omega))) ?_;simp only [aa];have HT5 := ae (HT4.out.set (iL _ hj));generalize setW w4 w.heap.size (3 + j) (.int .u8 1) = w5 at HT5 ⊢;clear HT4;refine ag ?_;go_upto_region 6 with fail;refine af ?_;refine abG (aN rfl abQ (HT5.out.at0)) ?_;refine az rfl (cu rfl (ev rfl) (ev rfl) HT5.out.at1) ?_;simp only [aa];have HT6 := ae (HT5.out.put (dW (ij x 0) j 1));generalize fe w5 (w.heap.size + 1) (dW (ij x 0) j 1) = w6 at HT6 ⊢;clear HT5;refine aL 1 ?_;go_wp2_with fail;exact bodyPost_ret (fg rfl _ _ _ rfl HT6.out.at1) rfl ⟨rfl, HT6.out.bel⟩
theorem yr {x : Ros} {j : Nat} (hj : j < 16) (hf : aU x = true) (hq : dB x (j : Int) = true) (h1 : (sta x j == 1) = false) (h2 : (sta x j == 2) = false) (w : World) : Calls prog 30 #[ros x, .int .i64 (j : Int)] w fun e w' => e = .returned (.tuple #[ros (dW x j 1), .bool true]) /\ Below w.heap.size w w' := by
 have HT1 := ae (fT.new w x);have HF := ae hf;have HQ := ae hq;have H1 := ae h1;have H2 := ae h2;clear hf hq h1 h2;go_enter func30, ntmps30;go_upto_region 1 with (first | (refine au rfl (aV rfl rfl) ?_) | (refine au rfl (bP rfl) ?_) | fail);generalize (w.alloc (.cells (aO x).toArray 35)).alloc (.cells (aO bF).toArray 35) = w1 at *;refine af ?_;refine abG (aN rfl abQ (HT1.out.at0)) ?_;refine ay rfl (aA call24 rfl (evc abQ evn)) ?_;refine (di w1 HF).mono ?_;rintro e w2 ⟨rfl, hb⟩;have HT2 := ae (HT1.out.call hb);clear hb HT1;refine bp ?_;refine runs 2 ?_;refine abN (aN rfl abQ (HT2.out.at0)) ?_;refine runs 1 ?_;refine ay abB (aA call70 rfl (evc abQ (evc abQ evn))) ?_;refine (iK w2 HQ).mono ?_;rintro e w3 ⟨rfl, hb⟩;have HT3 := ae (HT2.out.call hb);clear hb HT2;refine bp ?_;refine runs 3 ?_;refine runs 1 ?_;refine abN (ax rfl abQ gC) ?_;refine abN (cr rfl abQ abQ (iW hj)) ?_;refine abN (aE rfl abQ (jV ((HT3.out.at0).sta hj))) ?_;refine abN (aD false rfl abQ evk H1) ?_;refine aL 1 ?_;go_upto_region 3 with fail;refine aZ 1 ?_;refine abG (ax rfl abQ gC) ?_;refine abG (cr rfl abQ abQ (iW hj)) ?_;refine abG (aE rfl abQ (jV ((HT3.out.at0).sta hj))) ?_;refine abG (aD false rfl abQ evk H2) ?_;refine ag ?_;go_upto_region 5 with fail;refine aZ 1 ?_;refine abG (ax rfl abQ gC) ?_;refine abG (cr rfl abQ abQ (iW hj)) ?_;refine az rfl (jn rfl (ev rfl) evk (HT3.out.at0.there (by omega))) ?_;simp only [aa];have HT4 := ae (HT3.out.set (iL _ hj));generalize setW w3 w.heap.size (3 + j) (.int .u8 1) = w4 at HT4 ⊢;clear HT3;refine ag ?_;go_upto_region 6 with fail;refine af ?_;refine abG (aN rfl abQ (HT4.out.at0)) ?_;refine az rfl (cu rfl (ev rfl) (ev rfl) HT4.out.at1) ?_;simp only [aa];have HT5 := ae (HT4.out.put (dW x j 1));generalize fe w4 (w.heap.size + 1) (dW x j 1) = w5 at HT5 ⊢;clear HT4;refine aL 1 ?_;go_wp2_with fail;exact bodyPost_ret (fg rfl _ _ _ rfl HT5.out.at1) rfl ⟨rfl, HT5.out.bel⟩
theorem yQ (x : Ros) (m : Int) (w : World) : Calls prog 63 #[ros x, .int .i64 m] w fun e w' => e = .returned (.tuple #[ros (cG x m), .bool (fB x m)]) /\ Below w.heap.size w w' := by
 unfold cG;cases hf : aU x
 ·rw [show fB x m = false from by unfold fB; rw [hf]; rfl]; exact xO hf w
 cases hq : dB x m
 ·rw [show fB x m = false from by unfold fB; rw [hf, hq]; rfl]; exact wQ hf hq w
 have hm := kN hq;have hg := eE (dv hf).1;obtain ⟨j, rfl⟩ := Int.eq_ofNat_of_zero_le hm.1;have hj : j < 16 := by omega
 have e : fB x (j : Int) = decide (sta x j ≠ 1) := by unfold fB; rw [hf, hq]; rfl
 rw [e];by_cases h1 : sta x j = 1
 ·rw [al (by simpa using h1)]; exact xz hj hf hq (by simpa using h1) w
 rw [am (by simpa using h1), if_pos rfl]
 show Calls _ _ _ _ fun e w' => e = .returned (.tuple #[ros (if sta x j = 2 then dW (ij x 0) j 1 else dW x j 1), .bool true]) /\ Below w.heap.size w w'
 by_cases h2 : sta x j = 2
 ·rw [if_pos h2]; exact yC hj hf hq (by simpa using h1) (by simpa using h2) w
 ·rw [if_neg h2]; exact xf hj hf hq (by simpa using h1) (by simpa using h2) w
theorem aaL (x : Ros) (m : Int) (w : World) : Calls prog 30 #[ros x, .int .i64 m] w fun e w' => e = .returned (.tuple #[ros (cG x m), .bool (fB x m)]) /\ Below w.heap.size w w' := by
 unfold cG;cases hf : aU x
 ·rw [show fB x m = false from by unfold fB; rw [hf]; rfl]; exact xa hf w
 cases hq : dB x m
 ·rw [show fB x m = false from by unfold fB; rw [hf, hq]; rfl]; exact xi hf hq w
 have hm := kN hq;have hg := eE (dv hf).1;obtain ⟨j, rfl⟩ := Int.eq_ofNat_of_zero_le hm.1;have hj : j < 16 := by omega
 have e : fB x (j : Int) = decide (sta x j ≠ 1) := by unfold fB; rw [hf, hq]; rfl
 rw [e];by_cases h1 : sta x j = 1
 ·rw [al (by simpa using h1)]; exact xl hj hf hq (by simpa using h1) w
 rw [am (by simpa using h1), if_pos rfl]
 show Calls _ _ _ _ fun e w' => e = .returned (.tuple #[ros (if sta x j = 2 then dW (ij x 0) j 1 else dW x j 1), .bool true]) /\ Below w.heap.size w w'
 by_cases h2 : sta x j = 2
 ·rw [if_pos h2]; exact xy hj hf hq (by simpa using h1) (by simpa using h2) w
 ·rw [if_neg h2]; exact yr hj hf hq (by simpa using h1) (by simpa using h2) w
theorem abv (w : World) (y : Ros) : (w.alloc (.cells (dr y).toArray 32)).heap[w.heap.size]? = some (.cells (dr y).toArray 32 (0, 0)) := heap_alloc_new w _
structure jW (w0 w : World) (y z : Ros) : Prop where
 bel : Below w0.heap.size w0 w
 at0 : w.rangeAt w0.heap.size 0 (dr y)
 lt0 : w0.heap.size < w.heap.size
 at1 : bm w (w0.heap.size + 1) z
theorem jW.new (w : World) (y : Ros) : jW w ((w.alloc (.cells (dr y).toArray 32)).alloc (.cells (aO bF).toArray 35)) y bF := by
 refine ⟨((Below.refl _ w).alloc ai _).alloc (by simp) _, bN (t := 32) (bw (abv w y) _), by simp only [World.size_alloc]; omega, ?_⟩;have := bm.new (w.alloc (.cells (dr y).toArray 32)) bF;rwa [World.size_alloc] at this
section
variable {w0 w w' : World} {y z : Ros}
theorem jW.call (h : jW w0 w y z) (hb : Below w.heap.size w w') : jW w0 w' y z :=
 ⟨h.bel.trans (hb.mono h.bel.size), fd h.at0 h.lt0 hb, aq h.lt0 hb.size, h.at1.below (aW h.at1) hb⟩
theorem jW.put (h : jW w0 w y z) (z' : Ros) : jW w0 (fe w (w0.heap.size + 1) z') y z' :=
 ⟨gy h.bel (by omega), (fun j v hj => by
  have := World.rangeAt_setCells_apart h.at0 (w0.heap.size + 1) 0 (aO z') (.inl (by omega));exact this j v hj), by rw [mO]; exact h.lt0, iO h.at1⟩
end
section
variable {ρ : Operand -> Value} {o : Oper} {x : Operand} {w : World}
theorem jJ {y : Ros} (ho : o.op = .box 32 x) (hx : ρ x = geo y) : (execOp ρ o).run prog w = .ok (.value (.pointer (some ⟨w.heap.size, 0, none⟩))) (w.alloc (.cells (dr y).toArray 32)) := eP ho hx
theorem um (y : Ros) (w : World) : (Instr.build 35 #[(0, geo y)]).run prog w = .ok (ros (gz y)) w := by
 obtain ⟨m, s, r, st, cur, gone⟩ := y
 kernel_rfl
theorem mI {y : Ros} (ho : o.op = .build 35 #[(0, x)]) (hx : ρ x = geo y) : (execOp ρ o).run prog w = .ok (.value (ros (gz y))) w := by
 unfold execOp;simp only [ho, hx, List.map_toArray, List.map_cons, List.map_nil, Sem.run_bind, um, Result.andThen_ok, Sem.run_pure]
end
theorem jW.third {w0 w : World} {y z : Ros} (h : jW w0 w y z) {b : Nat} (x : Ros) (hb : w0.heap.size + 1 < b) : jW w0 (fe w b x) y z :=
 ⟨gy h.bel (by omega), fun j v hj => World.rangeAt_setCells_apart h.at0 b 0 (aO x) (.inl (by omega)) j v hj, by rw [mO]; exact h.lt0, (pu (by omega)).trans h.at1⟩
theorem zW {y : Ros} (hg : aU (gz y) = false) (w : World) : Calls prog 26 #[geo y] w fun e w' => e = .returned (.tuple #[ros (bF), .int .i64 2]) /\ Below w.heap.size w w' := by
 have HT1 := ae (jW.new w y);have HG := ae hg;clear hg;go_enter func26, ntmps26;go_upto_region 1 with (first | (refine au rfl (jJ rfl rfl) ?_) | (refine au rfl (bP rfl) ?_) | fail);generalize (w.alloc (.cells (dr y).toArray 32)).alloc (.cells (aO bF).toArray 35) = w1 at *;refine af ?_;refine abG (cz (c := y) rfl abQ HT1.out.at0) ?_;refine abG (mI (y := y) rfl abQ) ?_;refine abG (bP rfl) ?_;have HA := ae (bm.new w1 bF);have HT2 := ae (HT1.out.call (w' := w1.alloc (.cells (aO bF).toArray 35)) (aj.alloc ai _));have HB3 : Hid (w.heap.size + 1 < w1.heap.size) := ae (aW HT1.out.at1);clear HT1;generalize w1.alloc (.cells (aO bF).toArray 35) = w2 at *;generalize w1.heap.size = ba at *;refine az rfl (cu rfl (ev rfl) (ev rfl) HA.out) ?_;simp only [aa];have HA2 := ae (iO (x := gz y) HA);have HT3 := ae (HT2.out.third (gz y) HB3);clear HT2 HA;have HA := HA2;clear HA2;generalize fe w2 ba (gz y) = w3 at *;refine ag ?_;go_upto_region 2 with fail;refine af ?_;refine abG (aN rfl abQ HA) ?_;refine ay rfl (aA call65 rfl (evc abQ evn)) ?_;refine (sp w3 HG).mono ?_;rintro e w4 ⟨rfl, hb⟩;have HT4 := ae (HT3.out.call hb);have HA2 := ae (HA.out.below (aW HA) hb);clear hb HT3 HA;have HA := HA2;clear HA2;refine bp ?_;refine aL 1 ?_;go_upto_region 3 with fail;refine af ?_;refine abG (ra rfl) ?_;refine az rfl (cu rfl (ev rfl) (ev rfl) HT4.out.at1) ?_;simp only [aa];have HT5 := ae (HT4.out.put (bF));generalize fe w4 (w.heap.size + 1) (bF) = w5 at HT5 ⊢;clear HT4;refine aL 1 ?_;go_wp2_with fail;exact bodyPost_ret (fg rfl _ _ _ rfl HT5.out.at1) rfl ⟨rfl, HT5.out.bel⟩
theorem z5 {y : Ros} (hg : aU (gz y) = true) (w : World) : Calls prog 26 #[geo y] w fun e w' => e = .returned (.tuple #[ros (gz y), .int .i64 0]) /\ Below w.heap.size w w' := by
 have HT1 := ae (jW.new w y);have HG := ae hg;clear hg;go_enter func26, ntmps26;go_upto_region 1 with (first | (refine au rfl (jJ rfl rfl) ?_) | (refine au rfl (bP rfl) ?_) | fail);generalize (w.alloc (.cells (dr y).toArray 32)).alloc (.cells (aO bF).toArray 35) = w1 at *;refine af ?_;refine abG (cz (c := y) rfl abQ HT1.out.at0) ?_;refine abG (mI (y := y) rfl abQ) ?_;refine abG (bP rfl) ?_;have HA := ae (bm.new w1 bF);have HT2 := ae (HT1.out.call (w' := w1.alloc (.cells (aO bF).toArray 35)) (aj.alloc ai _));have HB3 : Hid (w.heap.size + 1 < w1.heap.size) := ae (aW HT1.out.at1);clear HT1;generalize w1.alloc (.cells (aO bF).toArray 35) = w2 at *;generalize w1.heap.size = ba at *;refine az rfl (cu rfl (ev rfl) (ev rfl) HA.out) ?_;simp only [aa];have HA2 := ae (iO (x := gz y) HA);have HT3 := ae (HT2.out.third (gz y) HB3);clear HT2 HA;have HA := HA2;clear HA2;generalize fe w2 ba (gz y) = w3 at *;refine ag ?_;go_upto_region 2 with fail;refine af ?_;refine abG (aN rfl abQ HA) ?_;refine ay rfl (aA call65 rfl (evc abQ evn)) ?_;refine (sp w3 HG).mono ?_;rintro e w4 ⟨rfl, hb⟩;have HT4 := ae (HT3.out.call hb);have HA2 := ae (HA.out.below (aW HA) hb);clear hb HT3 HA;have HA := HA2;clear HA2;refine bp ?_;refine aL 1 ?_;go_upto_region 4 with fail;refine af ?_;refine abG (aN rfl abQ HA) ?_;refine az rfl (cu rfl (ev rfl) (ev rfl) HT4.out.at1) ?_;simp only [aa];have HT5 := ae (HT4.out.put (gz y));generalize fe w4 (w.heap.size + 1) (gz y) = w5 at HT5 ⊢;clear HT4;refine aL 1 ?_;go_wp2_with fail;exact bodyPost_ret (fg rfl _ _ _ rfl HT5.out.at1) rfl ⟨rfl, HT5.out.bel⟩
theorem aby (y : Ros) (w : World) : Calls prog 26 #[geo y] w fun e w' => e = .returned (.tuple #[ros (vW y), .int .i64 (oo y : Nat)]) /\ Below w.heap.size w w' := by
 unfold vW oo;have h := rM y;cases hg : dV y
 ·exact zW (h.trans hg) w
 ·exact z5 (h.trans hg) w
structure Cel where
 b : Nat
 t : TypeId
 cs : List Value
section
variable {ρ : Operand -> Value} {o : Oper} {x y : Operand} {w : World} {b : Nat} {c d : Ros} {t r : TypeId}
theorem za {fn : Func} {p : Tmp} (h : fn.results = #[.cell p 35]) (tmps : Array Value) (w : World) (b : Nat) (hp : tmps.getD p undef = .pointer (some ⟨b, 0, none⟩)) (hc : bm w b c) :
  (results fn tmps).run prog w = .ok (ros c) w := dM h tmps w b hp hc.range underlying35 rfl (by rw [aT]; exact lh)
end
section
variable {x y : Ros} {g b : Bool} {m : Int} {e : Nat} (w : World)
theorem vq (h : vW x = y) (he : oo x = e) : Calls prog 26 #[geo x] w fun r w' => r = .returned (.tuple #[ros y, .int .i64 (e : Nat)]) /\ Below w.heap.size w w' := by subst h he; exact aby x w
theorem wX (h : cG x m = y) (hb : fB x m = b) : Calls prog 63 #[ros x, .int .i64 m] w fun r w' => r = .returned (.tuple #[ros y, .bool b]) /\ Below w.heap.size w w' := by subst h hb; exact yQ x m w
end
def lF : List Value -> Nat -> List Value -> List Value
 |cs, _, [] => cs
 |cs, o, v :: r => lF (cs.set o v) (o + 1) r
theorem kW {c : List Value} : ∀ (vs a b : List Value), vs.length = b.length -> lF (a ++ (b ++ c)) a.length vs = a ++ (vs ++ c)
 |[], a, b, h => by
  obtain rfl := List.eq_nil_of_length_eq_zero (show b.length = 0 from h.symm)
  rfl
 |v :: r, a, [], h => by cases h
 |v :: r, a, u :: b, h => by
  have e : (a ++ (u :: b ++ c)).set a.length v = (a ++ [v]) ++ (b ++ c) := by
   rw [List.set_append_right _ _ ai, Nat.sub_self, List.append_assoc]
   rfl
  rw [lF, e, show a.length + 1 = (a ++ [v]).length by simp, kW r (a ++ [v]) b (by simpa using h), List.append_assoc]
  rfl
theorem jQ {b : Nat} {t : TypeId} : ∀ (vs : List Value) (o : Nat) (cs : List Value) (w : World), w.heap[b]? = some (.cells cs.toArray t (0, 0)) -> (w.setCells b o vs).heap[b]? = some (.cells (lF cs o vs).toArray t (0, 0))
 |[], o, cs, w, h => h
 |v :: r, o, cs, w, h => by
  rw [World.setCells, lF];refine jQ r (o + 1) (cs.set o v) _ ?_;have := heap_setCell_same w b o _ t v h
  simpa using this
theorem l8 {fn : Func} {q u : Tmp} {t : TypeId} {cs : List Value} {d : TypeDesc} (h : fn.results = #[.cell q t, .tmp u]) (tmps : Array Value) (w : World) (b : Nat) (hq : tmps.getD q undef = .pointer (some ⟨b, 0, none⟩)) (hr : w.rangeAt b 0 cs) (hu : prog.underlying t = some d) (hd : d.isRow = true) (hz : (prog.info? t).map (·.size) = some cs.length) :
  (results fn tmps).run prog w = .ok (.tuple #[.agg cs.toArray, tmps.getD u undef]) w := by
 have hl : (loadVar t ⟨b, 0, none⟩).run prog w = .ok (.agg cs.toArray) w := run_loadVar_mid (P := prog) w b 0 t cs d hr hu hd hz;have hq' : tmps[q]?.getD undef = .pointer (some ⟨b, 0, none⟩) := by simpa using hq
 simp [results, h, hq', asAddr, hl]
def dC (w : World) (b : Nat) (x : Fnd) : Prop := w.heap[b]? = some (.cells (bW x).toArray 50 (0, 0))
section
variable {w w' : World} {b k : Nat} {x y : Fnd} {R : Ros}
theorem dC.ros (h : dC w b x) : dC (w.setCells b 2 (aO R)) b ⟨x.ev, x.id, R⟩ := by
 have := jQ (aO R) 2 (bW x) w h;have e := kW (c := []) (aO R) [.int .u64 x.ev, .int .u64 x.id] (aO x.R) (by rw [aT, aT]);simp only [List.append_nil] at e;have e2 : lF (bW x) 2 (aO R) = bW ⟨x.ev, x.id, R⟩ := e;rw [e2] at this;exact this
theorem dC.cells (h : dC w b x) : w.cell? ⟨b, 0, none⟩ = some (.int .u64 (x.ev : Int)) /\ w.cell? ⟨b, 1, none⟩ = some (.int .u64 (x.id : Int)) := by
 have r := bN h;exact ⟨r 0 _ rfl, r 1 _ rfl⟩
theorem dC.mm (h : dC w b x) : w.rangeAt b 2 (aO x.R) := by
 have := dR (ds := [.int .u64 x.ev, .int .u64 x.id]) (es := aO x.R) (fs := []) (k := 2) (bN h) (by simp [bW]) rfl;rwa [Nat.zero_add] at this
theorem qJ {o : Nat} (h : w.rangeAt b o (aO R)) : w.rangeAt b o (dr R) := by
 have := dR (ds := []) (es := dr R) (k := 0) h (by rw [fO]; rfl) rfl;rwa [Nat.add_zero] at this
theorem dC.nZ (h : dC w b x) : w.rangeAt b 2 (dr x.R) := qJ h.mm
theorem bZ.nZ {z : Sup} (h : bZ w b z) : w.rangeAt b 2 (dr z.ros) := qJ h.mm
theorem yU : (Instr.fieldAt 50 (.pointer (some ⟨b, 0, none⟩)) 0).run prog w = .ok (.pointer (some ⟨b, 0, none⟩)) w := by kernel_rfl
theorem m8 : (Instr.fieldAt 50 (.pointer (some ⟨b, 0, none⟩)) 1).run prog w = .ok (.pointer (some ⟨b, 1, none⟩)) w := by kernel_rfl
theorem ly : (Instr.fieldAt 50 (.pointer (some ⟨b, 0, none⟩)) 2).run prog w = .ok (.pointer (some ⟨b, 2, none⟩)) w := by kernel_rfl
theorem yK : (Instr.fieldAt 37 (.pointer (some ⟨b, 0, none⟩)) 2).run prog w = .ok (.pointer (some ⟨b, 2, none⟩)) w := by kernel_rfl
theorem mx {o : Nat} : (Instr.fieldAt 35 (.pointer (some ⟨b, o, none⟩)) 0).run prog w = .ok (.pointer (some ⟨b, o, none⟩)) w := by kernel_rfl
theorem vf {o : Nat} : (Instr.fieldAt 32 (.pointer (some ⟨b, o, none⟩)) 0).run prog w = .ok (.pointer (some ⟨b, o, none⟩)) w := by kernel_rfl
theorem aaY {o : Nat} : (Instr.fieldAt 32 (.pointer (some ⟨b, o, none⟩)) 1).run prog w = .ok (.pointer (some ⟨b, o + 1, none⟩)) w := by kernel_rfl
theorem aao {o : Nat} : (Instr.fieldAt 32 (.pointer (some ⟨b, o, none⟩)) 2).run prog w = .ok (.pointer (some ⟨b, o + 2, none⟩)) w := by kernel_rfl
theorem wJ : prog.eqGuardType prog.depth 32 = false := by kernel_rfl
theorem qj (x : Fnd) (w : World) : (Instr.build 50 #[(0, .int .u64 (x.ev : Int)), (1, .int .u64 (x.id : Int)), (2, ros x.R)]).run prog w = .ok (fnd x) w := by
 have hz := fu ku w;have h0 := cv (place := fun i => (#[(0, 1), (1, 1), (2, 21)] : Array (Nat × Nat))[i]?) (i := 0) (off := 0) (size := 1) (v := .int .u64 (x.ev : Int)) (pre := []) (mid := [.int .u64 0]) (post := .int .u64 0 :: aO bF) (vs := [.int .u64 (x.ev : Int)]) (rest := [(1, .int .u64 (x.id : Int)), (2, ros x.R)]) rfl rfl rfl rfl rfl;have h1 := cv (place := fun i => (#[(0, 1), (1, 1), (2, 21)] : Array (Nat × Nat))[i]?) (i := 1) (off := 1) (size := 1) (v := .int .u64 (x.id : Int)) (pre := [.int .u64 (x.ev : Int)]) (mid := [.int .u64 0]) (post := aO bF) (vs := [.int .u64 (x.id : Int)]) (rest := [(2, ros x.R)]) rfl rfl rfl rfl rfl;have h2 := cv (place := fun i => (#[(0, 1), (1, 1), (2, 21)] : Array (Nat × Nat))[i]?) (i := 2) (off := 2) (size := 21) (v := ros x.R) (pre := [.int .u64 (x.ev : Int), .int .u64 (x.id : Int)]) (mid := aO bF) (post := []) (vs := aO x.R) (rest := []) rfl rfl (aT x.R) rfl (aT bF);simp only [List.nil_append, List.append_nil, List.cons_append] at h0 h1 h2;have h4 := h0.trans (h1.trans h2);have hz' : (zeroValue 50).run prog w = .ok (.agg (.int .u64 0 :: .int .u64 0 :: aO bF).toArray) w := hz;have hc : (Value.agg (.int .u64 0 :: .int .u64 0 :: aO bF).toArray).cells = (.int .u64 0 :: .int .u64 0 :: aO bF).toArray := rfl;simp only [Instr.build, Sem.run_bind, hz', run_underlying underlying50, Result.andThen_ok, hc];refine Eq.trans (congrArg (fun r => Result.andThen r _) (?h : _ = Result.ok #[(0, 1), (1, 1), (2, 21)] w)) ?_
 case h => kernel_rfl
 simp only [Result.andThen_ok];have h5 : Instr.fill (fun i => (#[(0, 1), (1, 1), (2, 21)] : Array (Nat × Nat))[i]?) (bW x).toArray [] = some (bW x).toArray := by rw [Instr.fill]
 rw [h4.trans h5]
 rfl
theorem oq {ρ : Operand -> Value} {o : Oper} {p q r : Operand} {e i : Nat} {R : Ros} (ho : o.op = .build 50 #[(0, p), (1, q), (2, r)]) (hp : ρ p = .int .u64 (e : Int)) (hq : ρ q = .int .u64 (i : Int)) (hr : ρ r = ros R) : (execOp ρ o).run prog w = .ok (.value (fnd ⟨e, i, R⟩)) w := by
 have h := qj ⟨e, i, R⟩ w;dsimp only at h;unfold execOp;simp only [ho, hp, hq, hr, List.map_toArray, List.map_cons, List.map_nil, Sem.run_bind, h, Result.andThen_ok, Sem.run_pure]
end
def lsK (q : Nat -> Bool) (R : Ros) : Nat -> Ros
 |0 => R
 |k + 1 => if q k = true then cG (lsK q R k) (k : Int) else lsK q R k
theorem pf {x : Ros} {m : Int} (h : sta x m.toNat = 1) : cG x m = x := by
 unfold cG fB;rw [al (by omega), Bool.and_false, Bool.and_false]
 rfl
theorem oX (x : Ros) (m : Int) : (cG x m).m = x.m /\ (cG x m).s = x.s /\ (cG x m).r = x.r := by
 unfold cG
 split
 ·split <;> exact ⟨rfl, rfl, rfl⟩
 ·exact ⟨rfl, rfl, rfl⟩
theorem oS {x : Ros} (hf : aU x = true) (m : Int) (j : Nat) : sta (cG x m) j = if (0 <= m /\ m < x.m) /\ (j : Int) = m then 1 else sta x j := by
 by_cases hm : 0 <= m /\ m < x.m
 ·by_cases h1 : sta x m.toNat = 1
  ·rw [pf h1]
   split
   ·rename_i e
    rw [show j = m.toNat by omega];exact h1
   ·rfl
  ·obtain ⟨_, l2⟩ := nQ (d := m.toNat) hf (by omega) h1;have e := l2 j;rw [show ((m.toNat : Nat) : Int) = m by omega] at e;rw [e];by_cases c : j = m.toNat
   ·rw [if_pos c, if_pos ⟨hm, by omega⟩]
   ·rw [if_neg c, if_neg fun y => c (by omega)]
 ·rw [if_neg fun y => hm y.1];have : fB x m = false := by
   unfold fB;rw [show dB x m = false from al hm, Bool.false_and, Bool.and_false]
  unfold cG;rw [this]
  rfl
theorem pW {q : Nat -> Bool} {R : Ros} (hf : aU R = true) : ∀ {k : Nat}, k <= R.m.toNat -> aU (lsK q R k) = true /\ ((lsK q R k).m = R.m /\ (lsK q R k).s = R.s /\ (lsK q R k).r = R.r) /\ ∀ j, sta (lsK q R k) j = if j < k /\ q j = true then 1 else sta R j
 |0, _ => ⟨hf, ⟨rfl, rfl, rfl⟩, fun j => by rw [if_neg fun e => by omega]; rfl⟩
 |k + 1, hk => by
  obtain ⟨h1, ⟨h2, h3, h4⟩, h5⟩ := pW (q := q) hf (k := k) (by omega);rw [lsK];by_cases hq : q k = true
  ·rw [if_pos hq];obtain ⟨g1, g2, g3⟩ := oX (lsK q R k) (k : Int);refine ⟨il _ h1, ⟨g1.trans h2, g2.trans h3, g3.trans h4⟩, fun j => ?_⟩;rw [oS h1, h5 j, h2];by_cases c : j = k
   ·subst c;rw [if_pos ⟨⟨by omega, by omega⟩, rfl⟩, if_pos ⟨by omega, hq⟩]
   ·rw [if_neg fun e => c (by omega)];by_cases e : j < k /\ q j = true
    ·rw [if_pos e, if_pos ⟨by omega, e.2⟩]
    ·rw [if_neg e, if_neg fun y => e ⟨by omega, y.2⟩]
  ·rw [if_neg hq];refine ⟨h1, ⟨h2, h3, h4⟩, fun j => ?_⟩;rw [h5 j];by_cases e : j < k /\ q j = true
   ·rw [if_pos e, if_pos ⟨by omega, e.2⟩]
   ·rw [if_neg e, if_neg fun y => e ⟨by
     rcases Nat.lt_or_ge j k with z | z
     ·exact z
     ·rw [show j = k by omega] at y;exact absurd y.2 hq, y.2⟩]
theorem vP {q q' : Nat -> Bool} {R : Ros} (hf : aU R = true) : ∀ {k : Nat}, k <= R.m.toNat -> (∀ j, j < k -> q j = q' j \/ sta R j = 1) -> lsK q R k = lsK q' R k
 |0, _, _ => rfl
 |k + 1, hk, h => by
  have ih := vP (k := k) hf (by omega) fun j hj => h j (by omega)
  rw [lsK, lsK, <- ih];rcases h k (by omega) with e | e
  ·rw [e]
  ·have h1 : cG (lsK q R k) (k : Int) = lsK q R k := pf (by
    rw [Int.toNat_natCast, (pW hf (k := k) (by omega)).2.2 k, if_neg fun y => by omega];exact e)
   rw [h1]
   split <;> split <;> rfl
theorem m9 : ∀ (f : Nat) (h : HuS), aU h.R = true -> aU (eH f h).2.R = true /\ ((eH f h).2.R.m = h.R.m /\ (eH f h).2.R.s = h.R.s /\ (eH f h).2.R.r = h.R.r) /\ ∀ j, sta (eH f h).2.R j = sta h.R j \/ sta (eH f h).2.R j = 1
 |0, h, hf => ⟨hf, ⟨rfl, rfl, rfl⟩, fun _ => .inl rfl⟩
 |f + 1, h, hf => by
  rw [eH];obtain ⟨o, e, M', hx⟩ : ∃ o e M', cI h.id (h.ev + 1) h.R h.R.m.toNat 0 h.M = (o, e, M') := ⟨_, _, _, rfl⟩;rw [hx];cases o with
  |none => exact ⟨hf, ⟨rfl, rfl, rfl⟩, fun _ => .inl rfl⟩
  |some m =>
   obtain ⟨g1, g2, g3⟩ := oX h.R (m : Int);obtain ⟨k1, ⟨k2, k3, k4⟩, k5⟩ := m9 f ⟨M', h.id, h.ev + 1, cG h.R (m : Int)⟩ (il _ hf);refine ⟨k1, ⟨k2.trans g1, k3.trans g2, k4.trans g3⟩, fun j => ?_⟩;rcases k5 j with y | y
   ·have z : sta (cG h.R (m : Int)) j = _ := oS hf (m : Int) j
    split at z
    ·exact .inr (y.trans z)
    ·exact .inl (y.trans z)
   ·exact .inr y
theorem oZ {l : List UInt8} : ∀ {k : Nat}, kA l k = k ↔ ∀ j, j < k -> bt l j ≠ 0
 |0 => ⟨fun _ j hj => absurd hj (by omega), fun _ => rfl⟩
 |k + 1 => by
  have ih := oZ (l := l) (k := k);have hle := r8 l k;rw [fV]
  constructor
  ·intro h j hj;by_cases e : bt l k = 0
   ·rw [if_pos e] at h; omega
   ·rw [if_neg e] at h;by_cases c : j = k
    ·subst c; exact e
    ·exact ih.1 (by omega) j (by omega)
  ·intro h;rw [if_neg (h k (by omega)), ih.2 fun j hj => h j (by omega)]
section
variable {N ev : Nat} {q1 q2 : Nat -> Bool} {M : aM} {R : Ros}
structure GvA (N ev : Nat) (R : Ros) (q : Nat -> Bool) (M : aM) : Prop where
 bK : M.bK = false
 left : M.left = 0
 len : M.ds.length = N + 1
 evs : 1 <= ev /\ ev <= 2305843009213693952
 fine : aU R = true
 geo : R.m = (N : Int) /\ R.s = 4 /\ R.r = 40
 sec : ∀ j, j < N -> (M.ds.getD j bI).S.length = 6
 last : (M.ds.getD N bI).S.length = 50
 dead : ∀ j, j < N -> q j = true -> (M.ds.getD j bI).g = true
 now : ∀ j, j < N -> q j = false -> ∃ S, M.ds.getD j bI = ⟨S, [], false⟩ /\ Now ev ⟨9, (j : Int), R⟩ S
theorem vk {j : Nat} (h : j < M.ds.length) : dz M (j : Int) = ((M.ds.getD j bI).S.length : Int) := by
 unfold dz;rw [if_pos (kF h)]
 rfl
theorem GvA.fits (a : GvA N ev R q1 M) : gaF M ev R = true := by
 have hl := a.len;refine zi ⟨a.evs.2, by rw [a.geo.1, hl]; omega, ?_, ?_⟩
 ·rw [a.geo.1, a.geo.2.2, vk (by omega), a.last]; decide
 ·rw [jj, a.geo.1, a.geo.2.1];intro j hj;rw [vk (by omega), a.sec j (by omega)]
  decide
theorem GvA.tells (a : GvA N ev R q1 M) {j : Nat} (hj : j < N) (hq : q1 j = false) : gaE M (j : Int) = 0 /\ gaN M (j : Int) = ev /\ gaS M (j : Int) = ⟨9, (j : Int), R⟩ := by
 obtain ⟨S, hS, n1, n2, n3⟩ := a.now j hj hq;have hl := a.len;have hw : Wel M j S := ⟨a.bK, a.left, by omega, hS⟩;have h6 : S.length = 6 := by have := a.sec j hj; rw [hS] at this; exact this
 have x0 : gaX M (j : Int) = S.getD 0 aB := hw.rdB (n := 0) (by omega);have x1 : gaY M (j : Int) = S.getD 1 aB := hw.rdB (n := 1) (by omega);have r0 : cg M (j : Int) 0 = 0 := hw.rdE (n := 0) (by omega);have r1 : cg M (j : Int) 1 = 0 := hw.rdE (n := 1) (by omega);have hQ : gaQ M (j : Int) = true := by
  unfold gaQ;rw [x0, x1, n2, n3, n1, r0, r1, a.fits, am (show 0 <= (j : Int) /\ (j : Int) < (M.ds.length : Int) - 1 by omega)]
  rfl
 have hE : gaE M (j : Int) = 0 := by unfold gaE; rw [a.bK, if_neg (by decide), if_pos hQ]
 obtain ⟨g1, g2⟩ := qd hE;rw [x0, x1] at g1 g2;exact ⟨hE, g1.trans n2, g2.trans n3⟩
theorem GvA.mute (a : GvA N ev R q1 M) {j : Nat} (hj : j < N) (hq : q1 j = true) : gaE M (j : Int) = 7 := by
 have hl := a.len;have h6 := a.sec j hj;have r0 : cg M (j : Int) 0 = 9 := si a.bK (by omega) (a.dead j hj hq) (by omega);unfold gaE gaQ;rw [a.bK, if_neg (by decide), r0, al (show ¬ (9 : Int) = 0 by decide), Bool.and_false, Bool.false_and, Bool.false_and, Bool.false_and, if_neg (by decide)]
theorem GvA.aa3 (a : GvA N ev R q1 M) : ∀ {k : Nat}, k <= N -> ((∀ j, j < k -> q1 j = true) /\ gaK M k = none) \/ ((∃ j, j < k /\ q1 j = false) /\ gaK M k = some ⟨ev, 9, R⟩)
 |0, _ => .inl ⟨fun j hj => absurd hj (by omega), rfl⟩
 |k + 1, hk => by
  have ih := a.aa3 (k := k) (by omega);cases hq : q1 k
  ·obtain ⟨t1, t2, t3⟩ := a.tells (j := k) (by omega) hq;have hp : gaP M (k : Int) = ⟨ev, 9, R⟩ := by unfold gaP; rw [t2, t3]
   refine .inr ⟨⟨k, by omega, hq⟩, ?_⟩;rw [gaK, t2, hp];rcases ih with ⟨_, e⟩ | ⟨_, e⟩
   ·rw [e, if_pos ⟨t1, rfl⟩]
   ·rw [e, if_neg fun y => by have := y.2; unfold gaU at this; simp at this]
  ·have t1 := a.mute (j := k) (by omega) hq;have e1 : gaK M (k + 1) = gaK M k := by rw [gaK, if_neg fun y => by omega]
   rw [e1];rcases ih with ⟨i, e⟩ | ⟨⟨j, i, i2⟩, e⟩
   ·refine .inl ⟨fun j hj => ?_, e⟩;by_cases c : j = k
    ·subst c; exact hq
    ·exact i j (by omega)
   ·exact .inr ⟨⟨j, by omega, i2⟩, e⟩
theorem GvA.aaA (a : GvA N ev R q1 M) : ∀ {k : Nat}, k <= N -> gaL M ⟨ev, 9, R⟩ k = lsK q1 R k
 |0, _ => rfl
 |k + 1, hk => by
  rw [gaL, lsK, a.aaA (k := k) (by omega)];cases hq : q1 k
  ·obtain ⟨t1, t2, t3⟩ := a.tells (j := k) (by omega) hq;have : gaW M ⟨ev, 9, R⟩ k = true := by
    unfold gaW ma;rw [t1, t3];simp
   rw [if_pos this, if_neg (by decide)]
  ·have t1 := a.mute (j := k) (by omega) hq;have : gaW M ⟨ev, 9, R⟩ k = false := by
    unfold gaW;rw [t1, al (show ¬ (7 : Int) = 0 by decide), Bool.false_and, Bool.false_and, Bool.false_and]
   rw [this, if_neg (by decide), if_pos rfl]
theorem GvA.look (a : GvA N ev R q1 M) : ((∀ j, j < N -> q1 j = true) /\ glE M = 7 /\ glF M = co) \/ ((∃ j, j < N /\ q1 j = false) /\ glE M = 0 /\ glF M = ⟨ev, 9, lsK q1 R N⟩) := by
 have hO : gaO M = gaK M N := by unfold gaO; rw [a.len]; rfl
 unfold glE glF;rw [a.bK, hO, if_neg (by decide), if_neg (by decide)];rcases a.aa3 (Nat.le_refl N) with ⟨i, e⟩ | ⟨i, e⟩
 ·rw [e]; exact .inl ⟨i, rfl, rfl⟩
 ·rw [e];refine .inr ⟨i, rfl, ?_⟩
  show (⟨ev, 9, gaL M ⟨ev, 9, R⟩ R.m.toNat⟩ : Fnd) = _
  rw [a.geo.1, Int.toNat_natCast, a.aaA (Nat.le_refl N)]
theorem GvA.fai (a : GvA N ev R q1 M) (q2 : Nat -> Bool) : GvA N ev R (fun j => q1 j || q2 j) (da q2 M N) := by
 have hl := a.len;have hg := vj (q := q2) (M := M) (k := N) (by omega);refine ⟨hg.bK.trans a.bK, hg.left.trans a.left, hg.len.trans hl, a.evs, a.fine, a.geo, fun j hj => ?_, ?_, fun j hj hq => ?_, fun j hj hq => ?_⟩
 ·rw [hg.at_ j]; split
  ·exact a.sec j hj
  ·exact a.sec j hj
 ·rw [hg.at_ N, if_neg fun y => by omega]; exact a.last
 ·rw [hg.at_ j];by_cases c : j < N /\ q2 j = true
  ·rw [if_pos c]
  ·rw [if_neg c];refine a.dead j hj ?_;cases h3 : q1 j
   ·rw [h3, Bool.false_or] at hq; exact absurd ⟨hj, hq⟩ c
   ·rfl
 ·have h3 : q1 j = false /\ q2 j = false := by simpa using hq
  rw [hg.at_ j, if_neg fun y => by rw [h3.2] at y; exact absurd y.2 (by decide)];exact a.now j hj h3.1
theorem my (h1 : 3 <= N) (h2 : N <= 6) (q1 : Nat -> Bool) {e0 : Nat} (hev : e0 < 4294967296) :
  ∃ ev' R' M', eH 17 ⟨da q1 (bV (szK N 4)) N, 9, e0, neR N 4⟩ = (0, ⟨M', 9, ev', R'⟩) /\ (e0 < ev' /\ ev' <= e0 + gG (ded (neR N 4) (da q1 (bV (szK N 4)) N)) N + 1) /\ GvA N ev' R' q1 M' /\ (∀ j, j < N -> (sta R' j = 1 ↔ q1 j = true)) /\ (∀ j, j < N -> sta R' j = 0 \/ sta R' j = 1) /\ (gG (ded (neR N 4) (da q1 (bV (szK N 4)) N)) N = 0 -> R' = neR N 4) := by
 have hk := xm h1 (by omega) (show (1 : Int) <= 4 by decide) (by decide) q1 e0;have hp := rT (ded (neR N 4) (da q1 (bV (szK N 4)) N)) N;obtain ⟨ev', R', M', e, k1, k2, k3, k4, k5, _, k7, k8, k9⟩ := mz 17 e0 _ _ hk (by rw [kt]; omega) (by omega);obtain ⟨r1, ⟨r2, r3, r4⟩, r5⟩ := m9 17 ⟨da q1 (bV (szK N 4)) N, 9, e0, neR N 4⟩ hk.fine;rw [e] at r1 r2 r3 r4 r5;dsimp only at r1 r2 r3 r4 r5;rw [kt] at k3 k5 k7 k8 k9;have hf := vj (q := q1) (M := bV (szK N 4)) (k := N) (by rw [eY]; omega);have hl : M'.ds.length = N + 1 := by rw [k5.len, hf.len, eY]
 have s0 : ∀ j, j < N -> sta R' j = 0 \/ sta R' j = 1 := fun j hj => by
  rcases r5 j with y | y
  ·exact .inl (y.trans (sn (by omega)))
  ·exact .inr y
 have s1 : ∀ j, j < N -> (sta R' j = 1 ↔ q1 j = true) := fun j hj => by
  rw [k7 j hj, oC hj, sn (by omega)];simp
 have hsl : ∀ j, j < N -> (M'.ds.getD j bI).S.length = 6 := fun j hj => by
  rw [k5.sl j, hf.at_ j, iF hj]
  split <;> simp
 have hN : (M'.ds.getD N bI).S.length = 50 := by
  rw [k5.hi N ai, hf.at_ N, if_neg fun y => by omega, fD];have : (szK N 4).getD N 0 = 50 := by
   unfold szK;simp [List.getD]
  simp only [List.getD, List.getElem?_map];rw [List.getD, List.getElem?_eq_getElem (by rw [iB]; omega)] at this;rw [List.getElem?_eq_getElem (by rw [iB]; omega)];simp only [Option.getD_some] at this;simp only [Option.map_some, Option.getD_some, this]
  rfl
 refine ⟨ev', R', M', e, ⟨k2, k3⟩, ⟨k1.bK, k1.left, hl, ⟨by omega, by omega⟩, r1, ⟨k4.trans rfl, r3, r4⟩, hsl, hN, fun j hj hq => ?_, fun j hj hq => ?_⟩, s1, s0, k9⟩
 ·rw [k5.gs j, oC hj]; exact hq
 ·rcases k8 j hj with y | y
  ·have := (s1 j hj).1 y;rw [hq] at this;cases this
  ·exact y
theorem uX (h1 : 3 <= N) (h2 : N <= 6) (q1 q2 : Nat -> Bool) {e0 : Nat} (hev : e0 < 4294967296) {h : HuS} (hh : h = ⟨da q1 (bV (szK N 4)) N, 9, e0, neR N 4⟩) :
  ia h = 0 /\ aU (el h).R = true /\ (el h).R.m = (N : Int) /\ (el h).M.ds.length = N + 1 /\ (el h).ev < 18446744073709551616 /\ aU (lsK q2 (el h).R N) = true /\
  ((ey (lsK q2 (el h).R N) = N /\ glE (da q2 (el h).M N) = 7) \/ (ey (lsK q2 (el h).R N) ≠ N /\ glE (da q2 (el h).M N) = 0 /\ glF (da q2 (el h).M N) = ⟨(el h).ev, 9, lsK q2 (el h).R N⟩)) := by
 subst hh;obtain ⟨ev', R', M', e, k1, B, s1, s0, _⟩ := my h1 h2 q1 hev;have A := B.fai q2;unfold ia el;rw [e];dsimp only;have hRm : R'.m.toNat = N := by rw [B.geo.1]; rfl
 have eL : lsK (fun j => q1 j || q2 j) R' N = lsK q2 R' N := vP B.fine (by omega) fun j hj => by
  cases h3 : q1 j
  ·exact .inl (Bool.false_or _)
  ·exact .inr ((s1 j hj).2 h3)
 obtain ⟨l1, ⟨l2, _, _⟩, l5⟩ := pW (q := q2) B.fine (k := N) (by omega);have hm : (ey (lsK q2 R' N) = N) ↔ ∀ j, j < N -> (q1 j || q2 j) = true := by
  have hmm : (lsK q2 R' N).m.toNat = N := by rw [l2]; exact hRm
  unfold ey;rw [if_pos l1, <- uU l1, hmm, oZ];have hs : ∀ j, j < N -> (sta (lsK q2 R' N) j ≠ 0 ↔ (q1 j || q2 j) = true) := fun j hj => by
   rw [l5 j];cases h3 : q2 j
   ·rw [if_neg fun y => absurd y.2 (by decide), Bool.or_false, <- s1 j hj];rcases s0 j hj with y | y <;> omega
   ·rw [if_pos ⟨hj, rfl⟩, Bool.or_true]; simp
  constructor
  ·exact fun h j hj => (hs j hj).1 (h j hj)
  ·exact fun h j hj => (hs j hj).2 (h j hj)
 have hp := B.evs;refine ⟨rfl, B.fine, B.geo.1, B.len, by omega, l1, ?_⟩;rcases A.look with ⟨a1, a2, _⟩ | ⟨⟨j, a1, a3⟩, a2, a4⟩
 ·exact .inl ⟨hm.2 a1, a2⟩
 ·exact .inr ⟨fun y => (by rw [hm.1 y j a1] at a3; cases a3), a2, by rw [a4, eL]⟩
theorem uM (N : Nat) (d : Int) : gaE (bV (szK N 4)) d = 7 /\ glE (bV (szK N 4)) = 7 /\ glF (bV (szK N 4)) = co := by
 have hz : ∀ e n, dA (bV (szK N 4)) e n = aB := fun e n => by
  unfold dA
  split
  ·have hL : ((bV (szK N 4)).dev e).L = [] /\ ∀ j, ((bV (szK N 4)).dev e).S.getD j aB = aB := by
    unfold aM.dev bV;simp only [List.getD, List.getElem?_map];cases ((szK N 4)[e.toNat]?) with
    |none => exact ⟨rfl, fun j => rfl⟩
    |some x =>
     refine ⟨rfl, fun j => ?_⟩;simp only [Option.map_some, Option.getD_some, List.getElem?_replicate]
     split <;> rfl
   unfold ed
   split
   ·rw [hL.1];exact hL.2 _
   ·rfl
  ·rfl
 have g : gsN aB = 0 := lC.2 (by rw [su]; decide);have hd : ∀ e, gaE (bV (szK N 4)) e = 7 := fun e => by
  have hq : gaQ (bV (szK N 4)) e = false := by
   unfold gaQ gaX gaY nwE;rw [hz, hz, g, if_pos ⟨rfl, rfl⟩, al (show ¬ ((7 : Nat) = 0) by decide), Bool.and_false, Bool.false_and]
  unfold gaE;rw [hq, if_neg (show ¬ ((bV (szK N 4)).bK = true) from fun x => by cases x), if_neg (by decide)]
 have hk : ∀ k, gaK (bV (szK N 4)) k = none := fun k => by
  induction k with
  |zero => rfl
  |succ k ih => rw [gaK, hd, if_neg fun x => by omega, ih]
 refine ⟨hd d, ?_, ?_⟩
 ·unfold glE gaO;rw [hk, if_neg (show ¬ ((bV (szK N 4)).bK = true) from fun x => by cases x)]
 ·unfold glF gaO;rw [hk, if_neg (show ¬ ((bV (szK N 4)).bK = true) from fun x => by cases x)]
theorem yp : ∃ M', ia ⟨bV (szK 3 4), 9, 0, neR 3 4⟩ = 0 /\ el ⟨bV (szK 3 4), 9, 0, neR 3 4⟩ = ⟨M', 9, 1, neR 3 4⟩ /\ glE M' = 0 /\ glF M' = ⟨1, 9, neR 3 4⟩ /\ glE (fo M' 0) = 0 /\ ∃ R2, glF (fo M' 0) = ⟨1, 9, R2⟩ /\ stN R2 = 2 := by
 obtain ⟨ev', R', M', e, k1, B, s1, s0, k9⟩ := my (N := 3) (by omega) (by omega) (fun _ => false) (e0 := 0) (by omega);have e0 : da (fun _ => false) (bV (szK 3 4)) 3 = bV (szK 3 4) := rfl;have hp : gG (ded (neR 3 4) (da (fun _ => false) (bV (szK 3 4)) 3)) 3 = 0 := by rw [e0]; decide +kernel
 rw [hp] at k1;have hR := k9 hp;have hev : ev' = 1 := by omega
 subst hev hR;rw [e0] at e;refine ⟨M', by unfold ia; rw [e], by unfold el; rw [e], ?_⟩;have h1 := B.look;have B2 := B.fai fun j => decide (j = 0)
 have e2 : da (fun j => decide (j = 0)) M' 3 = fo M' 0 := rfl;rw [e2] at B2;have h2 := B2.look;rcases h1 with ⟨a, _⟩ | ⟨_, a1, a2⟩
 ·have := a 0 (by omega); cases this
 ·rcases h2 with ⟨b, _⟩ | ⟨_, b1, b2⟩
  ·have := b 1 (by omega); cases this
  ·exact ⟨a1, a2, b1, _, b2, by decide +kernel⟩
end
theorem qe (a b : Int) (w : World) : (Instr.build 32 #[(0, .int .i64 a), (1, .int .i64 b), (2, .int .i64 40)]).run prog w = .ok (.agg #[.int .i64 a, .int .i64 b, .int .i64 40]) w := by kernel_rfl
theorem kf {ρ : Operand -> Value} {o : Oper} {x y z : Operand} {w : World} {a b : Int} (ho : o.op = .build 32 #[(0, x), (1, y), (2, z)]) (hx : ρ x = .int .i64 a) (hy : ρ y = .int .i64 b) (hz : ρ z = .int .i64 40) : (execOp ρ o).run prog w = .ok (.value (.agg #[.int .i64 a, .int .i64 b, .int .i64 40])) w := by
 unfold execOp;simp only [ho, hx, hy, hz, List.map_toArray, List.map_cons, List.map_nil, Sem.run_bind, qe, Result.andThen_ok, Sem.run_pure]
section
variable {ρ : Operand -> Value} {o : Oper} {x y : Operand} {w : World} {t r : TypeId} {v : Value} {a1 a2 : Addr}
theorem oU (op : BinOp) (t : TypeId) (x y : Operand) (a b : Option Addr) : (eqGuard op t x y (.pointer a) (.pointer b)).run prog w = .ok () w := by
 cases op <;> simp [eqGuard]
theorem mK {op : BinOp} {m n : Option Addr} (ho : o.op = .binOp op t x y r) (hx : ρ x = .pointer m) (hy : ρ y = .pointer n) (h : (binOp op t (.pointer m) (.pointer n)).run prog w = .ok v w) : (execOp ρ o).run prog w = .ok (.value v) w := by
 unfold execOp;simp only [ho, hx, hy, Sem.run_bind, oU, h, Result.andThen_ok, Sem.run_pure]
theorem kq {te : TypeId} (hp : prog.underlying t = some (.pointer te)) (m : Option Addr) (d : Nat) : (Op.equalIn (d + 1) t (.pointer m) (.pointer none)).run prog w = .ok (decide (m = none)) w := by
 cases m <;> simp [Op.equalIn, run_underlying hp]
theorem i6 {te : TypeId} {m : Option Addr} (c : Bool) (hp : prog.underlying t = some (.pointer te)) (ho : o.op = .binOp .eql t x y r) (hx : ρ x = .pointer m) (hy : ρ y = .pointer none) (h : decide (m = none) = c) : (execOp ρ o).run prog w = .ok (.value (.bool c)) w := by
 subst h;refine mK ho hx hy ?_;simp only [binOp];simp [Op.equal, Op.maxDepth, kq hp m 9999]
theorem fz {te : TypeId} {m : Option Addr} (c : Bool) (hp : prog.underlying t = some (.pointer te)) (ho : o.op = .binOp .neq t x y r) (hx : ρ x = .pointer m) (hy : ρ y = .pointer none) (h : (!decide (m = none)) = c) : (execOp ρ o).run prog w = .ok (.value (.bool c)) w := by
 subst h;refine mK ho hx hy ?_;simp only [binOp];simp [Op.equal, Op.maxDepth, kq hp m 9999]
end
end Go.Proofs.YtehefifamaofkaaGreatDoor
