import Derived.Test.YtnliphgjcaippaaGreatDoorHsae
import Derived.Test.YtnliphgjcaippaaGreatDoorHsaf
import Derived.Test.YtnliphgjcaippaaGreatDoorHsao
import Derived.Test.YtnliphgjcaippaaGreatDoorHsaa
import Derived.Test.YtnliphgjcaippaaGreatDoorHsag
import Derived.Test.YtnliphgjcaippaaGreatDoorHsah
import Derived.Test.YtnliphgjcaippaaGreatDoorHsal
import Derived.Test.YtnliphgjcaippaaGreatDoorHsZ
namespace Go.Proofs.YtnliphgjcaippaaGreatDoor
open Go.RowKit
set_option linter.unusedVariables false
set_option maxRecDepth 100000
structure CrG (w : World) (G : Nat → Prop) : Prop where
  t : Tab w
  off : ¬ G 0
structure HulI where
  R : BenP
  J : World → (Nat → Prop) → Nat → Nat → HuS → Prop
  lt : ∀ {w G q p h}, J w G q p h → ∀ b, G b → b < w.heap.size
  only : ∀ {w w' G F q p h}, J w G q p h → Only F w w' → (∀ b, G b → ¬ F b) → J w' G q p h
  ben : ∀ {w G q p h}, J w G q p h → ∃ Gb, R.Bn w Gb q h.M ∧ (∀ b, Gb b → G b) ∧ ∀ w' Gb' M', R.Bn w' Gb' q M' → Only Gb w w' → Grow w Gb Gb' → ∃ G', J w' G' q p { h with M := M' } ∧ Only G w w' ∧ Grow w G G'
  new_ : ∀ {w G q M} (id ev : Nat) (x : Ros), id < 18446744073709551616 → ev < 18446744073709551616 → R.Bn w G q M → Calls Tryz.prog 8 #[.pointer (some ⟨q, 0, none⟩), .int .u64 (id : Int), .int .u64 (ev : Int), ros x] w fun e w' =>
    Below w.heap.size w w' ∧ ((hnwB M id ev x = true ∧ ∃ p G', e = .returned (.tuple #[.pointer (some ⟨p, 0, none⟩), .int .i64 0]) ∧ J w' G' q p ⟨M, id, ev, x⟩ ∧ ∀ b, G' b → G b ∨ w.heap.size ≤ b) ∨ (hnwB M id ev x = false ∧ e = .returned (.tuple #[.pointer none, .int .i64 2])))
  new_nil : ∀ (w : World) (id ev : Nat) (x : Ros), id < 18446744073709551616 → ev < 18446744073709551616 → Calls Tryz.prog 8 #[.pointer none, .int .u64 (id : Int), .int .u64 (ev : Int), ros x] w fun e w' => e = .returned (.tuple #[.pointer none, .int .i64 1]) ∧ Below w.heap.size w w'
  save : ∀ {w G q p h}, J w G q p h → CrG w G → Room h.M 600 → h.ev ≤ 4611686018427387000 → Calls Tryz.prog 17 #[.pointer (some ⟨p, 0, none⟩)] w fun e w' => e = .returned (.int .i64 (savE h)) ∧ ∃ G', (savE h = 0 → J w' G' q p (savS h)) ∧ Only G w w' ∧ Grow w G G' ∧ ∃ Gb, R.Bn w' Gb q (savS h).M ∧ ∀ b, Gb b → G' b
  read : ∀ {w G q p h} (s m : Int), J w G q p h → CrG w G → Room h.M 600 → h.ev ≤ 4611686018427387000 → Calls Tryz.prog 23 #[.pointer (some ⟨p, 0, none⟩), .agg #[.int .i64 s, .int .i64 m]] w fun e w' => e = .returned (.tuple #[blk (hrdB h s m), .int .i64 (hrdE h s m)]) ∧ ∃ G', (hrdK h s m → J w' G' q p (hrdS h s m)) ∧ Only G w w' ∧ Grow w G G' ∧ ∃ Gb, R.Bn w' Gb q (hrdS h s m).M ∧ ∀ b, Gb b → G' b
  write : ∀ {w G q p h} (s m : Int) (b : Blk), J w G q p h → CrG w G → Room h.M 600 → h.ev ≤ 4611686018427387000 → Calls Tryz.prog 24 #[.pointer (some ⟨p, 0, none⟩), .agg #[.int .i64 s, .int .i64 m], blk b] w fun e w' => e = .returned (.int .i64 (hwrE h s m b)) ∧ ∃ G', (hwrK h s m → J w' G' q p (hwrS h s m b)) ∧ Only G w w' ∧ Grow w G G' ∧ ∃ Gb, R.Bn w' Gb q (hwrS h s m b).M ∧ ∀ b, Gb b → G' b
  event : ∀ {w G q p h}, J w G q p h → Calls Tryz.prog 18 #[.pointer (some ⟨p, 0, none⟩)] w fun e w' => e = .returned (.int .u64 (h.ev : Int)) ∧ Below w.heap.size w w'
  id_ : ∀ {w G q p h}, J w G q p h → Calls Tryz.prog 30 #[.pointer (some ⟨p, 0, none⟩)] w fun e w' => e = .returned (.int .u64 (h.id : Int)) ∧ Below w.heap.size w w'
  state : ∀ {w G q p h}, J w G q p h → Calls Tryz.prog 31 #[.pointer (some ⟨p, 0, none⟩)] w fun e w' => e = .returned (.int .i64 (stN h.R : Nat)) ∧ Below w.heap.size w w'
  roster : ∀ {w G q p h}, J w G q p h → Calls Tryz.prog 19 #[.pointer (some ⟨p, 0, none⟩)] w fun e w' => e = .returned (ros h.R) ∧ Below w.heap.size w w'
  No : World → Value → Prop
  zc : List Value
  zb : List Value
  no_nil : ∀ w : World, No w (.pointer none)
  bld0 : ∀ w : World, (Instr.build 70 #[]).run Tryz.prog w = .ok (.agg zc.toArray) w
  bldB : ∀ w : World, (Instr.build 74 #[]).run Tryz.prog w = .ok (.agg zb.toArray) w
  no_zero : ∀ w : World, No (w.alloc (.cells zc.toArray 70)) (.pointer (some ⟨w.heap.size, 0, none⟩))
  no_below : ∀ {w w' : World} {v : Value}, No w v → Below w.heap.size w w' → No w' v
  new_zero : ∀ (w : World) (b : Nat) (id ev : Nat) (x : Ros), w.heap[b]? = some (.cells zb.toArray 74 (0, 0)) → id < 18446744073709551616 → ev < 18446744073709551616 → Calls Tryz.prog 8 #[.pointer (some ⟨b, 0, none⟩), .int .u64 (id : Int), .int .u64 (ev : Int), ros x] w fun e w' => e = .returned (.tuple #[.pointer none, .int .i64 1]) ∧ Below w.heap.size w w'
  no_read : ∀ (w : World) (v : Value) (s m : Int), No w v → Calls Tryz.prog 23 #[v, .agg #[.int .i64 s, .int .i64 m]] w fun e w' => e = .returned (.tuple #[blk au, .int .i64 1]) ∧ Below w.heap.size w w'
  no_write : ∀ (w : World) (v : Value) (s m : Int) (b : Blk), No w v → Calls Tryz.prog 24 #[v, .agg #[.int .i64 s, .int .i64 m], blk b] w fun e w' => e = .returned (.int .i64 1) ∧ Below w.heap.size w w'
  no_fill : ∀ (w : World) (v : Value) (b : Blk), No w v → Calls Tryz.prog 25 #[v, blk b] w fun e w' => e = .returned (.int .i64 1) ∧ Below w.heap.size w w'
  no_flush : ∀ (w : World) (v : Value) , No w v → Calls Tryz.prog 26 #[v] w fun e w' => e = .returned (.int .i64 1) ∧ Below w.heap.size w w'
  no_save : ∀ (w : World) (v : Value) , No w v → Calls Tryz.prog 17 #[v] w fun e w' => e = .returned (.int .i64 1) ∧ Below w.heap.size w w'
  no_find : ∀ (w : World) (v : Value) (m : Int), No w v → Calls Tryz.prog 27 #[v, .int .i64 m] w fun e w' => e = .returned (.int .i64 1) ∧ Below w.heap.size w w'
  no_begin : ∀ (w : World) (v : Value) (m : Int), No w v → Calls Tryz.prog 28 #[v, .int .i64 m] w fun e w' => e = .returned (.int .i64 1) ∧ Below w.heap.size w w'
  no_gone : ∀ (w : World) (v : Value) (g : Bool), No w v → Calls Tryz.prog 29 #[v, .bool g] w fun e w' => e = .returned (.int .i64 1) ∧ Below w.heap.size w w'
  no_event : ∀ (w : World) (v : Value) , No w v → Calls Tryz.prog 18 #[v] w fun e w' => e = .returned (.int .u64 0) ∧ Below w.heap.size w w'
  no_id : ∀ (w : World) (v : Value) , No w v → Calls Tryz.prog 30 #[v] w fun e w' => e = .returned (.int .u64 0) ∧ Below w.heap.size w w'
  no_state : ∀ (w : World) (v : Value) , No w v → Calls Tryz.prog 31 #[v] w fun e w' => e = .returned (.int .i64 0) ∧ Below w.heap.size w w'
theorem HulI.below (C : HulI) {w w' : World} {G : Nat → Prop} {q p : Nat} {h : HuS} (hj : C.J w G q p h) (k : Below w.heap.size w w') : C.J w' G q p h := C.only hj (Only.of_below (fun _ => False) k) fun _ _ e => e
structure HBas (w0 : World) (B : Nat) : Prop where
  le : B ≤ w0.heap.size
  t : Tab w0
  lo : 0 < B
theorem lt_of_cell_ {w : World} {b j : Nat} {v : Value} (h : w.cell? ⟨b, j, none⟩ = some v) : b < w.heap.size := by
  rcases Nat.lt_or_ge b w.heap.size with h' | h'
  · exact h'
  · have : w.heap[b]? = none := Array.getElem?_eq_none h'
    simp [World.cell?, this] at h
theorem HBas.start {w : World} (h : Tab w) : HBas w w.heap.size := ⟨Nat.le_refl _, h, lt_of_cell_ (h 0 (by omega))⟩
theorem HBas.tab {w0 w : World} {B : Nat} (h : HBas w0 B) (hb : Below B w0 w) : Tab w := fun i hi => (World.cell?_of_block (w := w0) (hb.block _ h.lo)).trans (h.t i hi)
def HAt (C : HulI) (w0 : World) (B : Nat) (K : Nat → Prop) (w : World) (q p : Nat) (h : HuS) : Prop := ∃ G, C.J w G q p h ∧ (∀ b, G b → B ≤ b) ∧ Below B w0 w ∧ HBas w0 B ∧ ∀ b, K b → ¬ G b ∧ b < w.heap.size
def bU (K : Nat → Prop) (w w' : World) : Prop := ∀ b, K b → w'.heap[b]? = w.heap[b]?
section
variable {C : HulI} {w0 w w' : World} {B q p : Nat} {K K' : Nat → Prop} {h h' : HuS}
theorem HAt.bel (a : HAt C w0 B K w q p h) : Below B w0 w := by obtain ⟨G, h1, h2, h3, _⟩ := a; exact h3
theorem HAt.guard (a : HAt C w0 B K w q p h) (k : Below w.heap.size w w') (hK : ∀ b, K' b → K b ∨ (w.heap.size ≤ b ∧ b < w'.heap.size)) : HAt C w0 B K' w' q p h := by
  obtain ⟨G, h1, h2, h3, h4, h5⟩ := a
  have hs := k.size
  refine ⟨G, C.below h1 k, h2, h3.trans (k.mono (Nat.le_trans h4.le h3.size)), h4, fun b hb => ?_⟩
  rcases hK b hb with e | ⟨e1, e2⟩
  · obtain ⟨g1, g2⟩ := h5 b e
    exact ⟨g1, by omega⟩
  · exact ⟨fun hg => by have := C.lt h1 b hg; omega, e2⟩
theorem HAt.below (a : HAt C w0 B K w q p h) (k : Below w.heap.size w w') : HAt C w0 B K w' q p h := a.guard k fun b e => .inl e
theorem HAt.turn {G G' : Nat → Prop} (h2 : ∀ b, G b → B ≤ b) (h3 : Below B w0 w) (h4 : HBas w0 B) (h5 : ∀ b, K b → ¬ G b ∧ b < w.heap.size) (k1 : C.J w' G' q p h') (k2 : Only G w w') (k3 : Grow w G G') : HAt C w0 B K w' q p h' ∧ bU K w w' := by
  have hs := Nat.le_trans h4.le h3.size
  have hs2 := k2.size
  refine ⟨⟨G', k1, k3.above h2 hs, h3.trans (k2.below h2 hs), h4, fun b hb => ?_⟩, fun b hb => k2.block b (h5 b hb).2 (h5 b hb).1⟩
  obtain ⟨g1, g2⟩ := h5 b hb
  refine ⟨fun hg => ?_, by omega⟩
  rcases k3 b hg with e | e
  · exact g1 e
  · omega
theorem HBas.crg {G : Nat → Prop} (h : HBas w0 B) (hb : Below B w0 w) (hG : ∀ b, G b → B ≤ b) : CrG w G := ⟨h.tab hb, fun e => by have := h.lo; have := hG _ e; omega⟩
theorem HAt.save (a : HAt C w0 B K w q p h) (hr : Room h.M 600) (he : h.ev ≤ 4611686018427387000) (hz : savE h = 0) : Calls Tryz.prog 17 #[.pointer (some ⟨p, 0, none⟩)] w fun e w' => e = .returned (.int .i64 (savE h)) ∧ HAt C w0 B K w' q p (savS h) ∧ bU K w w' := by
  obtain ⟨G, h1, h2, h3, h4, h5⟩ := a
  exact (C.save h1 (h4.crg h3 h2) hr he).mono fun e w' ⟨k0, G', k1, k2, k3, _⟩ => ⟨k0, HAt.turn h2 h3 h4 h5 (k1 hz) k2 k3⟩
theorem HAt.read (s m : Int) (a : HAt C w0 B K w q p h) (hr : Room h.M 600) (he : h.ev ≤ 4611686018427387000) (hk : hrdK h s m) : Calls Tryz.prog 23 #[.pointer (some ⟨p, 0, none⟩), .agg #[.int .i64 s, .int .i64 m]] w fun e w' => e = .returned (.tuple #[blk (hrdB h s m), .int .i64 (hrdE h s m)]) ∧ HAt C w0 B K w' q p (hrdS h s m) ∧ bU K w w' := by
  obtain ⟨G, h1, h2, h3, h4, h5⟩ := a
  exact (C.read s m h1 (h4.crg h3 h2) hr he).mono fun e w' ⟨k0, G', k1, k2, k3, _⟩ => ⟨k0, HAt.turn h2 h3 h4 h5 (k1 hk) k2 k3⟩
theorem HAt.write (s m : Int) (b : Blk) (a : HAt C w0 B K w q p h) (hr : Room h.M 600) (he : h.ev ≤ 4611686018427387000) (hk : hwrK h s m) : Calls Tryz.prog 24 #[.pointer (some ⟨p, 0, none⟩), .agg #[.int .i64 s, .int .i64 m], blk b] w fun e w' => e = .returned (.int .i64 (hwrE h s m b)) ∧ HAt C w0 B K w' q p (hwrS h s m b) ∧ bU K w w' := by
  obtain ⟨G, h1, h2, h3, h4, h5⟩ := a
  exact (C.write s m b h1 (h4.crg h3 h2) hr he).mono fun e w' ⟨k0, G', k1, k2, k3, _⟩ => ⟨k0, HAt.turn h2 h3 h4 h5 (k1 hk) k2 k3⟩
theorem HAt.ben {I : FuncId} {vs : Array Value} {v : Value} {M' : BenS} (a : HAt C w0 B K w q p h) (hc : ∀ {w F}, C.R.Bn w F q h.M → Calls Tryz.prog I vs w fun e w' => e = .returned v ∧ ∃ F', C.R.Bn w' F' q M' ∧ Only F w w' ∧ Grow w F F') : Calls Tryz.prog I vs w fun e w' => e = .returned v ∧ HAt C w0 B K w' q p { h with M := M' } ∧ bU K w w' := by
  obtain ⟨G, h1, h2, h3, h4, h5⟩ := a
  obtain ⟨Gb, b1, b2, b3⟩ := C.ben h1
  refine (hc b1).mono fun e w' ⟨he, F', k1, k2, k3⟩ => ?_
  obtain ⟨G', g1, g2, g3⟩ := b3 w' F' M' k1 k2 k3
  exact ⟨he, HAt.turn h2 h3 h4 h5 g1 g2 g3⟩
theorem HAt.look {I : FuncId} {vs : Array Value} {v : Value} (a : HAt C w0 B K w q p h) (hc : ∀ {w F}, C.R.Bn w F q h.M → Calls Tryz.prog I vs w fun e w' => e = .returned v ∧ Below w.heap.size w w') : Calls Tryz.prog I vs w fun e w' => e = .returned v ∧ Below w.heap.size w w' := by
  obtain ⟨G, h1, _⟩ := a
  obtain ⟨Gb, b1, _⟩ := C.ben h1
  exact hc b1
theorem HAt.event (a : HAt C w0 B K w q p h) : Calls Tryz.prog 18 #[.pointer (some ⟨p, 0, none⟩)] w fun e w' => e = .returned (.int .u64 (h.ev : Int)) ∧ Below w.heap.size w w' := by obtain ⟨G, h1, _⟩ := a; exact C.event h1
theorem HAt.state (a : HAt C w0 B K w q p h) : Calls Tryz.prog 31 #[.pointer (some ⟨p, 0, none⟩)] w fun e w' => e = .returned (.int .i64 (stN h.R : Nat)) ∧ Below w.heap.size w w' := by obtain ⟨G, h1, _⟩ := a; exact C.state h1
theorem HAt.roster (a : HAt C w0 B K w q p h) : Calls Tryz.prog 19 #[.pointer (some ⟨p, 0, none⟩)] w fun e w' => e = .returned (ros h.R) ∧ Below w.heap.size w w' := by obtain ⟨G, h1, _⟩ := a; exact C.roster h1
end
theorem potK_zero {q : Nat → Bool} : ∀ {n : Nat}, (∀ j, j < n → q j = false) → potK q n = 0
  | 0, _ => rfl
  | n + 1, h => by rw [potK, potK_zero (n := n) (fun j hj => h j (by omega)), h n (by omega)]; rfl
section
variable {M : BenS} {m n : Nat} {S : List Blk} {b : Blk}
theorem Wel.wr (h : Wel M m S) (hn : n < S.length) (b : Blk) : de M m (n : Int) = 0 ∧ wrS6 M m (n : Int) b = M.done.put m ⟨S, [((n : Int), b)], false⟩ := by
  have hs : M.stepE = 0 := by unfold BenS.stepE; rw [h.left]; rfl
  constructor
  · unfold de
    rw [if_pos (h.rdE hn), hs]
  · unfold wrS6
    rw [if_pos (h.rdE hn), if_neg (by rw [h.left]; omega), h.devI]
    have e : wrL S [] false (n : Int) b = [((n : Int), b)] := by unfold wrL; rw [if_pos (ef ⟨by omega, by omega⟩)]; rfl
    show BenS.put _ _ ⟨S, wrL S [] false (n : Int) b, false⟩ = _
    rw [e]
    rfl
theorem rd_loose (hd : M.bX = false) (hl : m < M.ds.length) (hv : M.ds.getD m bq = ⟨S, [((n : Int), b)], false⟩) (hn : n < S.length) : bL M m (n : Int) = 0 ∧ rdB6 M m (n : Int) = b := by
  have hv' : M.dev m = ⟨S, [((n : Int), b)], false⟩ := hv
  constructor
  · unfold bL
    rw [if_pos (litE_ok hd hl), hv']
    show cC S false (n : Int) = 0
    exact ef ⟨by omega, by omega⟩
  · unfold rdB6
    rw [if_pos (litE_ok hd hl), hv']
    show readB S [((n : Int), b)] false (n : Int) = b
    rw [readB_ok (ef ⟨by omega, by omega⟩)]
    simp [lastW]
theorem rd_dead (hd : M.bX = false) (hl : m < M.ds.length) (hg : (M.ds.getD m bq).g = true) (hn : n < (M.ds.getD m bq).S.length) : bL M m (n : Int) = 9 := by
  unfold bL
  rw [if_pos (litE_ok hd hl)]
  show cC (M.ds.getD m bq).S (M.ds.getD m bq).g n = 9
  rw [hg]
  exact askE_dead ⟨by omega, by omega⟩
end
theorem room_of {M : BenS} {st : Nat} (hs : M.steps ≤ st) (hst : st ≤ 900000) (hl : M.left = 0) (hL : ∀ j, j < M.ds.length → (M.ds.getD j bq).L.length ≤ 1) : Room M 600 := by
  refine ⟨by omega, by rw [hl]; omega, fun d hd => ?_⟩
  obtain ⟨j, hj, e⟩ := List.getElem_of_mem hd
  have := hL j hj
  rw [List.getD, List.getElem?_eq_getElem hj, Option.getD_some, e] at this
  omega
def lvR : Ros := neR 3 2
def lvR1 : Ros := losX lvR 1
def lvM : BenS := cE (szK 3 2)
theorem lvR_has : plcH lvR 0 1 = true ∧ faiH lvR = false ∧ hasB lvR 1 0 = true ∧ faiH lvR1 = false ∧ stN lvR1 = 2 := by decide +kernel
theorem lvR_los : lvR1.m = lvR.m ∧ (∀ j, sta lvR1 j = if j = 1 then 1 else sta lvR j) ∧ aS lvR1 = true := by
  have hf := neR_fine (N := 3) (s := 2) (by omega) (by omega) (by omega) (by omega)
  have h := los_sta (R := lvR) hf (d := 1) (by decide) (by rw [show sta lvR 1 = 0 from neR_sta (by omega)]; decide)
  exact ⟨h.1, h.2, fine_los _ hf⟩
theorem lvH (b : Blk) : ∃ M1 M2 M3 M4, savE ⟨lvM, 9, 0, lvR⟩ = 0 ∧ savS ⟨lvM, 9, 0, lvR⟩ = ⟨M1, 9, 1, lvR⟩ ∧ hwrE ⟨M1, 9, 1, lvR⟩ 0 1 b = 0 ∧ hwrS ⟨M1, 9, 1, lvR⟩ 0 1 b = ⟨M2, 9, 1, lvR⟩ ∧
    hrdE ⟨M2, 9, 1, lvR⟩ 0 1 = 0 ∧ hrdB ⟨M2, 9, 1, lvR⟩ 0 1 = b ∧ hrdS ⟨M2, 9, 1, lvR⟩ 0 1 = ⟨M2, 9, 1, lvR⟩ ∧ hasE M2 1 = 0 ∧ faS6 M2 1 = M3 ∧
    hrdE ⟨M3, 9, 1, lvR⟩ 0 1 = 7 ∧ hrdS ⟨M3, 9, 1, lvR⟩ 0 1 = ⟨M4, 9, 2, lvR1⟩ ∧ Room lvM 600 ∧ Room M1 600 ∧ Room M2 600 ∧ Room M3 600 := by
  have hk0 : HOk 9 0 lvR lvM := hok_new (N := 3) (s := 2) (by omega) (by omega) (by omega) (by omega) (fun _ => false) 0
  have hm : lvR.m.toNat = 3 := by decide
  have hat0 : ∀ j, j < 3 → lvM.ds.getD j bq = ⟨List.replicate 4 au, [], false⟩ := fun j hj => newK_at hj
  have hlog0 : lvM.ds.getD 3 bq = ⟨List.replicate 50 au, [], false⟩ := rfl
  have hp0 : potK (ded lvR lvM) 3 = 0 := potK_zero fun j hj => by unfold ded; rw [hat0 j hj]; simp
  obtain ⟨ev1, R1, M1, e1, k1, l1, l2, _, y1, s1, g1, n1, z1⟩ := save_spec 17 0 lvR lvM hk0 (by rw [hm, hp0]; omega) (by omega)
  rw [hm] at l2 y1 s1 g1 n1 z1
  have hR1 := z1 hp0
  subst hR1
  have he1 : ev1 = 1 := by rw [hp0] at l2; omega
  subst he1
  have hlen1 : M1.ds.length = 4 := y1.len
  have hg1 : ∀ j, j < 3 → (M1.ds.getD j bq).g = false := fun j hj => by rw [y1.gs j, hat0 j hj]
  have hw1 : ∀ j, j < 3 → ∃ S, M1.ds.getD j bq = ⟨S, [], false⟩ ∧ S.length = 4 := fun j hj => by
    obtain ⟨S, e, _⟩ := k1.wel j (by rw [hm]; exact hj) (hg1 j hj)
    have := y1.sl j
    rw [e, hat0 j hj] at this
    exact ⟨S, e, this⟩
  have hlog1 : M1.ds.getD 3 bq = ⟨List.replicate 50 au, [], false⟩ := by rw [y1.hi 3 (by omega)]; exact hlog0
  have hst1 : M1.steps ≤ 102 := s1
  obtain ⟨S, hS, hSl⟩ := hw1 1 (by omega)
  have hwel : Wel M1 1 S := ⟨k1.bX, k1.left, by omega, hS⟩
  obtain ⟨w1, w2⟩ := hwel.wr (n := 2) (by omega) b
  obtain ⟨M2, hM2⟩ : ∃ M2, M1.done.put 1 ⟨S, [(((2 : Nat) : Int), b)], false⟩ = M2 := ⟨_, rfl⟩
  rw [hM2] at w2
  have hat2 : ∀ j, M2.ds.getD j bq = if j = 1 then ⟨S, [(((2 : Nat) : Int), b)], false⟩ else M1.ds.getD j bq := fun j => by
    rw [← hM2]; exact setD _ _ _ _ _ (by show 1 < M1.ds.length; omega)
  have hd2 : M2.bX = false := by rw [← hM2]; exact k1.bX
  have hl2 : M2.left = 0 := by rw [← hM2]; show M1.left - 1 = 0; rw [k1.left]
  have hlen2 : M2.ds.length = 4 := by rw [← hM2]; show (M1.ds.set 1 _).length = 4; rw [List.length_set]; exact hlen1
  have hst2 : M2.steps ≤ 103 := by rw [← hM2]; show M1.steps + 1 ≤ 103; omega
  obtain ⟨r1, r2⟩ := rd_loose (M := M2) (m := 1) (n := 2) (S := S) (b := b) hd2 (by omega) (by rw [hat2 1, if_pos rfl]) (by omega)
  obtain ⟨M3, hM3⟩ : ∃ M3, faS6 M2 1 = M3 := ⟨_, rfl⟩
  have hh2 : hasE M2 1 = 0 := hasE_ok (k := 1) (by omega)
  have hf3 : M3 = M2.put 1 ⟨S, [], true⟩ := by
    rw [← hM3]
    unfold faS6
    rw [if_pos hh2]
    show M2.put 1 ⟨(M2.ds.getD 1 bq).S, [], true⟩ = _
    rw [hat2 1, if_pos rfl]
  have hat3 : ∀ j, M3.ds.getD j bq = if j = 1 then ⟨S, [], true⟩ else M1.ds.getD j bq := fun j => by
    rw [hf3]
    show (M2.ds.set 1 _).getD j bq = _
    rw [setD _ _ _ _ _ (by omega)]
    by_cases e : j = 1
    · rw [if_pos e, if_pos e]
    · rw [if_neg e, if_neg e, hat2 j, if_neg e]
  have hd3 : M3.bX = false := by rw [hf3]; exact hd2
  have hl3 : M3.left = 0 := by rw [hf3]; exact hl2
  have hlen3 : M3.ds.length = 4 := by rw [hf3]; show (M2.ds.set 1 _).length = 4; rw [List.length_set]; exact hlen2
  have hst3 : M3.steps ≤ 103 := by rw [hf3]; exact hst2
  have r3 : bL M3 1 2 = 9 := rd_dead (m := 1) (n := 2) hd3 (by omega) (by rw [hat3 1, if_pos rfl]) (by rw [hat3 1, if_pos rfl]; show 2 < S.length; omega)
  obtain ⟨q1, q2, q3⟩ := lvR_los
  have hm1 : lvR1.m.toNat = 3 := by rw [q1]; exact hm
  have hk3 : HOk 9 1 lvR1 M3 := ⟨hd3, hl3, by omega, q3, ⟨by decide, by decide⟩, fun m h => by
      rw [hat3 m]
      by_cases e : m = 1
      · rw [if_pos e]; show 2 ≤ S.length; omega
      · rw [if_neg e]; obtain ⟨S', e', hl'⟩ := hw1 m (by omega); rw [e']; show 2 ≤ S'.length; omega, fun m h hg => by
      rw [hat3 m] at hg ⊢
      by_cases e : m = 1
      · rw [if_pos e] at hg; cases hg
      · rw [if_neg e] at hg ⊢; exact k1.wel m (by omega) hg⟩
  have hp3 : potK (ded lvR1 M3) 3 = 0 := potK_zero fun j hj => by
    unfold ded
    rw [q2 j, hat3 j]
    by_cases e : j = 1
    · rw [if_pos e]; simp
    · rw [if_neg e, if_neg e, hg1 j hj]; simp
  obtain ⟨ev4, R4, M4, e4, k4, u1, u2, _, y4, s4, g4, n4, z4⟩ := save_spec 17 1 lvR1 M3 hk3 (by rw [hm1, hp3]; omega) (by omega)
  rw [hm1] at u2 y4 s4 g4 n4 z4
  have hR4 := z4 hp3
  subst hR4
  have he4 : ev4 = 2 := by rw [hp3] at u2; omega
  subst he4
  obtain ⟨p1, p2, p3, p4, _⟩ := lvR_has
  have hsv : savE (dedH ⟨M3, 9, 1, lvR⟩ 1) = 0 ∧ savS (dedH ⟨M3, 9, 1, lvR⟩ 1) = ⟨M4, 9, 2, lvR1⟩ := by
    have e : dedH ⟨M3, 9, 1, lvR⟩ 1 = ⟨M3, 9, 1, lvR1⟩ := rfl
    rw [e]
    unfold savE savS
    rw [e4]
    exact ⟨rfl, rfl⟩
  have hs0 : savE ⟨lvM, 9, 0, lvR⟩ = 0 ∧ savS ⟨lvM, 9, 0, lvR⟩ = ⟨M1, 9, 1, lvR⟩ := by
    unfold savE savS
    rw [e1]
    exact ⟨rfl, rfl⟩
  have c2 : ((2 : Int) + 0) = ((2 : Nat) : Int) := rfl
  have hwE : hwrE ⟨M1, 9, 1, lvR⟩ 0 1 b = 0 := by
    unfold hwrE
    rw [if_pos p1, if_neg (by rw [p2]; decide), if_pos p3, if_neg (show ¬ de M1 1 (2 + 0) = 9 from fun e => by rw [show de M1 1 (2 + 0) = 0 from w1] at e; exact absurd e (by decide))]
    exact w1
  have hwS : hwrS ⟨M1, 9, 1, lvR⟩ 0 1 b = ⟨M2, 9, 1, lvR⟩ := by
    unfold hwrS
    rw [if_pos ⟨p1, p2, p3⟩, if_neg (show ¬ de M1 1 (2 + 0) = 9 from fun e => by rw [show de M1 1 (2 + 0) = 0 from w1] at e; exact absurd e (by decide))]
    show HuS.mk (wrS6 M1 1 (2 + 0) b) 9 1 lvR = _
    rw [show wrS6 M1 1 (2 + 0) b = M2 from w2]
  have hrE : hrdE ⟨M2, 9, 1, lvR⟩ 0 1 = 0 := by
    unfold hrdE
    rw [if_pos p1, if_neg (by rw [p2]; decide), if_pos p3, if_neg (show ¬ bL M2 1 (2 + 0) = 9 from fun e => by rw [show bL M2 1 (2 + 0) = 0 from r1] at e; exact absurd e (by decide))]
    exact r1
  refine ⟨M1, M2, M3, M4, hs0.1, hs0.2, hwE, hwS, hrE, ?_, ?_, hh2, hM3, ?_, ?_, ?_, ?_, ?_, ?_⟩
  · unfold hrdB
    rw [if_pos hrE]
    exact r2
  · unfold hrdS
    rw [if_neg (fun e => by have e3 := e.2.2.2; rw [show bL M2 1 (2 + 0) = 0 from r1] at e3; exact absurd e3 (by decide))]
  · unfold hrdE
    rw [if_pos p1, if_neg (by rw [p2]; decide), if_pos p3, if_pos (show bL M3 1 (2 + 0) = 9 from r3)]
    unfold dedE
    rw [show Int.toNat 1 = 1 from rfl, if_pos hsv.1, if_neg (by rw [hsv.2]; show ¬ faiH lvR1 = true; rw [p4]; decide)]
  · unfold hrdS
    rw [if_pos ⟨p1, p2, p3, r3⟩]
    exact hsv.2
  · exact room_of (st := 0) (Nat.le_refl _) (by omega) rfl fun j hj => by
      have hj4 : j < 4 := hj
      rcases (show j < 3 ∨ j = 3 by omega) with h | rfl
      · rw [hat0 j h]; exact Nat.zero_le _
      · rw [hlog0]; exact Nat.zero_le _
  · exact room_of hst1 (by omega) k1.left fun j hj => by
      rcases (show j < 3 ∨ j = 3 by omega) with h | rfl
      · obtain ⟨S', e', _⟩ := hw1 j h; rw [e']; exact Nat.zero_le _
      · rw [hlog1]; exact Nat.zero_le _
  · exact room_of hst2 (by omega) hl2 fun j hj => by
      rw [hat2 j]
      by_cases e : j = 1
      · rw [if_pos e]; exact Nat.le_refl _
      · rw [if_neg e]
        rcases (show j < 3 ∨ j = 3 by omega) with h | rfl
        · obtain ⟨S', e', _⟩ := hw1 j h; rw [e']; exact Nat.zero_le _
        · rw [hlog1]; exact Nat.zero_le _
  · exact room_of hst3 (by omega) hl3 fun j hj => by
      rw [hat3 j]
      by_cases e : j = 1
      · rw [if_pos e]; exact Nat.zero_le _
      · rw [if_neg e]
        rcases (show j < 3 ∨ j = 3 by omega) with h | rfl
        · obtain ⟨S', e', _⟩ := hw1 j h; rw [e']; exact Nat.zero_le _
        · rw [hlog1]; exact Nat.zero_le _
section
variable {ρ : Operand → Value} {o : Oper} {x y : Operand} {w : World} {a : Int}
theorem run_cvU : (convert 3 52 (.int .i64 a)).run Tryz.prog w = .ok (.int .u64 (IntKind.u64.wrap a)) w := by
  simp [convert, go_sem]
theorem exec_cvU (ho : o.op = .convert 3 52 x) (hx : ρ x = .int .i64 a) : (execOp ρ o).run Tryz.prog w = .ok (.value (.int .u64 (IntKind.u64.wrap a))) w := by
  unfold execOp
  simp only [ho, hx, Sem.run_bind, run_cvU, Result.andThen_ok, Sem.run_pure]
theorem exec_cvN (ho : o.op = .convert 3 52 x) (hx : ρ x = .int .i64 a) (h : IntKind.u64.wrap a = a) : (execOp ρ o).run Tryz.prog w = .ok (.value (.int .u64 a)) w := by
  have := exec_cvU (ρ := ρ) (w := w) ho hx
  rwa [h] at this
end
section
variable {ρ : Operand → Value} {o : Oper} {x y : Operand} {w : World} {a : Int}
theorem exec_rem8 {t r : TypeId} {b c : Int} (ho : o.op = .binOp .rem t x y r) (hx : ρ x = .int .u8 a) (hy : ρ y = .int .u8 b) (h0 : b ≠ 0) (h : a.tmod b = c) : (execOp ρ o).run Tryz.prog w = .ok (.value (.int .u8 c)) w := by
  unfold execOp
  simp [ho, hx, hy, eqGuard, binOp, Op.intDiv, h, h0]
theorem run_cv8 (h : IntKind.i64.wrap a = a) : (convert 5 3 (.int .u8 a)).run Tryz.prog w = .ok (.int .i64 a) w := by
  simp [convert, go_sem, h]
theorem exec_cv8 (ho : o.op = .convert 5 3 x) (hx : ρ x = .int .u8 a) (h : IntKind.i64.wrap a = a) : (execOp ρ o).run Tryz.prog w = .ok (.value (.int .i64 a)) w := by
  unfold execOp
  simp only [ho, hx, Sem.run_bind, run_cv8 h, Result.andThen_ok, Sem.run_pure]
end
set_option linter.unusedSimpArgs false
theorem wrap_two {a c n : Nat} (ha : a ≤ 16) (hc : c ≤ 16) (hn : a + c = n) : IntKind.i64.wrap ((a : Int) + (c : Int)) = (n : Int) := by
  rw [IntWalk.i64_in _ (by omega)]
  omega
set_option maxHeartbeats 1000000 in
theorem pstate_0 {x : Ros} (hf : aS x = false) (w : World) : Calls Tryz.prog 75 #[ros x] w fun e w' => e = .returned (.int .i64 0) ∧ Below w.heap.size w w' := by
  have HT1 := Lib.hid (OneR.new w x)
  have HF := Lib.hid hf
  clear hf
  go_enter Tryz.func75, Tryz.ntmps75
  go_upto_region 1 with (first | (refine af rfl (aP rfl rfl) ?_) | fail)
  generalize w.alloc (.cells (aH x).toArray 28) = w1 at *
  refine wp_region_lit ?_
  refine af rfl (aM rfl (ev rfl) (HT1.out.at0)) ?_
  simp only [Act.put, aa, ac, ae]
  refine al rfl (ap Tryz.call35 rfl (evc (ev rfl) evn)) ?_
  refine (cK w1 HF.out).mono ?_
  rintro e w2 ⟨rfl, hb⟩
  have HT2 := Lib.hid (HT1.out.call hb)
  clear hb HT1
  refine ⟨_, rfl, ?_⟩
  simp only [Act.put, aa, ac, ae]
  refine af (v := .bool true) rfl (aE false rfl (ev rfl)) ?_
  simp only [Act.put, aa, ac, ae]
  refine wpList_nil ?_
  go_upto_region 2 with fail
  refine wp_region_lit ?_
  refine af rfl (ak rfl evk) ?_
  simp only [Act.put, aa, ac, ae]
  refine wpList_nil ?_
  go_wp2_with fail
  go_ret
  exact ⟨rfl, HT2.out.bel⟩
set_option maxHeartbeats 1000000 in
theorem pstate_5a {x : Ros} {a c n : Nat} (hf : aS x = true) (ha : many x 1 = a) (hc : many x 2 = c) (hn : IntKind.i64.wrap ((a : Int) + (c : Int)) = (n : Int)) (hg : decide ((2 : Int) ≤ (n : Int)) = true) (w : World) : Calls Tryz.prog 75 #[ros x] w fun e w' => e = .returned (.int .i64 5) ∧ Below w.heap.size w w' := by
  have HT1 := Lib.hid (OneR.new w x)
  have HF := Lib.hid hf
  have HA := Lib.hid ha
  have HC := Lib.hid hc
  have HN := Lib.hid hn
  have HG := Lib.hid hg
  clear hf ha hc hn hg
  go_enter Tryz.func75, Tryz.ntmps75
  go_upto_region 1 with (first | (refine af rfl (aP rfl rfl) ?_) | fail)
  generalize w.alloc (.cells (aH x).toArray 28) = w1 at *
  refine wp_region_lit ?_
  refine af rfl (aM rfl (ev rfl) (HT1.out.at0)) ?_
  simp only [Act.put, aa, ac, ae]
  refine al rfl (ap Tryz.call35 rfl (evc (ev rfl) evn)) ?_
  refine (cK w1 HF.out).mono ?_
  rintro e w2 ⟨rfl, hb⟩
  have HT2 := Lib.hid (HT1.out.call hb)
  clear hb HT1
  refine ⟨_, rfl, ?_⟩
  simp only [Act.put, aa, ac, ae]
  refine af (v := .bool false) rfl (aE true rfl (ev rfl)) ?_
  simp only [Act.put, aa, ac, ae]
  refine wpList_nil ?_
  go_upto_region 3 with fail
  refine aG (B := w2.heap.size) (by kernel_rfl) ?_
  refine ao rfl (fun w' hw => aM rfl (ev rfl) (HT2.out.above hw)) ?_
  simp only [Act.put, aa, ac, ae]
  refine bn rfl (fun _ => ap Tryz.call111 rfl (evc (ev rfl) (evc evk evn))) (bi (Nat.le_refl _) fun w' hw => dC w' HA.out) ?_
  simp only [Act.put, aa, ac, ae]
  refine ao rfl (fun w' hw => aM rfl (ev rfl) (HT2.out.above hw)) ?_
  simp only [Act.put, aa, ac, ae]
  refine bn rfl (fun _ => ap Tryz.call111 rfl (evc (ev rfl) (evc evk evn))) (bi (Nat.le_refl _) fun w' hw => dC w' HC.out) ?_
  simp only [Act.put, aa, ac, ae]
  refine ao rfl (fun w' hw => ak rfl (ev rfl)) ?_
  simp only [Act.put, aa, ac, ae]
  refine ao rfl (fun w' hw => ak rfl (ev rfl)) ?_
  simp only [Act.put, aa, ac, ae]
  refine wpQuiet_nil ?_
  intro w3 hw
  have HT3 := Lib.hid (HT2.out.call hw)
  clear hw HT2
  go_upto_region 4 with fail
  refine wp_region_lit ?_
  refine af rfl (ai rfl (ev rfl)) ?_
  simp only [Act.put, aa, ac, ae]
  refine af rfl (ai rfl (ev rfl)) ?_
  simp only [Act.put, aa, ac, ae]
  refine af rfl (bI rfl (ev rfl) (ev rfl) HN.out) ?_
  simp only [Act.put, aa, ac, ae]
  refine af rfl (ak rfl (ev rfl)) ?_
  simp only [Act.put, aa, ac, ae]
  refine wpList_nil ?_
  go_upto_region 5 with fail
  refine wp_region_lit ?_
  refine af rfl (ai rfl (ev rfl)) ?_
  simp only [Act.put, aa, ac, ae]
  refine af (v := .bool true) rfl (cl true rfl (ev rfl) evk HG.out) ?_
  simp only [Act.put, aa, ac, ae]
  refine af (v := .bool true) rfl (ak rfl (ev rfl)) ?_
  simp only [Act.put, aa, ac, ae]
  refine wpList_nil ?_
  go_upto_region 7 with fail
  refine wp_region_lit ?_
  refine af rfl (ak rfl evk) ?_
  simp only [Act.put, aa, ac, ae]
  refine wpList_nil ?_
  go_wp2_with fail
  go_ret
  exact ⟨rfl, HT3.out.bel⟩
set_option maxHeartbeats 1000000 in
theorem pstate_5b {x : Ros} {a c n : Nat} (hf : aS x = true) (ha : many x 1 = a) (hc : many x 2 = c) (hn : IntKind.i64.wrap ((a : Int) + (c : Int)) = (n : Int)) (hg : decide ((2 : Int) ≤ (n : Int)) = false) (h1 : ((n : Int) == 1) = true) (ho : x.gone = true) (w : World) : Calls Tryz.prog 75 #[ros x] w fun e w' => e = .returned (.int .i64 5) ∧ Below w.heap.size w w' := by
  have HT1 := Lib.hid (OneR.new w x)
  have HF := Lib.hid hf
  have HA := Lib.hid ha
  have HC := Lib.hid hc
  have HN := Lib.hid hn
  have HG := Lib.hid hg
  have H1 := Lib.hid h1
  have HO := Lib.hid ho
  clear hf ha hc hn hg h1 ho
  go_enter Tryz.func75, Tryz.ntmps75
  go_upto_region 1 with (first | (refine af rfl (aP rfl rfl) ?_) | fail)
  generalize w.alloc (.cells (aH x).toArray 28) = w1 at *
  refine wp_region_lit ?_
  refine af rfl (aM rfl (ev rfl) (HT1.out.at0)) ?_
  simp only [Act.put, aa, ac, ae]
  refine al rfl (ap Tryz.call35 rfl (evc (ev rfl) evn)) ?_
  refine (cK w1 HF.out).mono ?_
  rintro e w2 ⟨rfl, hb⟩
  have HT2 := Lib.hid (HT1.out.call hb)
  clear hb HT1
  refine ⟨_, rfl, ?_⟩
  simp only [Act.put, aa, ac, ae]
  refine af (v := .bool false) rfl (aE true rfl (ev rfl)) ?_
  simp only [Act.put, aa, ac, ae]
  refine wpList_nil ?_
  go_upto_region 3 with fail
  refine aG (B := w2.heap.size) (by kernel_rfl) ?_
  refine ao rfl (fun w' hw => aM rfl (ev rfl) (HT2.out.above hw)) ?_
  simp only [Act.put, aa, ac, ae]
  refine bn rfl (fun _ => ap Tryz.call111 rfl (evc (ev rfl) (evc evk evn))) (bi (Nat.le_refl _) fun w' hw => dC w' HA.out) ?_
  simp only [Act.put, aa, ac, ae]
  refine ao rfl (fun w' hw => aM rfl (ev rfl) (HT2.out.above hw)) ?_
  simp only [Act.put, aa, ac, ae]
  refine bn rfl (fun _ => ap Tryz.call111 rfl (evc (ev rfl) (evc evk evn))) (bi (Nat.le_refl _) fun w' hw => dC w' HC.out) ?_
  simp only [Act.put, aa, ac, ae]
  refine ao rfl (fun w' hw => ak rfl (ev rfl)) ?_
  simp only [Act.put, aa, ac, ae]
  refine ao rfl (fun w' hw => ak rfl (ev rfl)) ?_
  simp only [Act.put, aa, ac, ae]
  refine wpQuiet_nil ?_
  intro w3 hw
  have HT3 := Lib.hid (HT2.out.call hw)
  clear hw HT2
  go_upto_region 4 with fail
  refine wp_region_lit ?_
  refine af rfl (ai rfl (ev rfl)) ?_
  simp only [Act.put, aa, ac, ae]
  refine af rfl (ai rfl (ev rfl)) ?_
  simp only [Act.put, aa, ac, ae]
  refine af rfl (bI rfl (ev rfl) (ev rfl) HN.out) ?_
  simp only [Act.put, aa, ac, ae]
  refine af rfl (ak rfl (ev rfl)) ?_
  simp only [Act.put, aa, ac, ae]
  refine wpList_nil ?_
  go_upto_region 5 with fail
  refine wp_region_lit ?_
  refine af rfl (ai rfl (ev rfl)) ?_
  simp only [Act.put, aa, ac, ae]
  refine af (v := .bool false) rfl (cl false rfl (ev rfl) evk HG.out) ?_
  simp only [Act.put, aa, ac, ae]
  refine af (v := .bool false) rfl (ak rfl (ev rfl)) ?_
  simp only [Act.put, aa, ac, ae]
  refine wpList_nil ?_
  go_upto_region 6 with fail
  refine wp_region_lit ?_
  refine af rfl (ai rfl (ev rfl)) ?_
  simp only [Act.put, aa, ac, ae]
  refine af (v := .bool true) rfl (aw true rfl (ev rfl) evk H1.out) ?_
  simp only [Act.put, aa, ac, ae]
  refine af (v := .bool true) rfl (ai rfl (ev rfl)) ?_
  simp only [Act.put, aa, ac, ae]
  refine ag (ah rfl rfl rfl rfl) (aj rfl (ev rfl) faR3) ?_
  simp only [Act.put, aa, ac, ae]
  refine ag (v := .bool true) (ah rfl rfl rfl rfl) (aq rfl (ev rfl) (ldBo (HO.out ▸ HT3.out.at0.cells.2.2.2.2))) ?_
  simp only [Act.put, aa, ac, ae]
  refine af (v := .bool true) rfl (aJ rfl (ev rfl) (ev rfl)) ?_
  simp only [Act.put, aa, ac, ae]
  refine af (v := .bool true) rfl (ak rfl (ev rfl)) ?_
  simp only [Act.put, aa, ac, ae]
  refine wpList_nil ?_
  go_upto_region 7 with fail
  refine wp_region_lit ?_
  refine af rfl (ak rfl evk) ?_
  simp only [Act.put, aa, ac, ae]
  refine wpList_nil ?_
  go_wp2_with fail
  go_ret
  exact ⟨rfl, HT3.out.bel⟩
set_option maxHeartbeats 1000000 in
theorem pstate_4 {x : Ros} {a c n : Nat} (hf : aS x = true) (ha : many x 1 = a) (hc : many x 2 = c) (hn : IntKind.i64.wrap ((a : Int) + (c : Int)) = (n : Int)) (hg : decide ((2 : Int) ≤ (n : Int)) = false) (h1 : ((n : Int) == 1) = false) (ho : x.gone = true) (w : World) : Calls Tryz.prog 75 #[ros x] w fun e w' => e = .returned (.int .i64 4) ∧ Below w.heap.size w w' := by
  have HT1 := Lib.hid (OneR.new w x)
  have HF := Lib.hid hf
  have HA := Lib.hid ha
  have HC := Lib.hid hc
  have HN := Lib.hid hn
  have HG := Lib.hid hg
  have H1 := Lib.hid h1
  have HO := Lib.hid ho
  clear hf ha hc hn hg h1 ho
  go_enter Tryz.func75, Tryz.ntmps75
  go_upto_region 1 with (first | (refine af rfl (aP rfl rfl) ?_) | fail)
  generalize w.alloc (.cells (aH x).toArray 28) = w1 at *
  refine wp_region_lit ?_
  refine af rfl (aM rfl (ev rfl) (HT1.out.at0)) ?_
  simp only [Act.put, aa, ac, ae]
  refine al rfl (ap Tryz.call35 rfl (evc (ev rfl) evn)) ?_
  refine (cK w1 HF.out).mono ?_
  rintro e w2 ⟨rfl, hb⟩
  have HT2 := Lib.hid (HT1.out.call hb)
  clear hb HT1
  refine ⟨_, rfl, ?_⟩
  simp only [Act.put, aa, ac, ae]
  refine af (v := .bool false) rfl (aE true rfl (ev rfl)) ?_
  simp only [Act.put, aa, ac, ae]
  refine wpList_nil ?_
  go_upto_region 3 with fail
  refine aG (B := w2.heap.size) (by kernel_rfl) ?_
  refine ao rfl (fun w' hw => aM rfl (ev rfl) (HT2.out.above hw)) ?_
  simp only [Act.put, aa, ac, ae]
  refine bn rfl (fun _ => ap Tryz.call111 rfl (evc (ev rfl) (evc evk evn))) (bi (Nat.le_refl _) fun w' hw => dC w' HA.out) ?_
  simp only [Act.put, aa, ac, ae]
  refine ao rfl (fun w' hw => aM rfl (ev rfl) (HT2.out.above hw)) ?_
  simp only [Act.put, aa, ac, ae]
  refine bn rfl (fun _ => ap Tryz.call111 rfl (evc (ev rfl) (evc evk evn))) (bi (Nat.le_refl _) fun w' hw => dC w' HC.out) ?_
  simp only [Act.put, aa, ac, ae]
  refine ao rfl (fun w' hw => ak rfl (ev rfl)) ?_
  simp only [Act.put, aa, ac, ae]
  refine ao rfl (fun w' hw => ak rfl (ev rfl)) ?_
  simp only [Act.put, aa, ac, ae]
  refine wpQuiet_nil ?_
  intro w3 hw
  have HT3 := Lib.hid (HT2.out.call hw)
  clear hw HT2
  go_upto_region 4 with fail
  refine wp_region_lit ?_
  refine af rfl (ai rfl (ev rfl)) ?_
  simp only [Act.put, aa, ac, ae]
  refine af rfl (ai rfl (ev rfl)) ?_
  simp only [Act.put, aa, ac, ae]
  refine af rfl (bI rfl (ev rfl) (ev rfl) HN.out) ?_
  simp only [Act.put, aa, ac, ae]
  refine af rfl (ak rfl (ev rfl)) ?_
  simp only [Act.put, aa, ac, ae]
  refine wpList_nil ?_
  go_upto_region 5 with fail
  refine wp_region_lit ?_
  refine af rfl (ai rfl (ev rfl)) ?_
  simp only [Act.put, aa, ac, ae]
  refine af (v := .bool false) rfl (cl false rfl (ev rfl) evk HG.out) ?_
  simp only [Act.put, aa, ac, ae]
  refine af (v := .bool false) rfl (ak rfl (ev rfl)) ?_
  simp only [Act.put, aa, ac, ae]
  refine wpList_nil ?_
  go_upto_region 6 with fail
  refine wp_region_lit ?_
  refine af rfl (ai rfl (ev rfl)) ?_
  simp only [Act.put, aa, ac, ae]
  refine af (v := .bool false) rfl (aw false rfl (ev rfl) evk H1.out) ?_
  simp only [Act.put, aa, ac, ae]
  refine aF 2 (v := .bool false) rfl (ai rfl (ev rfl)) (by kernel_rfl) ?_
  simp only [aY, List.take_succ_cons, List.take_zero, List.drop_succ_cons, List.drop_zero, Act.put, List.setIfInBounds_toArray, List.set_cons_succ, List.set_cons_zero]
  refine af (v := .bool false) rfl (aB rfl (ev rfl) evk) ?_
  simp only [Act.put, aa, ac, ae]
  refine af (v := .bool false) rfl (ak rfl (ev rfl)) ?_
  simp only [Act.put, aa, ac, ae]
  refine wpList_nil ?_
  go_upto_region 8 with fail
  refine wp_region_lit ?_
  refine af rfl (aj rfl (ev rfl) faR3) ?_
  simp only [Act.put, aa, ac, ae]
  refine af (v := .bool true) rfl (aq rfl (ev rfl) (ldBo (HO.out ▸ HT3.out.at0.cells.2.2.2.2))) ?_
  simp only [Act.put, aa, ac, ae]
  refine af (v := .bool true) rfl (ak rfl (ev rfl)) ?_
  simp only [Act.put, aa, ac, ae]
  refine wpList_nil ?_
  go_upto_region 9 with fail
  refine wp_region_lit ?_
  refine af rfl (ak rfl evk) ?_
  simp only [Act.put, aa, ac, ae]
  refine wpList_nil ?_
  go_wp2_with fail
  go_ret
  exact ⟨rfl, HT3.out.bel⟩
set_option maxHeartbeats 1000000 in
theorem pstate_3t {x : Ros} {a c n : Nat} (hf : aS x = true) (ha : many x 1 = a) (hc : many x 2 = c) (hn : IntKind.i64.wrap ((a : Int) + (c : Int)) = (n : Int)) (hg : decide ((2 : Int) ≤ (n : Int)) = false) (h1 : ((n : Int) == 1) = true) (ho : x.gone = false) (h2 : ((c : Int) == 1) = true) (w : World) : Calls Tryz.prog 75 #[ros x] w fun e w' => e = .returned (.int .i64 3) ∧ Below w.heap.size w w' := by
  have HT1 := Lib.hid (OneR.new w x)
  have HF := Lib.hid hf
  have HA := Lib.hid ha
  have HC := Lib.hid hc
  have HN := Lib.hid hn
  have HG := Lib.hid hg
  have H1 := Lib.hid h1
  have HO := Lib.hid ho
  have H2 := Lib.hid h2
  clear hf ha hc hn hg h1 ho h2
  go_enter Tryz.func75, Tryz.ntmps75
  go_upto_region 1 with (first | (refine af rfl (aP rfl rfl) ?_) | fail)
  generalize w.alloc (.cells (aH x).toArray 28) = w1 at *
  refine wp_region_lit ?_
  refine af rfl (aM rfl (ev rfl) (HT1.out.at0)) ?_
  simp only [Act.put, aa, ac, ae]
  refine al rfl (ap Tryz.call35 rfl (evc (ev rfl) evn)) ?_
  refine (cK w1 HF.out).mono ?_
  rintro e w2 ⟨rfl, hb⟩
  have HT2 := Lib.hid (HT1.out.call hb)
  clear hb HT1
  refine ⟨_, rfl, ?_⟩
  simp only [Act.put, aa, ac, ae]
  refine af (v := .bool false) rfl (aE true rfl (ev rfl)) ?_
  simp only [Act.put, aa, ac, ae]
  refine wpList_nil ?_
  go_upto_region 3 with fail
  refine aG (B := w2.heap.size) (by kernel_rfl) ?_
  refine ao rfl (fun w' hw => aM rfl (ev rfl) (HT2.out.above hw)) ?_
  simp only [Act.put, aa, ac, ae]
  refine bn rfl (fun _ => ap Tryz.call111 rfl (evc (ev rfl) (evc evk evn))) (bi (Nat.le_refl _) fun w' hw => dC w' HA.out) ?_
  simp only [Act.put, aa, ac, ae]
  refine ao rfl (fun w' hw => aM rfl (ev rfl) (HT2.out.above hw)) ?_
  simp only [Act.put, aa, ac, ae]
  refine bn rfl (fun _ => ap Tryz.call111 rfl (evc (ev rfl) (evc evk evn))) (bi (Nat.le_refl _) fun w' hw => dC w' HC.out) ?_
  simp only [Act.put, aa, ac, ae]
  refine ao rfl (fun w' hw => ak rfl (ev rfl)) ?_
  simp only [Act.put, aa, ac, ae]
  refine ao rfl (fun w' hw => ak rfl (ev rfl)) ?_
  simp only [Act.put, aa, ac, ae]
  refine wpQuiet_nil ?_
  intro w3 hw
  have HT3 := Lib.hid (HT2.out.call hw)
  clear hw HT2
  go_upto_region 4 with fail
  refine wp_region_lit ?_
  refine af rfl (ai rfl (ev rfl)) ?_
  simp only [Act.put, aa, ac, ae]
  refine af rfl (ai rfl (ev rfl)) ?_
  simp only [Act.put, aa, ac, ae]
  refine af rfl (bI rfl (ev rfl) (ev rfl) HN.out) ?_
  simp only [Act.put, aa, ac, ae]
  refine af rfl (ak rfl (ev rfl)) ?_
  simp only [Act.put, aa, ac, ae]
  refine wpList_nil ?_
  go_upto_region 5 with fail
  refine wp_region_lit ?_
  refine af rfl (ai rfl (ev rfl)) ?_
  simp only [Act.put, aa, ac, ae]
  refine af (v := .bool false) rfl (cl false rfl (ev rfl) evk HG.out) ?_
  simp only [Act.put, aa, ac, ae]
  refine af (v := .bool false) rfl (ak rfl (ev rfl)) ?_
  simp only [Act.put, aa, ac, ae]
  refine wpList_nil ?_
  go_upto_region 6 with fail
  refine wp_region_lit ?_
  refine af rfl (ai rfl (ev rfl)) ?_
  simp only [Act.put, aa, ac, ae]
  refine af (v := .bool true) rfl (aw true rfl (ev rfl) evk H1.out) ?_
  simp only [Act.put, aa, ac, ae]
  refine af (v := .bool true) rfl (ai rfl (ev rfl)) ?_
  simp only [Act.put, aa, ac, ae]
  refine ag (ah rfl rfl rfl rfl) (aj rfl (ev rfl) faR3) ?_
  simp only [Act.put, aa, ac, ae]
  refine ag (v := .bool false) (ah rfl rfl rfl rfl) (aq rfl (ev rfl) (ldBo (HO.out ▸ HT3.out.at0.cells.2.2.2.2))) ?_
  simp only [Act.put, aa, ac, ae]
  refine af (v := .bool false) rfl (aJ rfl (ev rfl) (ev rfl)) ?_
  simp only [Act.put, aa, ac, ae]
  refine af (v := .bool false) rfl (ak rfl (ev rfl)) ?_
  simp only [Act.put, aa, ac, ae]
  refine wpList_nil ?_
  go_upto_region 8 with fail
  refine wp_region_lit ?_
  refine af rfl (aj rfl (ev rfl) faR3) ?_
  simp only [Act.put, aa, ac, ae]
  refine af (v := .bool false) rfl (aq rfl (ev rfl) (ldBo (HO.out ▸ HT3.out.at0.cells.2.2.2.2))) ?_
  simp only [Act.put, aa, ac, ae]
  refine af (v := .bool false) rfl (ak rfl (ev rfl)) ?_
  simp only [Act.put, aa, ac, ae]
  refine wpList_nil ?_
  go_upto_region 10 with fail
  refine wp_region_lit ?_
  refine af rfl (ai rfl (ev rfl)) ?_
  simp only [Act.put, aa, ac, ae]
  refine af (v := .bool true) rfl (aw true rfl (ev rfl) evk H2.out) ?_
  simp only [Act.put, aa, ac, ae]
  refine af (v := .bool true) rfl (ak rfl (ev rfl)) ?_
  simp only [Act.put, aa, ac, ae]
  refine wpList_nil ?_
  go_upto_region 11 with fail
  refine wp_region_lit ?_
  refine af rfl (ak rfl evk) ?_
  simp only [Act.put, aa, ac, ae]
  refine wpList_nil ?_
  go_wp2_with fail
  go_ret
  exact ⟨rfl, HT3.out.bel⟩
set_option maxHeartbeats 1000000 in
theorem pstate_2t {x : Ros} {a c n : Nat} (hf : aS x = true) (ha : many x 1 = a) (hc : many x 2 = c) (hn : IntKind.i64.wrap ((a : Int) + (c : Int)) = (n : Int)) (hg : decide ((2 : Int) ≤ (n : Int)) = false) (h1 : ((n : Int) == 1) = true) (ho : x.gone = false) (h2 : ((c : Int) == 1) = false) (h3 : ((a : Int) == 1) = true) (w : World) : Calls Tryz.prog 75 #[ros x] w fun e w' => e = .returned (.int .i64 2) ∧ Below w.heap.size w w' := by
  have HT1 := Lib.hid (OneR.new w x)
  have HF := Lib.hid hf
  have HA := Lib.hid ha
  have HC := Lib.hid hc
  have HN := Lib.hid hn
  have HG := Lib.hid hg
  have H1 := Lib.hid h1
  have HO := Lib.hid ho
  have H2 := Lib.hid h2
  have H3 := Lib.hid h3
  clear hf ha hc hn hg h1 ho h2 h3
  go_enter Tryz.func75, Tryz.ntmps75
  go_upto_region 1 with (first | (refine af rfl (aP rfl rfl) ?_) | fail)
  generalize w.alloc (.cells (aH x).toArray 28) = w1 at *
  refine wp_region_lit ?_
  refine af rfl (aM rfl (ev rfl) (HT1.out.at0)) ?_
  simp only [Act.put, aa, ac, ae]
  refine al rfl (ap Tryz.call35 rfl (evc (ev rfl) evn)) ?_
  refine (cK w1 HF.out).mono ?_
  rintro e w2 ⟨rfl, hb⟩
  have HT2 := Lib.hid (HT1.out.call hb)
  clear hb HT1
  refine ⟨_, rfl, ?_⟩
  simp only [Act.put, aa, ac, ae]
  refine af (v := .bool false) rfl (aE true rfl (ev rfl)) ?_
  simp only [Act.put, aa, ac, ae]
  refine wpList_nil ?_
  go_upto_region 3 with fail
  refine aG (B := w2.heap.size) (by kernel_rfl) ?_
  refine ao rfl (fun w' hw => aM rfl (ev rfl) (HT2.out.above hw)) ?_
  simp only [Act.put, aa, ac, ae]
  refine bn rfl (fun _ => ap Tryz.call111 rfl (evc (ev rfl) (evc evk evn))) (bi (Nat.le_refl _) fun w' hw => dC w' HA.out) ?_
  simp only [Act.put, aa, ac, ae]
  refine ao rfl (fun w' hw => aM rfl (ev rfl) (HT2.out.above hw)) ?_
  simp only [Act.put, aa, ac, ae]
  refine bn rfl (fun _ => ap Tryz.call111 rfl (evc (ev rfl) (evc evk evn))) (bi (Nat.le_refl _) fun w' hw => dC w' HC.out) ?_
  simp only [Act.put, aa, ac, ae]
  refine ao rfl (fun w' hw => ak rfl (ev rfl)) ?_
  simp only [Act.put, aa, ac, ae]
  refine ao rfl (fun w' hw => ak rfl (ev rfl)) ?_
  simp only [Act.put, aa, ac, ae]
  refine wpQuiet_nil ?_
  intro w3 hw
  have HT3 := Lib.hid (HT2.out.call hw)
  clear hw HT2
  go_upto_region 4 with fail
  refine wp_region_lit ?_
  refine af rfl (ai rfl (ev rfl)) ?_
  simp only [Act.put, aa, ac, ae]
  refine af rfl (ai rfl (ev rfl)) ?_
  simp only [Act.put, aa, ac, ae]
  refine af rfl (bI rfl (ev rfl) (ev rfl) HN.out) ?_
  simp only [Act.put, aa, ac, ae]
  refine af rfl (ak rfl (ev rfl)) ?_
  simp only [Act.put, aa, ac, ae]
  refine wpList_nil ?_
  go_upto_region 5 with fail
  refine wp_region_lit ?_
  refine af rfl (ai rfl (ev rfl)) ?_
  simp only [Act.put, aa, ac, ae]
  refine af (v := .bool false) rfl (cl false rfl (ev rfl) evk HG.out) ?_
  simp only [Act.put, aa, ac, ae]
  refine af (v := .bool false) rfl (ak rfl (ev rfl)) ?_
  simp only [Act.put, aa, ac, ae]
  refine wpList_nil ?_
  go_upto_region 6 with fail
  refine wp_region_lit ?_
  refine af rfl (ai rfl (ev rfl)) ?_
  simp only [Act.put, aa, ac, ae]
  refine af (v := .bool true) rfl (aw true rfl (ev rfl) evk H1.out) ?_
  simp only [Act.put, aa, ac, ae]
  refine af (v := .bool true) rfl (ai rfl (ev rfl)) ?_
  simp only [Act.put, aa, ac, ae]
  refine ag (ah rfl rfl rfl rfl) (aj rfl (ev rfl) faR3) ?_
  simp only [Act.put, aa, ac, ae]
  refine ag (v := .bool false) (ah rfl rfl rfl rfl) (aq rfl (ev rfl) (ldBo (HO.out ▸ HT3.out.at0.cells.2.2.2.2))) ?_
  simp only [Act.put, aa, ac, ae]
  refine af (v := .bool false) rfl (aJ rfl (ev rfl) (ev rfl)) ?_
  simp only [Act.put, aa, ac, ae]
  refine af (v := .bool false) rfl (ak rfl (ev rfl)) ?_
  simp only [Act.put, aa, ac, ae]
  refine wpList_nil ?_
  go_upto_region 8 with fail
  refine wp_region_lit ?_
  refine af rfl (aj rfl (ev rfl) faR3) ?_
  simp only [Act.put, aa, ac, ae]
  refine af (v := .bool false) rfl (aq rfl (ev rfl) (ldBo (HO.out ▸ HT3.out.at0.cells.2.2.2.2))) ?_
  simp only [Act.put, aa, ac, ae]
  refine af (v := .bool false) rfl (ak rfl (ev rfl)) ?_
  simp only [Act.put, aa, ac, ae]
  refine wpList_nil ?_
  go_upto_region 10 with fail
  refine wp_region_lit ?_
  refine af rfl (ai rfl (ev rfl)) ?_
  simp only [Act.put, aa, ac, ae]
  refine af (v := .bool false) rfl (aw false rfl (ev rfl) evk H2.out) ?_
  simp only [Act.put, aa, ac, ae]
  refine af (v := .bool false) rfl (ak rfl (ev rfl)) ?_
  simp only [Act.put, aa, ac, ae]
  refine wpList_nil ?_
  go_upto_region 12 with fail
  refine wp_region_lit ?_
  refine af rfl (ai rfl (ev rfl)) ?_
  simp only [Act.put, aa, ac, ae]
  refine af (v := .bool true) rfl (aw true rfl (ev rfl) evk H3.out) ?_
  simp only [Act.put, aa, ac, ae]
  refine af (v := .bool true) rfl (ak rfl (ev rfl)) ?_
  simp only [Act.put, aa, ac, ae]
  refine wpList_nil ?_
  go_upto_region 13 with fail
  refine wp_region_lit ?_
  refine af rfl (ak rfl evk) ?_
  simp only [Act.put, aa, ac, ae]
  refine wpList_nil ?_
  go_wp2_with fail
  go_ret
  exact ⟨rfl, HT3.out.bel⟩
set_option maxHeartbeats 1000000 in
theorem pstate_1f {x : Ros} {a c n : Nat} (hf : aS x = true) (ha : many x 1 = a) (hc : many x 2 = c) (hn : IntKind.i64.wrap ((a : Int) + (c : Int)) = (n : Int)) (hg : decide ((2 : Int) ≤ (n : Int)) = false) (h1 : ((n : Int) == 1) = false) (ho : x.gone = false) (h2 : ((c : Int) == 1) = false) (h3 : ((a : Int) == 1) = false) (w : World) : Calls Tryz.prog 75 #[ros x] w fun e w' => e = .returned (.int .i64 1) ∧ Below w.heap.size w w' := by
  have HT1 := Lib.hid (OneR.new w x)
  have HF := Lib.hid hf
  have HA := Lib.hid ha
  have HC := Lib.hid hc
  have HN := Lib.hid hn
  have HG := Lib.hid hg
  have H1 := Lib.hid h1
  have HO := Lib.hid ho
  have H2 := Lib.hid h2
  have H3 := Lib.hid h3
  clear hf ha hc hn hg h1 ho h2 h3
  go_enter Tryz.func75, Tryz.ntmps75
  go_upto_region 1 with (first | (refine af rfl (aP rfl rfl) ?_) | fail)
  generalize w.alloc (.cells (aH x).toArray 28) = w1 at *
  refine wp_region_lit ?_
  refine af rfl (aM rfl (ev rfl) (HT1.out.at0)) ?_
  simp only [Act.put, aa, ac, ae]
  refine al rfl (ap Tryz.call35 rfl (evc (ev rfl) evn)) ?_
  refine (cK w1 HF.out).mono ?_
  rintro e w2 ⟨rfl, hb⟩
  have HT2 := Lib.hid (HT1.out.call hb)
  clear hb HT1
  refine ⟨_, rfl, ?_⟩
  simp only [Act.put, aa, ac, ae]
  refine af (v := .bool false) rfl (aE true rfl (ev rfl)) ?_
  simp only [Act.put, aa, ac, ae]
  refine wpList_nil ?_
  go_upto_region 3 with fail
  refine aG (B := w2.heap.size) (by kernel_rfl) ?_
  refine ao rfl (fun w' hw => aM rfl (ev rfl) (HT2.out.above hw)) ?_
  simp only [Act.put, aa, ac, ae]
  refine bn rfl (fun _ => ap Tryz.call111 rfl (evc (ev rfl) (evc evk evn))) (bi (Nat.le_refl _) fun w' hw => dC w' HA.out) ?_
  simp only [Act.put, aa, ac, ae]
  refine ao rfl (fun w' hw => aM rfl (ev rfl) (HT2.out.above hw)) ?_
  simp only [Act.put, aa, ac, ae]
  refine bn rfl (fun _ => ap Tryz.call111 rfl (evc (ev rfl) (evc evk evn))) (bi (Nat.le_refl _) fun w' hw => dC w' HC.out) ?_
  simp only [Act.put, aa, ac, ae]
  refine ao rfl (fun w' hw => ak rfl (ev rfl)) ?_
  simp only [Act.put, aa, ac, ae]
  refine ao rfl (fun w' hw => ak rfl (ev rfl)) ?_
  simp only [Act.put, aa, ac, ae]
  refine wpQuiet_nil ?_
  intro w3 hw
  have HT3 := Lib.hid (HT2.out.call hw)
  clear hw HT2
  go_upto_region 4 with fail
  refine wp_region_lit ?_
  refine af rfl (ai rfl (ev rfl)) ?_
  simp only [Act.put, aa, ac, ae]
  refine af rfl (ai rfl (ev rfl)) ?_
  simp only [Act.put, aa, ac, ae]
  refine af rfl (bI rfl (ev rfl) (ev rfl) HN.out) ?_
  simp only [Act.put, aa, ac, ae]
  refine af rfl (ak rfl (ev rfl)) ?_
  simp only [Act.put, aa, ac, ae]
  refine wpList_nil ?_
  go_upto_region 5 with fail
  refine wp_region_lit ?_
  refine af rfl (ai rfl (ev rfl)) ?_
  simp only [Act.put, aa, ac, ae]
  refine af (v := .bool false) rfl (cl false rfl (ev rfl) evk HG.out) ?_
  simp only [Act.put, aa, ac, ae]
  refine af (v := .bool false) rfl (ak rfl (ev rfl)) ?_
  simp only [Act.put, aa, ac, ae]
  refine wpList_nil ?_
  go_upto_region 6 with fail
  refine wp_region_lit ?_
  refine af rfl (ai rfl (ev rfl)) ?_
  simp only [Act.put, aa, ac, ae]
  refine af (v := .bool false) rfl (aw false rfl (ev rfl) evk H1.out) ?_
  simp only [Act.put, aa, ac, ae]
  refine aF 2 (v := .bool false) rfl (ai rfl (ev rfl)) (by kernel_rfl) ?_
  simp only [aY, List.take_succ_cons, List.take_zero, List.drop_succ_cons, List.drop_zero, Act.put, List.setIfInBounds_toArray, List.set_cons_succ, List.set_cons_zero]
  refine af (v := .bool false) rfl (aB rfl (ev rfl) evk) ?_
  simp only [Act.put, aa, ac, ae]
  refine af (v := .bool false) rfl (ak rfl (ev rfl)) ?_
  simp only [Act.put, aa, ac, ae]
  refine wpList_nil ?_
  go_upto_region 8 with fail
  refine wp_region_lit ?_
  refine af rfl (aj rfl (ev rfl) faR3) ?_
  simp only [Act.put, aa, ac, ae]
  refine af (v := .bool false) rfl (aq rfl (ev rfl) (ldBo (HO.out ▸ HT3.out.at0.cells.2.2.2.2))) ?_
  simp only [Act.put, aa, ac, ae]
  refine af (v := .bool false) rfl (ak rfl (ev rfl)) ?_
  simp only [Act.put, aa, ac, ae]
  refine wpList_nil ?_
  go_upto_region 10 with fail
  refine wp_region_lit ?_
  refine af rfl (ai rfl (ev rfl)) ?_
  simp only [Act.put, aa, ac, ae]
  refine af (v := .bool false) rfl (aw false rfl (ev rfl) evk H2.out) ?_
  simp only [Act.put, aa, ac, ae]
  refine af (v := .bool false) rfl (ak rfl (ev rfl)) ?_
  simp only [Act.put, aa, ac, ae]
  refine wpList_nil ?_
  go_upto_region 12 with fail
  refine wp_region_lit ?_
  refine af rfl (ai rfl (ev rfl)) ?_
  simp only [Act.put, aa, ac, ae]
  refine af (v := .bool false) rfl (aw false rfl (ev rfl) evk H3.out) ?_
  simp only [Act.put, aa, ac, ae]
  refine af (v := .bool false) rfl (ak rfl (ev rfl)) ?_
  simp only [Act.put, aa, ac, ae]
  refine wpList_nil ?_
  go_upto_region 14 with fail
  refine wp_region_lit ?_
  refine af rfl (ak rfl evk) ?_
  simp only [Act.put, aa, ac, ae]
  refine wpList_nil ?_
  go_wp2_with fail
  go_ret
  exact ⟨rfl, HT3.out.bel⟩
theorem stN_fine {x : Ros} (hf : aS x = true) : stN x = if 2 ≤ outs x ∨ (outs x = 1 ∧ x.gone = true) then 5 else if x.gone = true then 4 else if cF x = 1 then 3 else if outs x = 1 then 2 else 1 := by unfold stN; rw [if_pos hf]
theorem pstate (x : Ros) (w : World) : Calls Tryz.prog 75 #[ros x] w fun e w' => e = .returned (.int .i64 (stN x : Nat)) ∧ Below w.heap.size w w' := by
  cases hf : aS x
  · rw [show stN x = 0 from by unfold stN; rw [hf]; rfl]; exact pstate_0 hf w
  have hn := wrap_two (many_le x 1) (many_le x 2) (outs_many (cT hf).2.1).symm
  have ho := outs_many (cT hf).2.1
  have hh := eN x
  have hm := many_le x 1
  have hm2 := many_le x 2
  rw [stN_fine hf]
  by_cases c1 : 2 ≤ outs x
  · rw [if_pos (.inl c1)]; exact pstate_5a hf rfl rfl hn (decide_eq_true (by omega)) w
  have hg : decide ((2 : Int) ≤ (outs x : Int)) = false := decide_eq_false (by omega)
  cases hgo : x.gone
  · rw [if_neg (by rintro (h | ⟨_, h⟩); exact c1 h; cases h), if_neg (by decide), hh]
    by_cases n1 : outs x = 1
    · have e1 : ((outs x : Int) == 1) = true := by rw [n1]; rfl
      by_cases k1 : many x 2 = 1
      · rw [if_pos k1]; exact pstate_3t hf rfl rfl hn hg e1 hgo (by rw [k1]; rfl) w
      · rw [if_neg k1, if_pos n1]; exact pstate_2t hf rfl rfl hn hg e1 hgo (by simp; omega) (by simp; omega) w
    · have e1 : ((outs x : Int) == 1) = false := by simp; omega
      rw [if_neg (by omega), if_neg n1]; exact pstate_1f hf rfl rfl hn hg e1 hgo (by simp; omega) (by simp; omega) w
  · by_cases n1 : outs x = 1
    · rw [if_pos (.inr ⟨n1, rfl⟩)]; exact pstate_5b hf rfl rfl hn hg (by rw [n1]; rfl) hgo w
    · rw [if_neg (by omega), if_pos rfl]; exact pstate_4 hf rfl rfl hn hg (by simp; omega) hgo w
theorem pstate_n {x : Ros} {n : Nat} (w : World) (h : stN x = n) : Calls Tryz.prog 75 #[ros x] w fun e w' => e = .returned (.int .i64 (n : Nat)) ∧ Below w.heap.size w w' := by subst h; exact pstate x w
end Go.Proofs.YtnliphgjcaippaaGreatDoor
