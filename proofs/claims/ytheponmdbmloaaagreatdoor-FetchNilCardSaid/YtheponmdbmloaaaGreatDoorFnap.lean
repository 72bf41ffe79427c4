import Derived.Test.YtheponmdbmloaaaGreatDoorFnao
import Derived.Test.YtheponmdbmloaaaGreatDoorFnam
import Derived.Test.YtheponmdbmloaaaGreatDoorFnal
import Derived.Test.YtheponmdbmloaaaGreatDoorFnab
import Derived.Deep.DeepCutAuto
import Derived.Test.YtheponmdbmloaaaGreatDoorFnan
import Derived.OrdersHeld
import Derived.Test.YtheponmdbmloaaaGreatDoorFnaa
import Derived.Test.YtheponmdbmloaaaGreatDoorFnZ
namespace Go.Proofs.YtheponmdbmloaaaGreatDoor
open Go.RowKit
set_option linter.unusedVariables false
set_option maxRecDepth 100000
def FJ (C : HulI) (w0 : World) (H K : Nat → Prop) (w : World) (q p : Nat) (h : HuS) : Prop :=
  ∃ G, C.J w G q p h ∧ Only H w0 w ∧ Grow w0 H G ∧ (∀ b, K b → ¬ G b ∧ b < w.heap.size) ∧ CrG w0 H
section
variable {C : HulI} {w0 w w' : World} {H K K' : Nat → Prop} {q p : Nat} {h h' : HuS}
theorem FJ.start {G : Nat → Prop} (j : C.J w G q p h) (hc : CrG w G) : FJ C w G (fun _ => False) w q p h := ⟨G, j, Only.refl _ _, Grow.same _ _, fun _ e => e.elim, hc⟩
theorem FJ.size (j : FJ C w0 H K w q p h) : w0.heap.size ≤ w.heap.size := by obtain ⟨_, _, h2, _⟩ := j; exact h2.size
theorem FJ.lt (j : FJ C w0 H K w q p h) {b : Nat} (hb : K b) : b < w.heap.size := by obtain ⟨_, _, _, _, h4, _⟩ := j; exact (h4 b hb).2
theorem FJ.crg_ {G : Nat → Prop} (h2 : Only H w0 w) (h3 : Grow w0 H G) (hT : CrG w0 H) : CrG w G := by
  refine ⟨fun i hi => (h2.cell (p := ⟨0, i, none⟩) (dL (hT.t i hi)) hT.off).trans (hT.t i hi), fun e => ?_⟩
  rcases h3 _ e with e | e
  · exact hT.off e
  · have := dL (hT.t 0 (by omega))
    exact absurd e (Nat.not_le_of_lt this)
theorem FJ.guard (j : FJ C w0 H K w q p h) (hb : Below w.heap.size w w') (hK : ∀ b, K' b → K b ∨ (w.heap.size ≤ b ∧ b < w'.heap.size)) : FJ C w0 H K' w' q p h := by
  obtain ⟨G, h1, h2, h3, h4, h5⟩ := j
  have hlt := C.lt h1
  have hs := hb.size
  refine ⟨G, C.below h1 hb, h2.then_below hb, h3, fun b e => ?_, h5⟩
  rcases hK b e with e | ⟨e1, e2⟩
  · obtain ⟨g1, g2⟩ := h4 b e
    exact ⟨g1, by omega⟩
  · exact ⟨fun hg => by have := hlt b hg; omega, e2⟩
theorem FJ.below (j : FJ C w0 H K w q p h) (hb : Below w.heap.size w w') : FJ C w0 H K w' q p h := j.guard hb fun b e => .inl e
theorem FJ.less (j : FJ C w0 H K w q p h) (hK : ∀ b, K' b → K b) : FJ C w0 H K' w q p h := j.guard (Below.refl _ _) fun b e => .inl (hK b e)
theorem FJ.kept (j : FJ C w0 H K w q p h) (hb : Below w.heap.size w w') : bk K w w' := fun b e => hb.block b (j.lt e)
theorem FJ.turn {G G' : Nat → Prop} (h1 : C.J w G q p h) (h2 : Only H w0 w) (h3 : Grow w0 H G) (h4 : ∀ b, K b → ¬ G b ∧ b < w.heap.size) (h5 : CrG w0 H) (k1 : C.J w' G' q p h') (k2 : Only G w w') (k3 : Grow w G G') : FJ C w0 H K w' q p h' ∧ bk K w w' ∧ w.heap.size ≤ w'.heap.size := by
  have hs := k2.size
  have hs0 := h2.size
  refine ⟨⟨G', k1, h2.trans k2 fun b e => h3 b e, fun b e => ?_, fun b e => ?_, h5⟩, fun b e => k2.block b (h4 b e).2 (h4 b e).1, hs⟩
  · rcases k3 b e with e | e
    · exact h3 b e
    · exact .inr (by omega)
  · obtain ⟨g1, g2⟩ := h4 b e
    refine ⟨fun hg => ?_, by omega⟩
    rcases k3 b hg with e | e
    · exact g1 e
    · omega
theorem FJ.read (s m : Int) (j : FJ C w0 H K w q p h) (hr : HRm h) (hk : hrdK h s m) : Calls Tryz.prog 24 #[.pointer (some ⟨p, 0, none⟩), .agg #[.int .i64 s, .int .i64 m]] w fun e w' => e = .returned (.tuple #[blk (hrdB h s m), .int .i64 (bZ h s m)]) ∧ FJ C w0 H K w' q p (hrdS h s m) ∧ bk K w w' ∧ w.heap.size ≤ w'.heap.size := by
  obtain ⟨G, h1, h2, h3, h4, h5⟩ := j
  exact (C.read s m h1 (FJ.crg_ h2 h3 h5) hr.1 hr.2).mono fun e w' ⟨k0, G', k1, k2, k3, _⟩ => ⟨k0, FJ.turn h1 h2 h3 h4 h5 (k1 hk) k2 k3⟩
theorem FJ.id_ (j : FJ C w0 H K w q p h) : Calls Tryz.prog 51 #[.pointer (some ⟨p, 0, none⟩)] w fun e w' => e = .returned (.int .u64 (h.id : Int)) ∧ Below w.heap.size w w' := by obtain ⟨G, h1, _⟩ := j; exact C.id_ h1
theorem FJ.is (j : FJ C w0 H K w q p h) : aG h.R = true ∧ h.id ≠ 0 := by obtain ⟨G, h1, _⟩ := j; exact C.fin h1
theorem FJ.roster (j : FJ C w0 H K w q p h) : Calls Tryz.prog 52 #[.pointer (some ⟨p, 0, none⟩)] w fun e w' => e = .returned (ros h.R) ∧ Below w.heap.size w w' := by obtain ⟨G, h1, _⟩ := j; exact C.roster h1
theorem FJ.fin {G : Nat → Prop} (j : FJ C w G K w' q p h') : ∃ G', C.J w' G' q p h' ∧ Only G w w' ∧ Grow w G G' := by
  obtain ⟨G', h1, h2, h3, _⟩ := j
  exact ⟨G', h1, h2, h3⟩
theorem FJ.mine {g : Nat} (j : FJ C w0 H K w q p h) (hg : K g) (hg0 : w0.heap.size ≤ g) (ho : Only (fun b => b = g) w w') : FJ C w0 H K w' q p h := by
  obtain ⟨G, h1, h2, h3, h4, h5⟩ := j
  have hs := ho.size
  obtain ⟨g1, g2⟩ := h4 g hg
  refine ⟨G, C.only h1 ho fun b hb e => g1 (e ▸ hb), h2.trans ho fun b e => .inr (by omega), h3, fun b e => ?_, h5⟩
  obtain ⟨g1, g2⟩ := h4 b e
  exact ⟨g1, by omega⟩
end
def rwK (rd : HuS → Int → Int × Blk × HuS) (sk : Int) : Nat → Nat → HuS → List Blk → Int × List Blk × HuS
  | 0, _, h, l => (0, l, h)
  | k + 1, i, h, l =>
    if (i : Int) = sk then rwK rd sk k (i + 1) h l
    else if (rd h i).1 = 0 then rwK rd sk k (i + 1) (rd h i).2.2 (l ++ [(rd h i).2.1])
    else ((rd h i).1, [], (rd h i).2.2)
def rwP (rd : HuS → Int → Int × Blk × HuS) (P : HuS → Int → Prop) (sk : Int) : Nat → Nat → HuS → Prop
  | 0, _, _ => True
  | k + 1, i, h => if (i : Int) = sk then rwP rd P sk k (i + 1) h else P h i ∧ ((rd h i).1 = 0 → rwP rd P sk k (i + 1) (rd h i).2.2)
def hrT (s : Int) (h : HuS) (m : Int) : Int × Blk × HuS := (bZ h s m, hrdB h s m, hrdS h s m)
def hrQ (s : Int) (h : HuS) (m : Int) : Prop := HRm h ∧ hrdK h s m
section
variable {s sk no : Int}
theorem ft_rw : ∀ (k i : Nat) (h : HuS) (l : List Blk), ftK s sk no k i h (fold l) =
    (if (rwK (hrT s) sk k i h l).1 = 7 then no else (rwK (hrT s) sk k i h l).1, if (rwK (hrT s) sk k i h l).1 = 0 then fold (rwK (hrT s) sk k i h l).2.1 else ao, (rwK (hrT s) sk k i h l).2.2)
  | 0, i, h, l => rfl
  | k + 1, i, h, l => by
    rw [ftK, rwK]
    by_cases e : (i : Int) = sk
    · rw [if_pos e, if_pos e]
      exact ft_rw k (i + 1) h l
    rw [if_neg e, if_neg e]
    by_cases e0 : bZ h s i = 0
    · rw [if_pos e0, if_pos (show (hrT s h i).1 = 0 from e0)]
      have := ft_rw k (i + 1) (hrdS h s i) (l ++ [hrdB h s i])
      rw [fold_append, show fold [hrdB h s i] = hrdB h s i by rw [fold_cons, fold_nil, bx_zero]] at this
      exact this
    · rw [if_neg e0, if_neg (show ¬ (hrT s h i).1 = 0 from e0)]
      show _ = (if bZ h s i = 7 then no else bZ h s i, if bZ h s i = 0 then _ else ao, hrdS h s i)
      rw [if_neg e0]
theorem ftp_rw : ∀ (k i : Nat) (h : HuS), ftP s sk k i h → rwP (hrT s) (hrQ s) sk k i h
  | 0, i, h, _ => trivial
  | k + 1, i, h, hp => by
    rw [ftP] at hp
    rw [rwP]
    by_cases e : (i : Int) = sk
    · rw [if_pos e] at hp ⊢
      exact ftp_rw k (i + 1) h hp
    · rw [if_neg e] at hp ⊢
      exact ⟨⟨hp.1, hp.2.1⟩, fun e0 => ftp_rw k (i + 1) _ (hp.2.2 e0)⟩
theorem fts_rw : ∀ (k i : Nat) (h : HuS) (l : List Blk), ftsK s k i h l = rwK (fun h m => ftcF h s m) (-1) k i h l
  | 0, i, h, l => rfl
  | k + 1, i, h, l => by
    have e : ¬ (i : Int) = -1 := by omega
    rw [ftsK, rwK, if_neg e]
    by_cases e0 : (ftcF h s i).1 = 0
    · rw [if_pos e0, if_pos e0]
      exact fts_rw k _ _ _
    · rw [if_neg e0, if_neg e0]
theorem ftsp_rw : ∀ (k i : Nat) (h : HuS), ftsQ s k i h → rwP (fun h m => ftcF h s m) (fun h m => ftcP h s m) (-1) k i h
  | 0, i, h, _ => trivial
  | k + 1, i, h, hp => by
    rw [ftsQ] at hp
    have e : ¬ (i : Int) = -1 := by omega
    rw [rwP, if_neg e]
    exact ⟨hp.1, fun e0 => ftsp_rw k (i + 1) _ (hp.2 e0)⟩
theorem hrd_arg {h : HuS} {m : Int} (hq : strQ h s = false) : bZ h s m = 2 ∧ hrdS h s m = h ∧ hrdB h s m = ao ∧ hrdK h s m := by
  have hp : ¬ plcH h.R s m = true := by
    intro e
    unfold plcH at e
    unfold strQ at hq
    simp only [decide_eq_true_eq, decide_eq_false_iff_not] at e hq
    exact hq (by omega)
  have h1 : bZ h s m = 2 := by unfold bZ; rw [if_neg hp]
  refine ⟨h1, ?_, ?_, fun e => absurd e.1 hp⟩
  · unfold hrdS; rw [if_neg fun e => hp e.1]
  · unfold hrdB; rw [if_neg (by rw [h1]; decide)]
theorem rw_arg {h : HuS} {k : Nat} {rd : HuS → Int → Int × Blk × HuS} {P : HuS → Int → Prop} (hs : 0 ≠ sk) (hr : (rd h 0).1 = 2) (hr2 : (rd h 0).2.2 = h) (hP : P h 0) (l : List Blk) : rwK rd sk (k + 1) 0 h l = (2, [], h) ∧ rwP rd P sk (k + 1) 0 h := by
  have e1 : (rd h ((0 : Nat) : Int)).1 = 2 := hr
  have e2 : (rd h ((0 : Nat) : Int)).2.2 = h := hr2
  have e3 : ¬ ((0 : Nat) : Int) = sk := fun e => hs e
  constructor
  · rw [rwK, if_neg e3, if_neg (by rw [e1]; decide), e1, e2]
  · rw [rwP, if_neg e3]
    exact ⟨hP, fun e => by rw [e1] at e; exact absurd e (by decide)⟩
theorem ftc_arg {h : HuS} {m : Int} (hr : HRm h) (hq : strQ h s = false) : ftcF h s m = (2, ao, h) ∧ ftcP h s m := by
  obtain ⟨a1, a2, a3, a4⟩ := hrd_arg (m := m) hq
  exact ⟨by unfold ftcF; rw [if_neg (by rw [a1]; decide), a1, a2, a3], hr, a4, fun e => by rw [a1] at e; exact absurd e (by decide)⟩
theorem hrd_m {h : HuS} {m : Int} (hf : aG h.R = true) (hr : HRm h) : (hrdS h s m).R.m = h.R.m := by
  unfold hrdS
  split
  · have hk := RosK.los hf ((m.toNat : Nat) : Int)
    exact (hk.trans (rm_save (k := 0) 17 (dedH h m.toNat) hk.fine (cg hr.1 (by omega))).2.1).m
  · rfl
end
set_option linter.unusedSimpArgs false
def geoV (m s r : Int) : Value := .agg #[.int .i64 m, .int .i64 s, .int .i64 r]
def cU (s m : Int) : Value := .agg #[.int .i64 s, .int .i64 m]
def may (m s r : Int) : Bool := decide (3 ≤ m ∧ m ≤ 16 ∧ 1 ≤ s ∧ s ≤ 64 ∧ 40 ≤ r ∧ r ≤ 256)
theorem may_iff {m s r : Int} : may m s r = true ↔ (3 ≤ m ∧ m ≤ 16 ∧ 1 ≤ s ∧ s ≤ 64 ∧ 40 ≤ r ∧ r ≤ 256) := by unfold may; rw [decide_eq_true_iff]
theorem may_not {m s r : Int} : may m s r = false ↔ ¬(3 ≤ m ∧ m ≤ 16 ∧ 1 ≤ s ∧ s ≤ 64 ∧ 40 ≤ r ∧ r ≤ 256) := by unfold may; rw [decide_eq_false_iff_not]
def has (s t : Int) : Bool := decide (0 ≤ t ∧ t < s)
theorem has_iff {s t : Int} : has s t = true ↔ (0 ≤ t ∧ t < s) := by unfold has; rw [decide_eq_true_iff]
theorem has_not {s t : Int} : has s t = false ↔ ¬(0 ≤ t ∧ t < s) := by unfold has; rw [decide_eq_false_iff_not]
set_option maxHeartbeats 1000000 in
theorem may_prog (m s r : Int) (w : World) : Calls Tryz.prog 59 #[geoV m s r] w fun e w' => e = .returned (.bool (may m s r)) ∧ Below w.heap.size w w' := by
  unfold geoV
  go_enter Tryz.func59, Tryz.ntmps59
  go_wp2
  all_goals
    go_ret
    refine ⟨aO ?_, (Below.refl _ _).alloc (Nat.le_refl _) _⟩
    first
      | (refine Eq.symm (may_not.2 ?_); omega)
      | (rw [Bool.eq_iff_iff, may_iff, decide_eq_true_iff]; omega)
theorem has_prog (m s r t : Int) (w : World) : Calls Tryz.prog 74 #[geoV m s r, .int .i64 t] w fun e w' => e = .returned (.bool (has s t)) ∧ Below w.heap.size w w' := by
  unfold geoV
  go_enter Tryz.func74, Tryz.ntmps74
  go_wp2
  all_goals
    go_ret
    refine ⟨aO ?_, (Below.refl _ _).alloc (Nat.le_refl _) _⟩
    first
      | (refine Eq.symm (has_not.2 ?_); omega)
      | (rw [Bool.eq_iff_iff, has_iff, decide_eq_true_iff]; omega)
theorem width_prog (M : Nat) (s r : Int) (w : World) (h3 : 3 ≤ M) (h16 : M ≤ 16) : Calls Tryz.prog 76 #[geoV M s r] w fun e w' => e = .returned (.int .i64 ((M - 1 : Nat) : Int)) ∧ Below w.heap.size w w' := by
  unfold geoV
  go_enter Tryz.func76, Tryz.ntmps76
  go_wp2
  go_ret
  exact ⟨cf (by omega), (Below.refl _ _).alloc (Nat.le_refl _) _⟩
def par (M T : Nat) : Nat := M - 1 - T % M
def dat (M T d : Nat) : Nat := (par M T + 1 + d) % M
section
variable {fn : Func} {p u : Tmp} {x y z : Int} {tmps : Array Value} {w : World} {b : Nat}
theorem load_place (h0 : w.cell? ⟨b, 0, none⟩ = some (.int .i64 x)) (h1 : w.cell? ⟨b, 1, none⟩ = some (.int .i64 y)) : (loadVar 43 ⟨b, 0, none⟩).run Tryz.prog w = .ok (cU x y) w := by
  simp [go_sem, loadVar, h0, h1, cU]
  done
end
section
variable {fn : Func} {p u : Tmp} {x y z : Int} {tmps : Array Value} {w : World} {b : Nat}
theorem res_place (h : fn.results = #[.cell p 43]) (hp : tmps.getD p undef = .pointer (some ⟨b, 0, none⟩)) (h0 : w.cell? ⟨b, 0, none⟩ = some (.int .i64 x)) (h1 : w.cell? ⟨b, 1, none⟩ = some (.int .i64 y)) :
    (results fn tmps).run Tryz.prog w = .ok (cU x y) w := by
  have hp' : tmps[p]?.getD undef = .pointer (some ⟨b, 0, none⟩) := by simpa using hp
  simp [results, h, hp', asAddr, load_place h0 h1]
end
theorem par_int {M : Nat} (T : Nat) (h3 : 3 ≤ M) : (M : Int) - 1 - (T : Int) % (M : Int) = ((par M T : Nat) : Int) := by
  have hlt : T % M < M := Nat.mod_lt _ (by omega)
  have e : (T : Int) % (M : Int) = ((T % M : Nat) : Int) := rfl
  rw [e]
  unfold par
  omega
theorem par_lt {M : Nat} (T : Nat) (h3 : 3 ≤ M) : par M T < M := by unfold par; omega
section
variable {w : World} {a : Addr} {b : Nat} {m s r : Int}
theorem faPm0 : (Instr.fieldAt 43 (.pointer (some ⟨b, 0, none⟩)) 0).run Tryz.prog w = .ok (.pointer (some ⟨b, 0, none⟩)) w := by kernel_rfl
theorem faPm1 : (Instr.fieldAt 43 (.pointer (some ⟨b, 0, none⟩)) 1).run Tryz.prog w = .ok (.pointer (some ⟨b, 1, none⟩)) w := by kernel_rfl
theorem ldIg {k : IntKind} {x : Int} (h : w.cell? a = some (.int k x)) : (Instr.loadAt 3 (.pointer (some a))).run Tryz.prog w = .ok (.int k x) w := by
  simp [go_sem, h]
theorem ldGg (h0 : w.cell? ⟨b, 0, none⟩ = some (.int .i64 m)) (h1 : w.cell? ⟨b, 1, none⟩ = some (.int .i64 s)) (h2 : w.cell? ⟨b, 2, none⟩ = some (.int .i64 r)) : (Instr.loadAt 29 (.pointer (some ⟨b, 0, none⟩))).run Tryz.prog w = .ok (geoV m s r) w := by
  simp [go_sem, h0, h1, h2, geoV]
end
theorem par_prog (M T : Nat) (s r : Int) (w : World) (h3 : 3 ≤ M) (h16 : M ≤ 16) (ht : T ≤ 64) : Calls Tryz.prog 75 #[geoV M s r, .int .i64 T] w fun e w' => e = .returned (cU T (par M T)) ∧ Below w.heap.size w w' := by
  have hne : (M : Int) ≠ 0 := by omega
  unfold geoV
  go_enter Tryz.func75, Tryz.ntmps75
  go_wp2
  go_region
  go_wp2
  refine bodyPost_ret (res_place (b := w.heap.size + 1) (x := T) (y := par M T) rfl rfl (by go_simp) (by go_simp; rw [par_int T h3]; exact wrap64_nat (by have := par_lt T h3; omega))) rfl ⟨rfl, ?_⟩
  exact bd (((Below.refl _ _).alloc (Nat.le_refl _) _).alloc (by go_simp) _)
theorem mul_nat {M S : Nat} (h3 : 3 ≤ M) (h16 : M ≤ 16) (h64 : S ≤ 64) : IntKind.i64.wrap ((S : Int) * ((M - 1 : Nat) : Int)) = ((S * (M - 1) : Nat) : Int) := by
  have h := Nat.mul_le_mul h64 (show M - 1 ≤ 15 by omega)
  rw [← Int.natCast_mul]
  exact IntWalk.i64_in _ (by omega)
theorem nat_geo {m s r : Int} (h : may m s r = true) : ∃ M S : Nat, m = M ∧ s = S ∧ 3 ≤ M ∧ M ≤ 16 ∧ 1 ≤ S ∧ S ≤ 64 := by
  have := may_iff.1 h
  exact ⟨m.toNat, s.toNat, by omega, by omega, by omega, by omega, by omega, by omega⟩
def secN (t : Int) : Int := if has 64 t = true then 2 + t else 0
def secE (t : Int) : Int := if has 64 t = true then 0 else 12
theorem sector_prog (t : Int) (w : World) : Calls Tryz.prog 43 #[.int .i64 t] w fun e w' => e = .returned (.tuple #[.int .i64 (secN t), .int .i64 (secE t)]) ∧ Below w.heap.size w w' := by
  go_enter Tryz.func43, Tryz.ntmps43
  go_wp2
  all_goals
    go_ret2
    refine ⟨ret_ints ?_ ?_, Below.refl _ _⟩
    all_goals
      first
      | unfold secN
      | unfold secE
      first
      | rw [if_pos (has_iff.2 (by omega))]
      | rw [if_neg (by rw [has_iff]; omega)]
section
variable {M T d m : Nat}
theorem mod2 {x M : Nat} (h : x < 2 * M) : x % M = if x < M then x else x - M := by
  split
  · exact Nat.mod_eq_of_lt (by assumption)
  · rw [Nat.mod_eq_sub_mod (by omega), Nat.mod_eq_of_lt (by omega)]
def nth (M T m : Nat) : Nat := (m + M - par M T - 1) % M
theorem dat_eq (h3 : 3 ≤ M) (hd : d < M - 1) : dat M T d = if par M T + 1 + d < M then par M T + 1 + d else par M T + 1 + d - M := mod2 (by have := par_lt T h3; omega)
theorem nth_eq (h3 : 3 ≤ M) (hm : m < M) : nth M T m = if par M T < m then m - par M T - 1 else m + M - par M T - 1 := by
  unfold nth
  have := par_lt T h3
  rw [mod2 (by omega)]
  split <;> split <;> omega
theorem dat_nth (h3 : 3 ≤ M) (hm : m < M) (hne : m ≠ par M T) : nth M T m < M - 1 ∧ dat M T (nth M T m) = m := by
  have := par_lt T h3
  have h1 : nth M T m < M - 1 := by rw [nth_eq h3 hm]; split <;> omega
  refine ⟨h1, ?_⟩
  rw [dat_eq h3 h1, nth_eq h3 hm]
  split <;> split <;> omega
theorem nth_int {M : Nat} (T m : Nat) (h3 : 3 ≤ M) : ((m : Int) + (M : Int) - ((par M T : Nat) : Int) - 1) % (M : Int) = ((nth M T m : Nat) : Int) := by
  have := par_lt T h3
  have e : ((m : Int) + (M : Int) - ((par M T : Nat) : Int) - 1) = ((m + M - par M T - 1 : Nat) : Int) := by omega
  rw [e]; rfl
end
def inP (m s t k : Int) : Bool := decide (0 ≤ t ∧ t < s ∧ 0 ≤ k ∧ k < m)
theorem inP_iff {m s t k : Int} : inP m s t k = true ↔ (0 ≤ t ∧ t < s ∧ 0 ≤ k ∧ k < m) := by unfold inP; rw [decide_eq_true_iff]
theorem inP_not {m s t k : Int} : inP m s t k = false ↔ ¬(0 ≤ t ∧ t < s ∧ 0 ≤ k ∧ k < m) := by unfold inP; rw [decide_eq_false_iff_not]
def blE (m s r t k : Int) : Int := if may m s r = true then (if inP m s t k = true then (if k.toNat = par m.toNat t.toNat then 7 else 0) else 12) else 2
def blN (m s r t k : Int) : Int := if may m s r = true then (if inP m s t k = true then (if k.toNat = par m.toNat t.toNat then 0 else ((t.toNat * (m.toNat - 1) + nth m.toNat t.toNat k.toNat : Nat) : Int)) else 0) else 0
def blV (m s r t k : Int) : Value := .tuple #[.int .i64 (blN m s r t k), .int .i64 (blE m s r t k)]
theorem blV_no {m s r : Int} (t k : Int) (h : may m s r = false) : blV m s r t k = .tuple #[.int .i64 0, .int .i64 2] := by simp [blV, blN, blE, h]
theorem blV_out {m s r t k : Int} (h : may m s r = true) (h' : inP m s t k = false) : blV m s r t k = .tuple #[.int .i64 0, .int .i64 12] := by simp [blV, blN, blE, h, h']
theorem blV_par {M S T k : Nat} {r : Int} (h : may M S r = true) (h' : inP M S T k = true) (hp : k = par M T) : blV M S r T k = .tuple #[.int .i64 0, .int .i64 7] := by
  unfold blV blN blE
  simp only [h, h', if_true]
  rw [if_pos (show (k : Int).toNat = par (M : Int).toNat (T : Int).toNat from hp), if_pos (show (k : Int).toNat = par (M : Int).toNat (T : Int).toNat from hp)]
theorem blV_in {M S T k : Nat} {r : Int} (h : may M S r = true) (h' : inP M S T k = true) (hp : k ≠ par M T) : blV M S r T k = .tuple #[.int .i64 ((T * (M - 1) + nth M T k : Nat) : Int), .int .i64 0] := by
  unfold blV blN blE
  simp only [h, h', if_true]
  rw [if_neg (show (k : Int).toNat ≠ par (M : Int).toNat (T : Int).toNat from hp), if_neg (show (k : Int).toNat ≠ par (M : Int).toNat (T : Int).toNat from hp)]
  rfl
theorem block_no (m s r t k : Int) (w : World) (h : may m s r = false) : Calls Tryz.prog 64 #[geoV m s r, cU t k] w fun e w' => e = .returned (blV m s r t k) ∧ Below w.heap.size w w' := by
  rw [blV_no t k h]
  have H := Lib.hid h
  clear h
  unfold geoV cU
  go_enter Tryz.func64, Tryz.ntmps64
  go_wp2_with fail
  refine (may_prog m s r _).mono ?_
  rintro e w1 ⟨rfl, hb1⟩
  rw [H.out]
  obtain ⟨K0, K1, hs, HB⟩ := behind_gp hb1 (new1 ..) (new2 ..)
  clear hb1
  go_wp2
  go_ret2
  exact ⟨rfl, HB.out⟩
set_option maxHeartbeats 1000000 in
theorem block_out (m s r t k : Int) (w : World) (h : may m s r = true) (h' : inP m s t k = false) : Calls Tryz.prog 64 #[geoV m s r, cU t k] w fun e w' => e = .returned (blV m s r t k) ∧ Below w.heap.size w w' := by
  rw [blV_out h h']
  have hn := inP_not.1 h'
  have H := Lib.hid h
  clear h h'
  have h3 : has s t = false ∨ (has s t = true ∧ k < 0) ∨ (has s t = true ∧ 0 ≤ k ∧ m ≤ k) := by
    cases hh : has s t
    · exact .inl rfl
    · have := has_iff.1 hh
      by_cases hk : k < 0
      · exact .inr (.inl ⟨rfl, hk⟩)
      · exact .inr (.inr ⟨rfl, by omega, by omega⟩)
  clear hn
  have go : ∀ (b : Bool), has s t = b → (b = true → (k < 0 ∨ (0 ≤ k ∧ m ≤ k))) → Calls Tryz.prog 64 #[geoV m s r, cU t k] w fun e w' => e = .returned (.tuple #[.int .i64 0, .int .i64 12]) ∧ Below w.heap.size w w' := by
    intro b hb hor
    have HBo := Lib.hid hb
    unfold geoV cU
    cases b
    · clear hor h3 hb
      go_enter Tryz.func64, Tryz.ntmps64
      go_wp2_with fail
      refine (may_prog m s r _).mono ?_
      rintro e w1 ⟨rfl, hb1⟩
      rw [H.out]
      obtain ⟨K0, K1, hs, HB⟩ := behind_gp hb1 (new1 ..) (new2 ..)
      obtain ⟨c0, c1, c2⟩ := cells3 K0.out
      obtain ⟨p0, p1, f0, f1⟩ := cells2 K1.out
      clear hb1
      go_wp2_with fail
      refine (has_prog m s r t _).mono ?_
      rintro e w2 ⟨rfl, hb2⟩
      rw [HBo.out]
      go_wp2
      go_ret2
      exact ⟨rfl, HB.out.trans (hb2.mono HB.out.size)⟩
    · have hor := hor rfl
      clear h3 hb
      rcases hor with hk | ⟨hk, hk'⟩
      all_goals
        go_enter Tryz.func64, Tryz.ntmps64
        go_wp2_with fail
        refine (may_prog m s r _).mono ?_
        rintro e w1 ⟨rfl, hb1⟩
        rw [H.out]
        obtain ⟨K0, K1, hs, HB⟩ := behind_gp hb1 (new1 ..) (new2 ..)
        obtain ⟨c0, c1, c2⟩ := cells3 K0.out
        obtain ⟨p0, p1, f0, f1⟩ := cells2 K1.out
        clear hb1
        go_wp2_with fail
        refine (has_prog m s r t _).mono ?_
        rintro e w2 ⟨rfl, hb2⟩
        rw [HBo.out]
        obtain ⟨d0, d1, d2⟩ := cells3 (am K0.out hb2)
        obtain ⟨q0, q1, g0, g1⟩ := cells2 (am K1.out hb2)
        have HB2 := Lib.hid (HB.out.trans (hb2.mono HB.out.size))
        clear hb2 c0 c1 c2 p0 p1 f0 f1
        go_wp2
        go_ret2
        exact ⟨rfl, HB2.out⟩
  rcases h3 with hh | ⟨hh, hk⟩ | ⟨hh, hk⟩
  · exact go false hh (fun e => by cases e)
  · exact go true hh (fun _ => .inl hk)
  · exact go true hh (fun _ => .inr hk)
set_option maxHeartbeats 1000000 in
theorem block_par (M S T k : Nat) (r : Int) (w : World) (h : may M S r = true) (h' : inP M S T k = true) (hp : k = par M T) : Calls Tryz.prog 64 #[geoV M S r, cU T k] w fun e w' => e = .returned (blV M S r T k) ∧ Below w.heap.size w w' := by
  rw [blV_par h h' hp]
  have hn := inP_iff.1 h'
  have hm := may_iff.1 h
  have HH := Lib.hid (show has S T = true from has_iff.2 (by omega))
  have H := Lib.hid h
  clear h h'
  have HP := Lib.hid hp
  clear hp
  unfold geoV cU
  go_enter Tryz.func64, Tryz.ntmps64
  go_wp2_with fail
  refine (may_prog M S r _).mono ?_
  rintro e w1 ⟨rfl, hb1⟩
  rw [H.out]
  obtain ⟨K0, K1, hs, HB⟩ := behind_gp hb1 (new1 ..) (new2 ..)
  obtain ⟨c0, c1, c2⟩ := cells3 K0.out
  obtain ⟨p0, p1, f0, f1⟩ := cells2 K1.out
  clear hb1
  go_wp2_with fail
  refine (has_prog M S r T _).mono ?_
  rintro e w2 ⟨rfl, hb2⟩
  rw [HH.out]
  have K02 := Lib.hid (am K0.out hb2)
  have K12 := Lib.hid (am K1.out hb2)
  obtain ⟨d0, d1, d2⟩ := cells3 K02.out
  obtain ⟨q0, q1, g0, g1⟩ := cells2 K12.out
  have HB2 := Lib.hid (HB.out.trans (hb2.mono HB.out.size))
  clear hb2 c0 c1 c2 p0 p1 f0 f1 K0 K1
  go_wp2_with fail
  refine (par_prog M T S r _ (by omega) (by omega) (by omega)).mono ?_
  rintro e w3 ⟨rfl, hb3⟩
  unfold cU
  rw [← HP.out]
  have K03 := Lib.hid (am K02.out hb3)
  have K13 := Lib.hid (am K12.out hb3)
  obtain ⟨c0, c1, c2⟩ := cells3 K03.out
  obtain ⟨p0, p1, f0, f1⟩ := cells2 K13.out
  have hs3 : w.heap.size + 1 < w3.heap.size := aF K13.out
  have hs4 : w.heap.size < w3.heap.size := aF K03.out
  have HB3 := Lib.hid (HB2.out.trans (hb3.mono HB2.out.size))
  clear hb3 d0 d1 d2 q0 q1 g0 g1 K02 K12 hs
  go_wp2
  go_ret2
  exact ⟨rfl, HB3.out.alloc HB3.out.size _⟩
set_option maxHeartbeats 1000000 in
theorem block_in (M S T k : Nat) (r : Int) (w : World) (h : may M S r = true) (h' : inP M S T k = true) (hp : k ≠ par M T) : Calls Tryz.prog 64 #[geoV M S r, cU T k] w fun e w' => e = .returned (blV M S r T k) ∧ Below w.heap.size w w' := by
  rw [blV_in h h' hp]
  have hn := inP_iff.1 h'
  have hm := may_iff.1 h
  have HH := Lib.hid (show has S T = true from has_iff.2 (by omega))
  have H := Lib.hid h
  clear h h'
  have hpl := par_lt T (M := M) (by omega)
  have hni := nth_int (M := M) T k (by omega)
  have hnl : nth M T k < M - 1 := (dat_nth (T := T) (by omega) (by omega) hp).1
  have HNI := Lib.hid hni
  have HM := Lib.hid (mul_nat (M := M) (S := T) (by omega) (by omega) (by omega))
  have HA := Lib.hid (show IntKind.i64.wrap (((T * (M - 1) : Nat) : Int) + ((nth M T k : Nat) : Int)) = ((T * (M - 1) + nth M T k : Nat) : Int) by
    have h := Nat.mul_le_mul (show T ≤ 64 by omega) (show M - 1 ≤ 15 by omega)
    generalize T * (M - 1) = q at *
    rw [← Int.natCast_add]
    exact IntWalk.i64_in _ (by omega))
  clear hni
  generalize hpq : par M T = P at *
  have HPQ := Lib.hid hpq
  clear hpq
  unfold geoV cU
  go_enter Tryz.func64, Tryz.ntmps64
  go_wp2_with fail
  refine (may_prog M S r _).mono ?_
  rintro e w1 ⟨rfl, hb1⟩
  rw [H.out]
  obtain ⟨K0, K1, hs, HB⟩ := behind_gp hb1 (new1 ..) (new2 ..)
  obtain ⟨c0, c1, c2⟩ := cells3 K0.out
  obtain ⟨p0, p1, f0, f1⟩ := cells2 K1.out
  clear hb1
  go_wp2_with fail
  refine (has_prog M S r T _).mono ?_
  rintro e w2 ⟨rfl, hb2⟩
  rw [HH.out]
  have K02 := Lib.hid (am K0.out hb2)
  have K12 := Lib.hid (am K1.out hb2)
  obtain ⟨d0, d1, d2⟩ := cells3 K02.out
  obtain ⟨q0, q1, g0, g1⟩ := cells2 K12.out
  have HB2 := Lib.hid (HB.out.trans (hb2.mono HB.out.size))
  clear hb2 c0 c1 c2 p0 p1 f0 f1 K0 K1
  go_wp2_with fail
  refine (par_prog M T S r _ (by omega) (by omega) (by omega)).mono ?_
  rintro e w3 ⟨rfl, hb3⟩
  unfold cU
  rw [HPQ.out]
  have K03 := Lib.hid (am K02.out hb3)
  have K13 := Lib.hid (am K12.out hb3)
  obtain ⟨c0, c1, c2⟩ := cells3 K03.out
  obtain ⟨p0, p1, f0, f1⟩ := cells2 K13.out
  have hs3 : w.heap.size + 1 < w3.heap.size := aF K13.out
  have hs4 : w.heap.size < w3.heap.size := aF K03.out
  have HB3 := Lib.hid (HB2.out.trans (hb3.mono HB2.out.size))
  clear hb3 d0 d1 d2 q0 q1 g0 g1 K02 K12 hs
  go_wp2
  rw [HNI.out]
  have K04 := Lib.hid (aW K03.out (.cells #[.int .i64 T, .int .i64 P] 43))
  have K14 := Lib.hid (aW K13.out (.cells #[.int .i64 T, .int .i64 P] 43))
  have HB4 := Lib.hid (HB3.out.alloc HB3.out.size (.cells #[.int .i64 T, .int .i64 P] 43))
  clear c0 c1 c2 p0 p1 f0 f1 hs3 hs4 K03 K13 HB3
  generalize w3.alloc (.cells #[.int .i64 T, .int .i64 P] 43) = w4 at *
  have CC := fun (w' : World) (hw : Below w4.heap.size w4 w') => cells3 (am K04.out hw)
  have PP := fun (w' : World) (hw : Below w4.heap.size w4 w') => cells2 (am K14.out hw)
  refine aA (B := w4.heap.size) (by kernel_rfl) ?_
  refine aq rfl (fun w' hw => al rfl (ev rfl) faPm0) ?_
  simp only [Act.put, aa, ac, ae]
  refine aq rfl (fun w' hw => au rfl (ev rfl) (ldIg (PP w' hw).1)) ?_
  simp only [Act.put, aa, ac, ae]
  refine aq rfl (fun w' hw => au rfl (ev rfl) (ldGg (CC w' hw).1 (CC w' hw).2.1 (CC w' hw).2.2)) ?_
  simp only [Act.put, aa, ac, ae]
  refine bi rfl (fun _ => ap Tryz.call76 rfl (evc (ev rfl) evn)) (aY (Nat.le_refl _) fun w' hw => width_prog M S r w' (by omega) (by omega)) ?_
  simp only [Act.put, aa, ac, ae]
  refine aq rfl (fun w' hw => exec_mul rfl (ev rfl) (ev rfl) HM.out) ?_
  simp only [Act.put, aa, ac, ae]
  refine aq rfl (fun w' hw => ag rfl (ev rfl)) ?_
  simp only [Act.put, aa, ac, ae]
  refine aq rfl (fun w' hw => bD rfl (ev rfl) (ev rfl) HA.out) ?_
  simp only [Act.put, aa, ac, ae]
  refine aq rfl (fun w' hw => aj rfl (ev rfl)) ?_
  simp only [Act.put, aa, ac, ae]
  refine aq rfl (fun w' hw => aj rfl evk) ?_
  simp only [Act.put, aa, ac, ae]
  refine wpQuiet_nil ?_
  intro w5 hw5
  go_wp2_with fail
  go_ret2
  exact ⟨rfl, HB4.out.trans (hw5.mono HB4.out.size)⟩
theorem block_prog (m s r t k : Int) (w : World) : Calls Tryz.prog 64 #[geoV m s r, cU t k] w fun e w' => e = .returned (blV m s r t k) ∧ Below w.heap.size w w' := by
  cases h : may m s r
  · exact block_no m s r t k w h
  · cases h' : inP m s t k
    · exact block_out m s r t k w h h'
    · obtain ⟨M, S, rfl, rfl, _⟩ := nat_geo h
      have hn := inP_iff.1 h'
      obtain ⟨T, rfl⟩ := Int.eq_ofNat_of_zero_le hn.1
      obtain ⟨j, rfl⟩ := Int.eq_ofNat_of_zero_le hn.2.2.1
      by_cases hp : j = par M T
      · exact block_par M S T j r w h h' hp
      · exact block_in M S T j r w h h' hp
def NoH (w : World) (v : Value) : Prop := v = .pointer none ∨ ∃ p, v = .pointer (some ⟨p, 0, none⟩) ∧ PHo w p none ⟨0, 0, 0, bf⟩
theorem NoH.below {w w' : World} {v : Value} (h : NoH w v) (hb : Below w.heap.size w w') : NoH w' v := by
  rcases h with h | ⟨p, h, h1⟩
  · exact .inl h
  · exact .inr ⟨p, h, h1.below hb⟩
section
variable {w : World} {p q : Nat} {qa : Option Addr} {x : HpS} {v : Value}
theorem hp_made1 (h : PHo w p (some ⟨q, 0, none⟩) x) : Calls Tryz.prog 39 #[.pointer (some ⟨p, 0, none⟩)] w fun e w' => e = .returned (.bool true) ∧ w = w' := by
  have HL := Lib.hid h
  clear h
  go_enter Tryz.func39, Tryz.ntmps39
  go_upto_region 1 with fail
  refine wp_region_lit ?_
  refine af rfl (ag rfl (ev rfl)) ?_
  simp only [Act.put, aa, ac, ae]
  refine af (v := .bool true) rfl (dz true Tryz.underlying23 rfl (ev rfl) evk rfl) ?_
  simp only [Act.put, aa, ac, ae]
  refine af (v := .bool true) rfl (ag rfl (ev rfl)) ?_
  simp only [Act.put, aa, ac, ae]
  refine ah (ai rfl rfl rfl rfl) (ag rfl (ev rfl)) ?_
  simp only [Act.put, aa, ac, ae]
  refine ah (ai rfl rfl rfl rfl) (bj rfl (ev rfl)) ?_
  simp only [Act.put, aa, ac, ae]
  refine ah (ai rfl rfl rfl rfl) (al rfl (ev rfl) faHp0) ?_
  simp only [Act.put, aa, ac, ae]
  refine ah (ai rfl rfl rfl rfl) (au rfl (ev rfl) (ldHb (PHo.c0 HL.out))) ?_
  simp only [Act.put, aa, ac, ae]
  refine ah (v := .bool true) (ai rfl rfl rfl rfl) (dz true Tryz.underlying24 rfl (ev rfl) evk rfl) ?_
  simp only [Act.put, aa, ac, ae]
  refine af (v := .bool true) rfl (aK rfl (ev rfl) (ev rfl)) ?_
  simp only [Act.put, aa, ac, ae]
  refine af (v := .bool true) rfl (aj rfl (ev rfl)) ?_
  simp only [Act.put, aa, ac, ae]
  refine wpList_nil ?_
  go_wp2_with fail
  go_ret
  exact ⟨rfl, rfl⟩
theorem hp_made2 (h : PHo w p none x) : Calls Tryz.prog 39 #[.pointer (some ⟨p, 0, none⟩)] w fun e w' => e = .returned (.bool false) ∧ w = w' := by
  have HL := Lib.hid h
  clear h
  go_enter Tryz.func39, Tryz.ntmps39
  go_upto_region 1 with fail
  refine wp_region_lit ?_
  refine af rfl (ag rfl (ev rfl)) ?_
  simp only [Act.put, aa, ac, ae]
  refine af (v := .bool true) rfl (dz true Tryz.underlying23 rfl (ev rfl) evk rfl) ?_
  simp only [Act.put, aa, ac, ae]
  refine af (v := .bool true) rfl (ag rfl (ev rfl)) ?_
  simp only [Act.put, aa, ac, ae]
  refine ah (ai rfl rfl rfl rfl) (ag rfl (ev rfl)) ?_
  simp only [Act.put, aa, ac, ae]
  refine ah (ai rfl rfl rfl rfl) (bj rfl (ev rfl)) ?_
  simp only [Act.put, aa, ac, ae]
  refine ah (ai rfl rfl rfl rfl) (al rfl (ev rfl) faHp0) ?_
  simp only [Act.put, aa, ac, ae]
  refine ah (ai rfl rfl rfl rfl) (au rfl (ev rfl) (ldHb (PHo.c0 HL.out))) ?_
  simp only [Act.put, aa, ac, ae]
  refine ah (v := .bool false) (ai rfl rfl rfl rfl) (dz false Tryz.underlying24 rfl (ev rfl) evk rfl) ?_
  simp only [Act.put, aa, ac, ae]
  refine af (v := .bool false) rfl (aK rfl (ev rfl) (ev rfl)) ?_
  simp only [Act.put, aa, ac, ae]
  refine af (v := .bool false) rfl (aj rfl (ev rfl)) ?_
  simp only [Act.put, aa, ac, ae]
  refine wpList_nil ?_
  go_wp2_with fail
  go_ret
  exact ⟨rfl, rfl⟩
theorem hp_made0 : Calls Tryz.prog 39 #[.pointer none] w fun e w' => e = .returned (.bool false) ∧ w = w' := by
  go_enter Tryz.func39, Tryz.ntmps39
  go_upto_region 1 with fail
  refine wp_region_lit ?_
  refine af rfl (ag rfl (ev rfl)) ?_
  simp only [Act.put, aa, ac, ae]
  refine af (v := .bool false) rfl (dz false Tryz.underlying23 rfl (ev rfl) evk rfl) ?_
  simp only [Act.put, aa, ac, ae]
  refine aU 5 (v := .bool false) rfl (ag rfl (ev rfl)) (by kernel_rfl) ?_
  simp only [bg, List.take_succ_cons, List.take_zero, List.drop_succ_cons, List.drop_zero, Act.put, List.setIfInBounds_toArray, List.set_cons_succ, List.set_cons_zero]
  refine af (v := .bool false) rfl (aI rfl (ev rfl) evk) ?_
  simp only [Act.put, aa, ac, ae]
  refine af (v := .bool false) rfl (aj rfl (ev rfl)) ?_
  simp only [Act.put, aa, ac, ae]
  refine wpList_nil ?_
  go_wp2_with fail
  go_ret
  exact ⟨rfl, rfl⟩
theorem hp_made (h : NoH w v) : Calls Tryz.prog 39 #[v] w fun e w' => e = .returned (.bool false) ∧ w = w' := by
  rcases h with rfl | ⟨p, rfl, h⟩
  · exact hp_made0
  · exact hp_made2 h
set_option maxHeartbeats 1000000 in
theorem hp_roster (h : PHo w p qa x) : Calls Tryz.prog 52 #[.pointer (some ⟨p, 0, none⟩)] w fun e w' => e = .returned (ros (x.R)) ∧ Below w.heap.size w w' := by
  have HL := Lib.hid (h.below ((Below.refl w.heap.size w).alloc (Nat.le_refl _) (.cells (aC bf).toArray 32)))
  clear h
  have HA := Lib.hid (a6.new w bf)
  have HB := Lib.hid ((Below.refl w.heap.size w).alloc (Nat.le_refl _) (.cells (aC bf).toArray 32))
  go_enter Tryz.func52, Tryz.ntmps52
  go_upto_region 0 with fail
  refine wp_region_lit ?_
  refine af rfl (bK rfl) ?_
  simp only [Act.put, aa, ac, ae]
  generalize w.alloc (.cells (aC bf).toArray 32) = w1 at *
  skip
  refine wpList_nil ?_
  go_upto_region 1 with fail
  refine wp_region_lit ?_
  refine af rfl (ag rfl (ev rfl)) ?_
  simp only [Act.put, aa, ac, ae]
  refine af (v := .bool false) rfl (dG false Tryz.underlying23 rfl (ev rfl) evk rfl) ?_
  simp only [Act.put, aa, ac, ae]
  refine wpList_nil ?_
  go_upto_region 3 with fail
  refine wp_region_lit ?_
  refine af rfl (ag rfl (ev rfl)) ?_
  simp only [Act.put, aa, ac, ae]
  refine af rfl (bj rfl (ev rfl)) ?_
  simp only [Act.put, aa, ac, ae]
  refine af rfl (al rfl (ev rfl) faHp3) ?_
  simp only [Act.put, aa, ac, ae]
  refine af rfl (aP rfl (ev rfl) (PHo.ros HL.out)) ?_
  simp only [Act.put, aa, ac, ae]
  refine av rfl (cp rfl (ev rfl) (ev rfl) HA.out) ?_
  simp only [Act.put, aa, ac, ae]
  refine wpList_nil ?_
  go_wp2_with fail
  exact bodyPost_ret (res_r1 rfl _ _ _ rfl (putW_at HA.out)) rfl ⟨rfl, dF HB.out (Nat.le_refl _)⟩
set_option maxHeartbeats 1000000 in
theorem hp_roster0 : Calls Tryz.prog 52 #[.pointer none] w fun e w' => e = .returned (ros (bf)) ∧ Below w.heap.size w w' := by
  have HA := Lib.hid (a6.new w bf)
  have HB := Lib.hid ((Below.refl w.heap.size w).alloc (Nat.le_refl _) (.cells (aC bf).toArray 32))
  go_enter Tryz.func52, Tryz.ntmps52
  go_upto_region 0 with fail
  refine wp_region_lit ?_
  refine af rfl (bK rfl) ?_
  simp only [Act.put, aa, ac, ae]
  generalize w.alloc (.cells (aC bf).toArray 32) = w1 at *
  skip
  refine wpList_nil ?_
  go_upto_region 1 with fail
  refine wp_region_lit ?_
  refine af rfl (ag rfl (ev rfl)) ?_
  simp only [Act.put, aa, ac, ae]
  refine af (v := .bool true) rfl (dG true Tryz.underlying23 rfl (ev rfl) evk rfl) ?_
  simp only [Act.put, aa, ac, ae]
  refine wpList_nil ?_
  go_upto_region 2 with fail
  refine wp_region_lit ?_
  refine af rfl (exec_bldR0 rfl) ?_
  simp only [Act.put, aa, ac, ae]
  refine av rfl (cp rfl (ev rfl) (ev rfl) HA.out) ?_
  simp only [Act.put, aa, ac, ae]
  refine wpList_nil ?_
  go_wp2_with fail
  exact bodyPost_ret (res_r1 rfl _ _ _ rfl (putW_at HA.out)) rfl ⟨rfl, dF HB.out (Nat.le_refl _)⟩
theorem hp_id (h : PHo w p qa x) : Calls Tryz.prog 51 #[.pointer (some ⟨p, 0, none⟩)] w fun e w' => e = .returned (.int .u64 (x.id : Int)) ∧ w = w' := by
  have HL := Lib.hid h
  clear h
  go_enter Tryz.func51, Tryz.ntmps51
  go_upto_region 1 with fail
  refine wp_region_lit ?_
  refine af rfl (ag rfl (ev rfl)) ?_
  simp only [Act.put, aa, ac, ae]
  refine af (v := .bool false) rfl (dG false Tryz.underlying23 rfl (ev rfl) evk rfl) ?_
  simp only [Act.put, aa, ac, ae]
  refine wpList_nil ?_
  go_upto_region 3 with fail
  refine wp_region_lit ?_
  refine af rfl (ag rfl (ev rfl)) ?_
  simp only [Act.put, aa, ac, ae]
  refine af rfl (bj rfl (ev rfl)) ?_
  simp only [Act.put, aa, ac, ae]
  refine af rfl (al rfl (ev rfl) faHp1) ?_
  simp only [Act.put, aa, ac, ae]
  refine af rfl (au rfl (ev rfl) (ldU64 (PHo.c1 HL.out))) ?_
  simp only [Act.put, aa, ac, ae]
  refine af rfl (aj rfl (ev rfl)) ?_
  simp only [Act.put, aa, ac, ae]
  refine wpList_nil ?_
  go_wp2_with fail
  go_ret
  exact ⟨rfl, rfl⟩
theorem hp_id0 : Calls Tryz.prog 51 #[.pointer none] w fun e w' => e = .returned (.int .u64 0) ∧ w = w' := by
  go_enter Tryz.func51, Tryz.ntmps51
  go_upto_region 1 with fail
  refine wp_region_lit ?_
  refine af rfl (ag rfl (ev rfl)) ?_
  simp only [Act.put, aa, ac, ae]
  refine af (v := .bool true) rfl (dG true Tryz.underlying23 rfl (ev rfl) evk rfl) ?_
  simp only [Act.put, aa, ac, ae]
  refine wpList_nil ?_
  go_upto_region 2 with fail
  refine wp_region_lit ?_
  refine af rfl (aj rfl evk) ?_
  simp only [Act.put, aa, ac, ae]
  refine wpList_nil ?_
  go_wp2_with fail
  go_ret
  exact ⟨rfl, rfl⟩
theorem hp_state (h : PHo w p qa x) : Calls Tryz.prog 65 #[.pointer (some ⟨p, 0, none⟩)] w fun e w' => e = .returned (.int .i64 (stN (x.R) : Nat)) ∧ Below w.heap.size w w' := by
  have HL := Lib.hid h
  clear h
  obtain ⟨n, hn⟩ : ∃ n, stN (x.R) = n := ⟨_, rfl⟩
  rw [hn]
  have HN := Lib.hid hn
  clear hn
  go_enter Tryz.func65, Tryz.ntmps65
  go_upto_region 1 with fail
  refine wp_region_lit ?_
  refine af rfl (ag rfl (ev rfl)) ?_
  simp only [Act.put, aa, ac, ae]
  refine ak rfl (ap Tryz.call52 rfl (evc (ev rfl) evn)) ?_
  refine (hp_roster HL.out).mono ?_
  rintro e w1 ⟨rfl, b1⟩
  have HB1 := Lib.hid b1
  clear b1
  refine ⟨_, rfl, ?_⟩
  simp only [Act.put, aa, ac, ae]
  refine ak rfl (ap Tryz.call77 rfl (evc (ev rfl) evn)) ?_
  refine (pstate_n w1 HN.out).mono ?_
  rintro e w2 ⟨rfl, b2⟩
  have HB2 := Lib.hid (HB1.out.trans (b2.mono HB1.out.size))
  clear b2
  refine ⟨_, rfl, ?_⟩
  simp only [Act.put, aa, ac, ae]
  refine af rfl (aj rfl (ev rfl)) ?_
  simp only [Act.put, aa, ac, ae]
  refine wpList_nil ?_
  go_wp2_with fail
  go_ret
  exact ⟨rfl, HB2.out⟩
theorem hp_state0 : Calls Tryz.prog 65 #[.pointer none] w fun e w' => e = .returned (.int .i64 (stN (bf) : Nat)) ∧ Below w.heap.size w w' := by
  obtain ⟨n, hn⟩ : ∃ n, stN (bf) = n := ⟨_, rfl⟩
  rw [hn]
  have HN := Lib.hid hn
  clear hn
  go_enter Tryz.func65, Tryz.ntmps65
  go_upto_region 1 with fail
  refine wp_region_lit ?_
  refine af rfl (ag rfl (ev rfl)) ?_
  simp only [Act.put, aa, ac, ae]
  refine ak rfl (ap Tryz.call52 rfl (evc (ev rfl) evn)) ?_
  refine (hp_roster0).mono ?_
  rintro e w1 ⟨rfl, b1⟩
  have HB1 := Lib.hid b1
  clear b1
  refine ⟨_, rfl, ?_⟩
  simp only [Act.put, aa, ac, ae]
  refine ak rfl (ap Tryz.call77 rfl (evc (ev rfl) evn)) ?_
  refine (pstate_n w1 HN.out).mono ?_
  rintro e w2 ⟨rfl, b2⟩
  have HB2 := Lib.hid (HB1.out.trans (b2.mono HB1.out.size))
  clear b2
  refine ⟨_, rfl, ?_⟩
  simp only [Act.put, aa, ac, ae]
  refine af rfl (aj rfl (ev rfl)) ?_
  simp only [Act.put, aa, ac, ae]
  refine wpList_nil ?_
  go_wp2_with fail
  go_ret
  exact ⟨rfl, HB2.out⟩
theorem dA (h : PHo w p (some ⟨q, 0, none⟩) x) : Calls Tryz.prog 41 #[.pointer (some ⟨p, 0, none⟩)] w fun e w' => e = .returned (.int .i64 (if faiH x.R = true then 16 else 0)) ∧ Below w.heap.size w w' := by
  obtain ⟨n, hn⟩ : ∃ n, stN x.R = n := ⟨_, rfl⟩
  have HN := Lib.hid hn
  have HL := Lib.hid h
  clear h
  cases hf : faiH x.R
  · have H5 : Hid (((n : Int) == 5) = false) := Lib.hid (by
      unfold faiH at hf
      rw [hn] at hf
      have := of_decide_eq_false hf; exact beq_eq_false_iff_ne.2 (by omega))
    clear hf hn
    go_enter Tryz.func41, Tryz.ntmps41
    go_upto_region 1 with fail
    refine wp_region_lit ?_
    refine af rfl (ag rfl (ev rfl)) ?_
    simp only [Act.put, aa, ac, ae]
    refine ak rfl (ap Tryz.call39 rfl (evc (ev rfl) evn)) ?_
    refine (hp_made1 HL.out).mono ?_
    rintro e w1 ⟨rfl, rfl⟩
    refine ⟨_, rfl, ?_⟩
    simp only [Act.put, aa, ac, ae]
    refine af (v := .bool false) rfl (az true rfl (ev rfl)) ?_
    simp only [Act.put, aa, ac, ae]
    refine af (v := .bool false) rfl (aj rfl (ev rfl)) ?_
    simp only [Act.put, aa, ac, ae]
    refine wpList_nil ?_
    go_upto_region 3 with fail
    refine wp_region_lit ?_
    refine af rfl (ag rfl (ev rfl)) ?_
    simp only [Act.put, aa, ac, ae]
    refine ak rfl (ap Tryz.call65 rfl (evc (ev rfl) evn)) ?_
    refine (hp_state HL.out).mono ?_
    rintro e w1 ⟨rfl, b1⟩
    rw [HN.out]
    have HB1 := Lib.hid b1
    clear b1
    refine ⟨_, rfl, ?_⟩
    simp only [Act.put, aa, ac, ae]
    refine af (v := .bool false) rfl (ar false rfl (ev rfl) evk H5.out) ?_
    simp only [Act.put, aa, ac, ae]
    refine af (v := .bool false) rfl (aj rfl (ev rfl)) ?_
    simp only [Act.put, aa, ac, ae]
    refine wpList_nil ?_
    go_upto_region 5 with fail
    refine wp_region_lit ?_
    refine af rfl (aj rfl evk) ?_
    simp only [Act.put, aa, ac, ae]
    refine wpList_nil ?_
    go_wp2_with fail
    go_ret
    exact ⟨rfl, HB1.out⟩
  · have H5 : Hid (((n : Int) == 5) = true) := Lib.hid (by
      unfold faiH at hf
      rw [hn] at hf
      have := of_decide_eq_true hf; subst this; rfl)
    clear hf hn
    go_enter Tryz.func41, Tryz.ntmps41
    go_upto_region 1 with fail
    refine wp_region_lit ?_
    refine af rfl (ag rfl (ev rfl)) ?_
    simp only [Act.put, aa, ac, ae]
    refine ak rfl (ap Tryz.call39 rfl (evc (ev rfl) evn)) ?_
    refine (hp_made1 HL.out).mono ?_
    rintro e w1 ⟨rfl, rfl⟩
    refine ⟨_, rfl, ?_⟩
    simp only [Act.put, aa, ac, ae]
    refine af (v := .bool false) rfl (az true rfl (ev rfl)) ?_
    simp only [Act.put, aa, ac, ae]
    refine af (v := .bool false) rfl (aj rfl (ev rfl)) ?_
    simp only [Act.put, aa, ac, ae]
    refine wpList_nil ?_
    go_upto_region 3 with fail
    refine wp_region_lit ?_
    refine af rfl (ag rfl (ev rfl)) ?_
    simp only [Act.put, aa, ac, ae]
    refine ak rfl (ap Tryz.call65 rfl (evc (ev rfl) evn)) ?_
    refine (hp_state HL.out).mono ?_
    rintro e w1 ⟨rfl, b1⟩
    rw [HN.out]
    have HB1 := Lib.hid b1
    clear b1
    refine ⟨_, rfl, ?_⟩
    simp only [Act.put, aa, ac, ae]
    refine af (v := .bool true) rfl (ar true rfl (ev rfl) evk H5.out) ?_
    simp only [Act.put, aa, ac, ae]
    refine af (v := .bool true) rfl (aj rfl (ev rfl)) ?_
    simp only [Act.put, aa, ac, ae]
    refine wpList_nil ?_
    go_upto_region 4 with fail
    refine wp_region_lit ?_
    refine af rfl (aj rfl evk) ?_
    simp only [Act.put, aa, ac, ae]
    refine wpList_nil ?_
    go_wp2_with fail
    go_ret
    exact ⟨rfl, HB1.out⟩
theorem hp_refusal0 (h : NoH w v) : Calls Tryz.prog 41 #[v] w fun e w' => e = .returned (.int .i64 1) ∧ w = w' := by
  have HL := Lib.hid h
  clear h
  go_enter Tryz.func41, Tryz.ntmps41
  go_upto_region 1 with fail
  refine wp_region_lit ?_
  refine af rfl (ag rfl (ev rfl)) ?_
  simp only [Act.put, aa, ac, ae]
  refine ak rfl (ap Tryz.call39 rfl (evc (ev rfl) evn)) ?_
  refine (hp_made HL.out).mono ?_
  rintro e w1 ⟨rfl, rfl⟩
  refine ⟨_, rfl, ?_⟩
  simp only [Act.put, aa, ac, ae]
  refine af (v := .bool true) rfl (az false rfl (ev rfl)) ?_
  simp only [Act.put, aa, ac, ae]
  refine af (v := .bool true) rfl (aj rfl (ev rfl)) ?_
  simp only [Act.put, aa, ac, ae]
  refine wpList_nil ?_
  go_upto_region 2 with fail
  refine wp_region_lit ?_
  refine af rfl (aj rfl evk) ?_
  simp only [Act.put, aa, ac, ae]
  refine wpList_nil ?_
  go_wp2_with fail
  go_ret
  exact ⟨rfl, rfl⟩
theorem has_plc {R : Ros} (s m : Int) (hg : geoB R = true) : (blE R.m R.s R.r s m != 12) = plcH R s m := by
  have hm : may R.m R.s R.r = true := by
    have := dC.1 hg
    exact may_iff.2 (by omega)
  have e : inP R.m R.s s m = plcH R s m := rfl
  rw [← e]
  unfold blE
  rw [if_pos hm]
  cases hp : inP R.m R.s s m
  · rw [if_neg (by decide)]; rfl
  · rw [if_pos rfl]
    split <;> rfl
set_option maxHeartbeats 1000000 in
theorem hp_has (s m : Int) (hg : geoB x.R = true) (h : PHo w p qa x) : Calls Tryz.prog 40 #[.pointer (some ⟨p, 0, none⟩), .agg #[.int .i64 s, .int .i64 m]] w fun e w' => e = .returned (.bool (plcH x.R s m)) ∧ Below w.heap.size w w' := by
  have hb := (Below.refl w.heap.size w).alloc (Nat.le_refl _) (.cells ([.int .i64 s, .int .i64 m] : List Value).toArray 43)
  have HL := Lib.hid (h.below hb)
  have HA := Lib.hid (heap_alloc_new w (.cells ([.int .i64 s, .int .i64 m] : List Value).toArray 43))
  have HB := Lib.hid hb
  have HP := has_plc s m hg
  obtain ⟨bv, hbv⟩ : ∃ bv, plcH x.R s m = bv := ⟨_, rfl⟩
  rw [hbv] at HP ⊢
  have HPP := Lib.hid HP
  clear h hb HP hg
  go_enter Tryz.func40, Tryz.ntmps40
  go_upto_region 0 with fail
  refine wp_region_lit ?_
  refine af rfl (bS (cs := [.int .i64 s, .int .i64 m]) rfl (ev rfl)) ?_
  simp only [Act.put, aa, ac, ae]
  generalize w.alloc (.cells ([.int .i64 s, .int .i64 m] : List Value).toArray 43) = w1 at *
  refine af (v := .bool false) rfl (aj rfl evk) ?_
  simp only [Act.put, aa, ac, ae]
  refine wpList_nil ?_
  go_upto_region 1 with fail
  refine aA (B := w1.heap.size) (by kernel_rfl) ?_
  refine aq rfl (fun w' hw => ag rfl (ev rfl)) ?_
  simp only [Act.put, aa, ac, ae]
  refine aq rfl (fun w' hw => bj rfl (ev rfl)) ?_
  simp only [Act.put, aa, ac, ae]
  refine aq rfl (fun w' hw => al rfl (ev rfl) faHp3) ?_
  simp only [Act.put, aa, ac, ae]
  refine aq rfl (fun w' hw => al rfl (ev rfl) faHr0) ?_
  simp only [Act.put, aa, ac, ae]
  refine aq rfl (fun w' hw => cM rfl (ev rfl) (PHo.geo (HL.out.below hw))) ?_
  simp only [Act.put, aa, ac, ae]
  refine aq rfl (fun w' hw => bF (cs := [.int .i64 s, .int .i64 m]) Tryz.underlying43 rfl (by kernel_rfl) rfl (ev rfl) (aN (am HA.out hw))) ?_
  simp only [Act.put, aa, ac, ae]
  refine bi rfl (fun _ => ap Tryz.call64 rfl (evc (ev rfl) (evc (ev rfl) evn))) (aY (Nat.le_refl _) fun w' hw => block_prog x.R.m x.R.s x.R.r s m w') ?_
  simp only [Act.put, aa, ac, ae]
  refine aq rfl (fun w' hw => ag rfl (ev rfl)) ?_
  simp only [Act.put, aa, ac, ae]
  refine aq rfl (fun w' hw => ax rfl (ev rfl) rfl) ?_
  simp only [Act.put, aa, ac, ae]
  refine aq rfl (fun w' hw => ax rfl (ev rfl) rfl) ?_
  simp only [Act.put, aa, ac, ae]
  refine aq rfl (fun w' hw => aj rfl (ev rfl)) ?_
  simp only [Act.put, aa, ac, ae]
  refine aq rfl (fun w' hw => aj rfl (ev rfl)) ?_
  simp only [Act.put, aa, ac, ae]
  refine wpQuiet_nil ?_
  intro w2 hw
  have HBB := Lib.hid (HB.out.trans (hw.mono HB.out.size))
  clear hw
  go_upto_region 2 with fail
  refine wp_region_lit ?_
  refine af rfl (ag rfl (ev rfl)) ?_
  simp only [Act.put, aa, ac, ae]
  refine af rfl (aE bv rfl (ev rfl) evk HPP.out) ?_
  simp only [Act.put, aa, ac, ae]
  refine af rfl (aj rfl (ev rfl)) ?_
  simp only [Act.put, aa, ac, ae]
  refine wpList_nil ?_
  go_wp2_with fail
  go_ret
  exact ⟨rfl, HBB.out⟩
end
section
variable {P : Program} {md : Region.Mode} {l : List Oper} {Q : Exit → Act → World → Prop} {S : World → Prop} {fuel : Nat} {listed : Array Bool} {a : Act} {w w1 : World} {o o' : Oper} {v : Value}
theorem held_turn (i : Nat) (hi : l[i]? = some o) (hr : Region.ready md l.toArray listed = [i]) (hw : Region.wanted o (yielded l.toArray a.tmps) = true) (h : (execOp a.eval o).run P w = .ok (.value v) w1)
    (hS : S w1) (hk : wpAnyH P md l.toArray Q S fuel (listed.setIfInBounds i true) (a.put o.dst v) w1) : wpAnyH P md l.toArray Q S (fuel + 1) listed a w :=
  wpAnyH_all hr (by simp) fun j hj => by
    obtain rfl : j = i := by simpa using hj
    unfold wpOp
    simp only [List.getElem?_toArray, hi, hw, if_true]
    refine .inl ?_
    unfold Oper.wp
    rw [h]
    exact ⟨hS, hk⟩
theorem held_either (i j : Nat) {f : FuncId} {vs : Array Value} (hi : l[i]? = some o) (hj : l[j]? = some o') (hr : Region.ready md l.toArray listed = [i, j]) (hwi : Region.wanted o (yielded l.toArray a.tmps) = true) (hwj : Region.wanted o' (yielded l.toArray a.tmps) = true) (h : (execOp a.eval o).run P w = .ok (.enter f vs) w)
    (hc : Calls P f vs w fun e w' => ∃ v, e = .returned v ∧ S w' ∧ wpAnyH P md l.toArray Q S fuel (listed.setIfInBounds i true) (a.put o.dst v) w') (h' : (execOp a.eval o').run P w = .ok (.value v) w1) (hS : S w1)
    (hk : wpAnyH P md l.toArray Q S fuel (listed.setIfInBounds j true) (a.put o'.dst v) w1) : wpAnyH P md l.toArray Q S (fuel + 1) listed a w :=
  wpAnyH_all hr (by simp) fun z hz => by
    rcases (show z = i ∨ z = j by simpa using hz) with rfl | rfl
    · unfold wpOp
      simp only [List.getElem?_toArray, hi, hwi, if_true]
      refine .inl ?_
      unfold Oper.wp
      rw [h]
      exact hc.mono fun e w' ⟨v, he, hk⟩ => by subst he; exact hk
    · unfold wpOp
      simp only [List.getElem?_toArray, hj, hwj, if_true]
      refine .inl ?_
      unfold Oper.wp
      rw [h']
      exact ⟨hS, hk⟩
theorem shareH {α β : Type} {F : α → β → Prop} {G : Prop} {T : α → β → Prop} (k : (∀ a b, F a b → T a b) → G) (h : ∀ a b, F a b → T a b) : G := k h
end
end Go.Proofs.YtheponmdbmloaaaGreatDoor
