import Derived.Test.YtheponmdbmloaaaGreatDoorFsae
import Derived.Test.YtheponmdbmloaaaGreatDoorFsab
import Derived.Test.YtheponmdbmloaaaGreatDoorFsaa
import Derived.Laws.CopyOwn
import Derived.Test.YtheponmdbmloaaaGreatDoorFsZ
namespace Go.Proofs.YtheponmdbmloaaaGreatDoor
open Go.RowKit
set_option linter.unusedVariables false
set_option maxRecDepth 100000
def putT (id ev : Nat) (R : Ros) (M : BenS) (m : Nat) : List Stp := [.wr (sloT (rdB6 M m 0) (rdB6 M m 1) : Nat) (sputB ev ⟨id, m, R⟩), .fl]
def cz (id ev : Nat) (R : Ros) (M : BenS) (m : Nat) : Int := if bO M m 0 = 0 then (if bO M m 1 = 0 then goE m M (putT id ev R M m) else bO M m 1) else bO M m 0
def cJ (id ev : Nat) (R : Ros) (M : BenS) (m : Nat) : BenS := if bO M m 0 = 0 ∧ bO M m 1 = 0 then goB m M (putT id ev R M m) else M
def ci (id ev : Nat) (R : Ros) : Nat → Nat → BenS → Option Nat × Int × BenS
  | 0, _, M => (none, 0, M)
  | k + 1, m, M =>
    if sta R m = 1 then ci id ev R k (m + 1) M
    else if cz id ev R M m = 9 then (some m, 0, cJ id ev R M m)
    else if cz id ev R M m = 0 then ci id ev R k (m + 1) (cJ id ev R M m)
    else (none, cz id ev R M m, cJ id ev R M m)
structure HuS where
  M : BenS
  id : Nat
  ev : Nat
  R : Ros
def dm : Nat → HuS → Int × HuS
  | 0, h => (0, h)
  | f + 1, h =>
    match ci h.id (h.ev + 1) h.R h.R.m.toNat 0 h.M with
    | (none, e, M') => (e, ⟨M', h.id, h.ev + 1, h.R⟩)
    | (some m, _, M') => dm f ⟨M', h.id, h.ev + 1, bl h.R m⟩
def savE (h : HuS) : Int := (dm 17 h).1
def savS (h : HuS) : HuS := (dm 17 h).2
section
variable {M : BenS} {m : Nat} {S : List Blk}
theorem setD {α : Type} (l : List α) (k j : Nat) (a d : α) (hk : k < l.length) : (l.set k a).getD j d = if j = k then a else l.getD j d := by
  by_cases e : j = k
  · subst e; rw [if_pos rfl]; simp [List.getD, hk]
  · rw [if_neg e]; simp only [List.getD]; rw [List.getElem?_set_ne (by omega)]
end
theorem slo_lt (a b : Blk) : sloT a b < 2 := by unfold sloT; split <;> omega
def potK (q : Nat → Bool) : Nat → Nat
  | 0 => 0
  | n + 1 => potK q n + (if q n = true then 1 else 0)
theorem potK_le (q : Nat → Bool) (n : Nat) : potK q n ≤ n := by
  induction n with
  | zero => exact Nat.le_refl _
  | succ n ih => rw [potK]; split <;> omega
theorem potK_mono {q q' : Nat → Bool} (h : ∀ j, q' j = true → q j = true) (n : Nat) : potK q' n ≤ potK q n := by
  induction n with
  | zero => exact Nat.le_refl _
  | succ n ih =>
    rw [potK, potK]
    by_cases e : q' n = true
    · rw [if_pos e, if_pos (h n e)]; omega
    · rw [if_neg e]; split <;> omega
theorem potK_lt {q q' : Nat → Bool} (h : ∀ j, q' j = true → q j = true) {d : Nat} (h1 : q d = true) (h2 : q' d = false) : ∀ {n : Nat}, d < n → potK q' n + 1 ≤ potK q n
  | 0, hd => absurd hd (by omega)
  | n + 1, hd => by
    rw [potK, potK]
    by_cases e : d = n
    · subst e
      rw [h2, if_neg (by decide), if_pos h1]
      have := potK_mono h d
      omega
    · have := potK_lt h h1 h2 (n := n) (by omega)
      by_cases e' : q' n = true
      · rw [if_pos e', if_pos (h n e')]; omega
      · rw [if_neg e']; split <;> omega
section
variable {id ev : Nat} {R : Ros} {M : BenS} {m : Nat}
theorem los_sta (hf : aI R = true) {d : Nat} (hd : d < R.m.toNat) (hs : sta R d ≠ 1) : (bl R d).m = R.m ∧ ∀ j, sta (bl R d) j = if j = d then 1 else sta R j := by
  have hq : hasM R (d : Int) = true := decide_eq_true ⟨by omega, by omega⟩
  have h16 : d < 16 := by have := (mem_lt hf hq).1; simpa using this
  have hb : losB R (d : Int) = true := by
    unfold losB
    rw [hf, hq, Int.toNat_natCast, decide_eq_true hs]
    rfl
  unfold bl
  rw [if_pos hb, Int.toNat_natCast]
  split
  · exact ⟨rfl, fun j => by rw [sta_setS _ h16, sta_cur]; rfl⟩
  · exact ⟨rfl, fun j => by rw [sta_setS _ h16]; rfl⟩
end
set_option linter.unusedSectionVars false
structure NewR (g : Ros) (p : Nat) : Prop where
  gz_ : gz g = g
  geo : geoB g = true
  lt : (p : Int) < g.m
section
variable {g : Ros} {p q k : Nat} (h : NewR g p)
include h
section
variable (hq : (q : Int) < g.m) (hne : q ≠ p)
include hq hne
end
def hX (g : Ros) (p : Nat) (s : Nat) : Ros := curS (setS g p 2) (s : Int)
section
variable {s : Nat} (hs : (s : Int) < g.s)
include hs
end
def hY (g : Ros) (p s : Nat) : Ros := if (s : Int) < g.s then hX g p s else g
end
def plcH (x : Ros) (s m : Int) : Bool := decide (0 ≤ s ∧ s < x.s ∧ 0 ≤ m ∧ m < x.m)
def faiH (x : Ros) : Bool := decide (stN x = 5)
def dedH (h : HuS) (m : Nat) : HuS := { h with R := bl h.R m }
def dedE (h : HuS) (m : Nat) (t : Int) : Int := if savE (dedH h m) = 0 then (if faiH (savS (dedH h m)).R = true then 16 else t) else savE (dedH h m)
def dedS (h : HuS) (m : Nat) : HuS := savS (dedH h m)
def cg (h : HuS) (s m : Int) : Int :=
  if plcH h.R s m = true then (if faiH h.R = true then 16 else if hasB h.R m s = true then (if bO h.M m (2 + s) = 9 then dedE h m.toNat 7 else bO h.M m (2 + s)) else 7) else 2
def hrdB (h : HuS) (s m : Int) : Blk := if cg h s m = 0 then rdB6 h.M m (2 + s) else al
def hrdS (h : HuS) (s m : Int) : HuS := if plcH h.R s m = true ∧ faiH h.R = false ∧ hasB h.R m s = true ∧ bO h.M m (2 + s) = 9 then dedS h m.toNat else h
def hwrE (h : HuS) (s m : Int) (b : Blk) : Int :=
  if plcH h.R s m = true then (if faiH h.R = true then 16 else if hasB h.R m s = true then (if wrE6 h.M m (2 + s) = 9 then dedE h m.toNat 0 else wrE6 h.M m (2 + s)) else 0) else 2
def hwrS (h : HuS) (s m : Int) (b : Blk) : HuS :=
  if plcH h.R s m = true ∧ faiH h.R = false ∧ hasB h.R m s = true then (if wrE6 h.M m (2 + s) = 9 then dedS h m.toNat else { h with M := wrS6 h.M m (2 + s) b }) else h
def szK (N : Nat) (s : Int) : List Int := List.replicate N (2 + s) ++ [50]
section
variable {N : Nat} {s : Int}
theorem szK_at {j : Nat} (hj : j < N) : (szK N s).getD j 0 = 2 + s := by
  unfold szK
  simp only [List.getD]
  rw [List.getElem?_append_left (by simpa using hj), List.getElem?_replicate, if_pos hj]
  rfl
theorem szK_len : (szK N s).length = N + 1 := by simp [szK]
theorem newK_at {j : Nat} (hj : j < N) : (dj (szK N s)).ds.getD j bp = ⟨List.replicate (2 + s).toNat al, [], false⟩ := by
  rw [dS]
  simp only [List.getD, List.getElem?_map]
  have h := szK_at (s := s) hj
  rw [List.getD] at h
  rw [List.getElem?_eq_getElem (by rw [szK_len]; omega)] at h ⊢
  simp only [Option.getD_some] at h
  simp only [Option.map_some, Option.getD_some, h]
  rfl
theorem newK_len : (dj (szK N s)).ds.length = N + 1 := by rw [dS, List.length_map, szK_len]
end
def neR (N : Nat) (s : Int) : Ros := gz ⟨(N : Int), s, 40, Vector.replicate 16 0, 0, false⟩
theorem neR_fine {N : Nat} {s : Int} (h1 : 3 ≤ N) (h2 : N ≤ 16) (h3 : 1 ≤ s) (h4 : s ≤ 64) : aI (neR N s) = true := by
  unfold neR
  rw [fine_gz]
  exact decide_eq_true ⟨by show 3 ≤ (N : Int); omega, by show (N : Int) ≤ 16; omega, h3, h4, by show (40 : Int) ≤ 40; omega, by show (40 : Int) ≤ 256; omega⟩
theorem neR_m (N : Nat) (s : Int) : (neR N s).m.toNat = N := by show ((N : Int)).toNat = N; omega
section
variable {M : BenS} {d n : Int} {b : Blk}
theorem er_rd (M : BenS) (d n : Int) : bO M d n = 0 ∨ bO M d n = 2 ∨ bO M d n = 8 ∨ bO M d n = 9 := by
  unfold bO
  split
  · rcases askE_is (S := (M.dev d).S) (g := (M.dev d).g) (n := n) with h | h | h
    · exact .inr (.inl h)
    · exact .inr (.inr (.inr h))
    · exact .inl h.1
  · rcases dp M d with h | h | h
    · exact .inr (.inr (.inl h.1))
    · exact .inr (.inl h.1)
    · exact .inl h.1
theorem er_wr (M : BenS) (d n : Int) : wrE6 M d n = 0 ∨ wrE6 M d n = 2 ∨ wrE6 M d n = 8 ∨ wrE6 M d n = 9 := by
  unfold wrE6
  split
  · unfold BenS.stepE
    split
    · exact .inr (.inr (.inl rfl))
    · exact .inl rfl
  · exact er_rd M d n
theorem er_fl (M : BenS) (d : Int) : flE6 M d = 0 ∨ flE6 M d = 2 ∨ flE6 M d = 8 ∨ flE6 M d = 9 := by
  unfold flE6
  split
  · unfold BenS.stepE
    split
    · exact .inr (.inr (.inl rfl))
    · exact .inl rfl
  · unfold flA6
    split
    · split
      · exact .inr (.inr (.inr rfl))
      · exact .inl rfl
    · rcases dp M d with h | h | h
      · exact .inr (.inr (.inl h.1))
      · exact .inr (.inl h.1)
      · exact .inl h.1
def erS (e : Int) : Prop := e = 0 ∨ e = 2 ∨ e = 8 ∨ e = 9
theorem er_step (M : BenS) (d : Int) (s : Stp) : erS (stpE d M s) := by
  cases s with
  | wr n b => exact er_wr M d n
  | fl => exact er_fl M d
theorem er_go (d : Int) : ∀ (l : List Stp) (M : BenS), erS (goE d M l)
  | [], M => .inl rfl
  | s :: l, M => by
    rw [goE]
    split
    · exact er_go d l _
    · exact er_step M d s
theorem er_put {id ev : Nat} {R : Ros} {m : Nat} : erS (cz id ev R M m) := by
  unfold cz
  split
  · split
    · exact er_go _ _ _
    · exact er_rd M m 1
  · exact er_rd M m 0
theorem er_once {id ev : Nat} {R : Ros} : ∀ (k m : Nat) (M : BenS), (ci id ev R k m M).2.1 = 0 ∨ (ci id ev R k m M).2.1 = 2 ∨ (ci id ev R k m M).2.1 = 8
  | 0, m, M => .inl rfl
  | k + 1, m, M => by
    rw [ci]
    split
    · exact er_once k (m + 1) M
    · split
      · exact .inl rfl
      · rename_i h9
        split
        · exact er_once k (m + 1) _
        · rcases er_put (M := M) (id := id) (ev := ev) (R := R) (m := m) with e | e | e | e
          · exact .inl e
          · exact .inr (.inl e)
          · exact .inr (.inr e)
          · exact absurd e h9
theorem er_saveK : ∀ (f : Nat) (h : HuS), (dm f h).1 = 0 ∨ (dm f h).1 = 2 ∨ (dm f h).1 = 8
  | 0, h => .inl rfl
  | f + 1, h => by
    rw [dm]
    have := er_once (id := h.id) (ev := h.ev + 1) (R := h.R) h.R.m.toNat 0 h.M
    generalize ci h.id (h.ev + 1) h.R h.R.m.toNat 0 h.M = o at *
    obtain ⟨a, e, M'⟩ := o
    cases a with
    | none => exact this
    | some d => exact er_saveK f _
theorem er_save (h : HuS) : savE h = 0 ∨ savE h = 2 ∨ savE h = 8 := er_saveK 17 h
end
def hrdK (h : HuS) (s m : Int) : Prop := plcH h.R s m = true ∧ faiH h.R = false ∧ hasB h.R m s = true ∧ bO h.M m (2 + s) = 9 → savE (dedH h m.toNat) = 0
def hwrK (h : HuS) (s m : Int) : Prop := plcH h.R s m = true ∧ faiH h.R = false ∧ hasB h.R m s = true ∧ wrE6 h.M m (2 + s) = 9 → savE (dedH h m.toNat) = 0
theorem hrdK_of {h : HuS} {s m : Int} (h2 : cg h s m ≠ 2) (h8 : cg h s m ≠ 8) : hrdK h s m := by
  rintro ⟨c1, c2, c3, c4⟩
  unfold cg at h2 h8
  rw [if_pos c1, c2, if_neg (by decide), if_pos c3, if_pos c4] at h2 h8
  unfold dedE at h2 h8
  rcases er_save (dedH h m.toNat) with e | e | e
  · exact e
  · rw [e] at h2; exact absurd rfl h2
  · rw [e] at h8; exact absurd rfl h8
theorem hwrK_of {h : HuS} {s m : Int} {b : Blk} (h2 : hwrE h s m b ≠ 2) (h8 : hwrE h s m b ≠ 8) : hwrK h s m := by
  rintro ⟨c1, c2, c3, c4⟩
  unfold hwrE at h2 h8
  rw [if_pos c1, c2, if_neg (by decide), if_pos c3, if_pos c4] at h2 h8
  unfold dedE at h2 h8
  rcases er_save (dedH h m.toNat) with e | e | e
  · exact e
  · rw [e] at h2; exact absurd rfl h2
  · rw [e] at h8; exact absurd rfl h8
def LooE : Elt (Int × Blk) := pairE 106 193 Tryz.underlying106 (by kernel_rfl)
structure RefD (w : World) (p : Nat) (vS vL : Value) (S : List Blk) (L : List (Int × Blk)) (g : Bool) : Prop where
  at_ : w.heap[p]? = some (.cells #[vS, vL, .bool g] 108)
  S_ : aK BlkE w 0 vS S
  L_ : aK LooE w 0 vL L
section
variable {w w' : World} {p : Nat} {vS vL : Value} {S : List Blk} {L : List (Int × Blk)} {g : Bool} {F : Nat → Prop}
theorem RefD.lt (h : RefD w p vS vL S L g) : ∀ k, foot p vS vL k → k < w.heap.size := by
  intro k hk
  rcases hk with rfl | hk | hk
  · exact (Array.getElem?_eq_some_iff.1 h.at_).1
  · exact h.S_.own_lt k hk
  · exact h.L_.own_lt k hk
theorem RefD.only (h : RefD w p vS vL S L g) (k : Only F w w') (hn : ∀ b, foot p vS vL b → ¬ F b) : RefD w' p vS vL S L g :=
  ⟨k.keep h.at_ (hn p (.inl rfl)), h.S_.only k fun b hb => hn b (.inr (.inl hb)), h.L_.only k fun b hb => hn b (.inr (.inr hb))⟩
end
set_option maxHeartbeats 1000000 in
theorem r_new_ok (k : Nat) (w : World) (h1 : 1 ≤ k) (h2 : k ≤ 512) :
    Calls Tryz.prog 31 #[.int .i64 k] w fun e w' => ∃ p vS, e = .returned (.tuple #[.pointer (some ⟨p, 0, none⟩), .int .i64 0]) ∧ RefD w' p vS (.slice none 0 0) (List.replicate k al) [] false ∧ Below w.heap.size w w' ∧ ∀ b, foot p vS (.slice none 0 0) b → w.heap.size ≤ b := by
  go_enter Tryz.func31, Tryz.ntmps31
  have HM := Lib.hid (heap_alloc_new w (.cells (madeCells (cel al).toArray (k * 64)) 38))
  have HB := Lib.hid ((Below.refl w.heap.size w).alloc (Nat.le_refl _) (.cells (madeCells (cel al).toArray (k * 64)) 38))
  have HSZ := Lib.hid (World.size_alloc w (.cells (madeCells (cel al).toArray (k * 64)) 38))
  go_wp2_with (first | (refine ah rfl (exec_make (n := k) rfl rfl rfl (by omega)) ?_))
  generalize w.alloc (.cells (madeCells (cel al).toArray (k * 64)) 38) = w1 at *
  go_ret2
  have hS : aK BlkE w1 0 (.slice (some ⟨w.heap.size, 0, none⟩) k k) (List.replicate k al) := aK.of_block (E := BlkE) HM.out (by rw [← flat_zeros]; rfl) (Nat.zero_le _) (by simp) (by unfold maxLen; omega)
  have hnw := heap_alloc_new w1 (.cells #[.slice (some ⟨w.heap.size, 0, none⟩) k k, .slice none 0 0, .bool false] 108)
  rw [HSZ.out] at hnw
  refine ⟨w.heap.size + 1, _, rfl, ⟨hnw, hS.below ((Below.refl _ _).alloc (Nat.le_refl _) _), aK.nil _ _⟩, HB.out.alloc HB.out.size _, fun b hb => ?_⟩
  rcases hb with rfl | hb | hb
  · omega
  · simp [Value.ownBlock] at hb; omega
  · simp [Value.ownBlock] at hb
theorem r_new_no (n : Int) (w : World) (h : ¬(1 ≤ n ∧ n ≤ 512)) :
    Calls Tryz.prog 31 #[.int .i64 n] w fun e w' => e = .returned (.tuple #[.pointer none, .int .i64 2]) ∧ w = w' := by
  have hor : n < 1 ∨ (1 ≤ n ∧ 512 < n) := by omega
  clear h
  rcases hor with h | ⟨h, h'⟩
  all_goals
    go_enter Tryz.func31, Tryz.ntmps31
    go_wp2
    go_ret2
    exact ⟨rfl, rfl⟩
def Rv (w : World) (F : Nat → Prop) (p : Nat) (S : List Blk) (L : List (Int × Blk)) (g : Bool) : Prop := ∃ vS vL, F = foot p vS vL ∧ RefD w p vS vL S L g ∧ Fit S L
section
variable {w w' : World} {F G : Nat → Prop} {p : Nat} {S : List Blk} {L : List (Int × Blk)} {g : Bool}
theorem Rv.lt (h : Rv w F p S L g) : ∀ b, F b → b < w.heap.size := by
  obtain ⟨vS, vL, rfl, h, _⟩ := h
  exact h.lt
theorem Rv.only (h : Rv w F p S L g) (k : Only G w w') (hn : ∀ b, F b → ¬ G b) : Rv w' F p S L g := by
  obtain ⟨vS, vL, rfl, h, hF⟩ := h
  exact ⟨vS, vL, rfl, h.only k hn, hF⟩
end
section
variable {w : World} {F : Nat → Prop} {p : Nat} {S : List Blk} {L : List (Int × Blk)} {g : Bool}
theorem rv_new (k : Nat) (w : World) (h1 : 1 ≤ k) (h2 : k ≤ 512) : Calls Tryz.prog 31 #[.int .i64 k] w fun e w' => ∃ p F, e = .returned (.tuple #[.pointer (some ⟨p, 0, none⟩), .int .i64 0]) ∧ Rv w' F p (List.replicate k al) [] false ∧ Below w.heap.size w w' ∧ ∀ b, F b → w.heap.size ≤ b := by
  refine (r_new_ok k w h1 h2).mono ?_
  rintro e w' ⟨p, vS, he, hr, hb, hf⟩
  exact ⟨p, _, he, ⟨vS, _, rfl, hr, Fit.nil _⟩, hb, hf⟩
end
def dh : BKind where
  K := ⟨Rv, Rv.lt, Rv.only⟩
  s := 82
  t := 85
  und := Tryz.underlying82
  info := by kernel_rfl
  o := 84
  cs := fun v left bX steps => #[v, .int .i64 left, .bool bX, .int .i64 steps]
  ne := by decide
theorem r4cells {w : World} {b : Nat} {t : TypeId} {x y z u : Value} (h : w.heap[b]? = some (.cells #[x, y, z, u] t (0, 0))) : w.cell? ⟨b, 0, none⟩ = some x ∧ w.cell? ⟨b, 1, none⟩ = some y ∧ w.cell? ⟨b, 2, none⟩ = some z ∧ w.cell? ⟨b, 3, none⟩ = some u := by
  refine ⟨?_, ?_, ?_, ?_⟩
  · rw [cell_of_row w b 0 _ t (0, 0) h]; rfl
  · rw [cell_of_row w b 1 _ t (0, 0) h]; rfl
  · rw [cell_of_row w b 2 _ t (0, 0) h]; rfl
  · rw [cell_of_row w b 3 _ t (0, 0) h]; rfl
theorem rv_cells {w : World} {F : Nat → Prop} {p : Nat} {S : List Blk} {L : List (Int × Blk)} {g : Bool} (h : Rv w F p S L g) : ∃ A c, w.cell? ⟨p, 0, none⟩ = some (.slice A S.length c) ∧ w.cell? ⟨p, 2, none⟩ = some (.bool g) := by
  obtain ⟨vS, vL, rfl, h, _⟩ := h
  obtain ⟨c0, c1, c2⟩ := cells3 h.at_
  obtain ⟨A, c, rfl, _, _⟩ := h.S_.form
  exact ⟨A, c, c0, c2⟩
section
variable {w w' : World} {p : Nat} {v : Value} {Fs : Nat → Nat → Prop} {ps : List Nat} {M : BenS}
theorem BenAt.rcells (h : BenAt dh w p v Fs ps M) : w.cell? ⟨p, 0, none⟩ = some v ∧ w.cell? ⟨p, 1, none⟩ = some (.int .i64 M.left) ∧ w.cell? ⟨p, 2, none⟩ = some (.bool M.bX) ∧ w.cell? ⟨p, 3, none⟩ = some (.int .i64 M.steps) := r4cells h.at_
theorem c_devices (h : BenAt dh w p v Fs ps M) :
    Calls Tryz.prog 37 #[.pointer (some ⟨p, 0, none⟩)] w fun e w' => e = .returned (.int .i64 (M.ds.length : Int)) ∧ w = w' := by
  obtain ⟨g, c, rfl, _, _⟩ := h.slice
  obtain ⟨c0, c1, c2, c3⟩ := h.rcells
  go_enter Tryz.func37, Tryz.ntmps37
  go_wp2
  go_ret
  exact ⟨rfl, rfl⟩
theorem c_has_no (h : BenAt dh w p v Fs ps M) {d : Int} (hd : ¬(0 ≤ d ∧ d < M.ds.length)) :
    Calls Tryz.prog 63 #[.pointer (some ⟨p, 0, none⟩), .int .i64 d] w fun e w' => e = .returned (.bool false) ∧ w = w' := by
  obtain ⟨g, c, rfl, _, _⟩ := h.slice
  obtain ⟨c0, c1, c2, c3⟩ := h.rcells
  clear h
  by_cases h0 : 0 ≤ d
  · have h1 : ¬(d < (M.ds.length : Int)) := by omega
    clear hd
    go_enter Tryz.func63, Tryz.ntmps63
    go_wp2
    go_ret
    exact ⟨rfl, rfl⟩
  · clear hd
    go_enter Tryz.func63, Tryz.ntmps63
    go_wp2
    go_ret
    exact ⟨rfl, rfl⟩
theorem c_has_ok (h : BenAt dh w p v Fs ps M) {k : Nat} (hk : k < M.ds.length) :
    Calls Tryz.prog 63 #[.pointer (some ⟨p, 0, none⟩), .int .i64 k] w fun e w' => e = .returned (.bool true) ∧ w = w' := by
  obtain ⟨g, c, rfl, _, _⟩ := h.slice
  obtain ⟨c0, c1, c2, c3⟩ := h.rcells
  clear h
  go_enter Tryz.func63, Tryz.ntmps63
  go_wp2
  go_ret
  exact ⟨rfl, rfl⟩
theorem c_sectors (d : Int) (h : BenAt dh w p v Fs ps M) :
    Calls Tryz.prog 38 #[.pointer (some ⟨p, 0, none⟩), .int .i64 d] w fun e w' => e = .returned (.int .i64 (seN6 M d)) ∧ w = w' := by
  rcases hasE_is M d with ⟨e, ho⟩ | ⟨e, k, rfl, hk⟩
  · have HS : Hid (seN6 M d = 0) := Lib.hid (by unfold seN6; rw [if_neg (by omega)])
    have HO := Lib.hid (c_has_no h ho)
    clear e h ho
    go_enter Tryz.func38, Tryz.ntmps38
    go_wp2_with fail
    refine HO.out.mono ?_
    rintro e w1 ⟨rfl, rfl⟩
    go_wp2_with fail
    go_ret
    exact ⟨cl HS.out.symm, rfl⟩
  · obtain ⟨x, hx⟩ : ∃ x, M.ds.getD k bp = x := ⟨_, rfl⟩
    have hat := h.devs.at_ k hk
    rw [hx] at hat
    have HS : Hid (seN6 M (k : Int) = (x.S.length : Int)) := Lib.hid (by unfold seN6; rw [if_pos e, M.dev_nat, hx])
    have HO := Lib.hid (c_has_ok h hk)
    obtain ⟨g, c, rfl, _, _⟩ := h.slice
    obtain ⟨c0, c1, c2, c3⟩ := h.rcells
    have ck := h.cell hk
    obtain ⟨AS, cS, d0, d2⟩ := rv_cells hat
    clear e h hat hx
    generalize ps.getD k 0 = q at *
    go_enter Tryz.func38, Tryz.ntmps38
    go_wp2_with fail
    refine HO.out.mono ?_
    rintro e w1 ⟨rfl, rfl⟩
    go_wp2_with fail
    go_ret
    exact ⟨cl HS.out.symm, rfl⟩
end
section
variable {w w' : World}
set_option maxHeartbeats 2000000 in
theorem c_new {A : Option Addr} {n c : Nat} {ks : List Int} (hl : RdE IntE w w.heap.size A n ks) (hnc : n ≤ c) (hc : c ≤ maxLen) :
    Calls Tryz.prog 15 #[.slice A n c] w (dc dh w ks) := by
  have hlen : ks.length = n := hl.1
  unfold maxLen at hc
  by_cases h1 : n < 1
  · have HN := Lib.hid (show ¬ newOk ks from fun h => by have := h.1; omega)
    have h0 : n = 0 := by omega
    subst h0
    clear hl hlen h1
    go_enter Tryz.func15, Tryz.ntmps15
    go_wp2
    go_ret2
    exact dc.no (Below.refl _ _) HN.out rfl
  by_cases h2 : 17 < n
  · have HN := Lib.hid (show ¬ newOk ks from fun h => by have := h.2.1; omega)
    have h1' : ¬((n : Int) < 1) := by omega
    have h2' : ((n : Int) > 17) := by omega
    clear hl hlen h1 h2
    go_enter Tryz.func15, Tryz.ntmps15
    go_wp2
    go_ret2
    exact dc.no (Below.refl _ _) HN.out rfl
  have h1' : ¬((n : Int) < 1) := by omega
  have h2' : ¬((n : Int) > 17) := by omega
  have h3' : ¬(17 < (n : Int)) := by omega
  have HL := Lib.hid hl
  have HLEN := Lib.hid hlen
  have HMK := Lib.hid (show Making dh w (w.alloc (.cells #[.slice none 0 0, .int .i64 0, .bool false, .int .i64 0] 84)) (.slice none 0 0) (fun _ _ => False) [] [] 0 false 0 from
    ⟨heap_alloc_new w _, aK.nil _ _, ⟨rfl, fun i hi => absurd hi (Nat.not_lt_zero i), fun i j hi => absurd hi (Nat.not_lt_zero i)⟩, fun i hi => absurd hi (Nat.not_lt_zero i), (Below.refl _ w).alloc (Nat.le_refl _) _⟩)
  clear hl hlen
  go_enter Tryz.func15, Tryz.ntmps15
  go_wp2_with fail
  generalize w.alloc (.cells #[.slice none 0 0, .int .i64 0, .bool false, .int .i64 0] 84) = w0 at *
  clear h1' h2' h3'
  go_loopw [5] (fun i wr => ∃ (j : Nat) (v : Value) (Fs : Nat → Nat → Prop) (ps : List Nat), j ≤ n ∧ i = .int .i64 j ∧ Making dh w wr v Fs ps ((ks.take j).map newD) 0 false 0 ∧ ∀ q, q < j → 1 ≤ ks.getD q 0 ∧ ks.getD q 0 ≤ 512) (fun i _ => n - (intOf i).toNat)
  case atStart => exact ⟨0, _, _, _, Nat.zero_le _, rfl, HMK.out, fun q hq => absurd hq (Nat.not_lt_zero q)⟩
  case round =>
    obtain ⟨j, v, Fs, ps, hj, rfl, hmk, hall⟩ := hrel
    have HALL := Lib.hid hall
    clear hall HMK
    by_cases hlt : j < n
    · have hlj : (j : Int) < (n : Int) := by omega
      obtain ⟨bA, oA, rfl, hbA, hcA⟩ := (HL.out.below hmk.below).int hlt
      have HM := Lib.hid hmk
      obtain ⟨AS, cS, rfl, hs1, hs2⟩ := hmk.row.form
      unfold maxLen at hs2
      have hpl : ps.length = j := by have := hmk.devs.len; rw [List.length_map, List.length_take] at this; have := HLEN.out; omega
      have HPL := Lib.hid hpl
      obtain ⟨z, hz⟩ : ∃ z, ks.getD j 0 = z := ⟨_, rfl⟩
      rw [hz] at hcA
      have HZ := Lib.hid hz
      clear hmk hz hpl
      by_cases hok : 1 ≤ z ∧ z ≤ 512
      · obtain ⟨k, rfl⟩ : ∃ k : Nat, z = k := ⟨z.toNat, by omega⟩
        have hk1 : 1 ≤ k := by omega
        have hk2 : k ≤ 512 := by omega
        clear hok
        go_wp2_with fail
        refine (rv_new k wr hk1 hk2).mono ?_
        rintro e w1 ⟨p', F', rfl, hd1, hb1, hF1⟩
        have hat1 := ao HM.out.at_ hb1
        obtain ⟨c0, c1, c2, c3⟩ := r4cells hat1
        have hrow1 := HM.out.row.below hb1
        have hrow2 := hrow1.below ((Below.refl _ w1).alloc (Nat.le_refl _) (.cells (dh.E.cel p').toArray dh.E.t))
        have HR := Lib.hid hrow2
        have HNEW := Lib.hid (rdE_new (E := dh.E) (l := [p']) w1 (dh.E.cel p').toArray dh.E.t (by rw [dd]; simp [bK]))
        have HSZ := Lib.hid (show w.heap.size ≤ (w1.alloc (.cells (dh.E.cel p').toArray dh.E.t)).heap.size by rw [World.size_alloc]; have := HM.out.below.size; have := hb1.size; omega)
        have HD1 := Lib.hid hd1
        have HB1 := Lib.hid hb1
        have HF1 := Lib.hid hF1
        have HAT := Lib.hid hat1
        have HPS := Lib.hid (show ps.length + 1 ≤ 34359738368 by have := HPL.out; omega)
        clear hd1 hb1 hF1 hat1 hrow1 hrow2
        have hal : w.heap.size < w1.heap.size := aH HAT.out
        go_wp2_with (first | (refine ah rfl (dO (E := dh.E) (a := p') rfl rfl rfl (by decide)) ?_) | (at_builtin; refine wpList_appE_own dh.E rfl _ _ rfl w.heap.size _ _ _ _ ps [p'] _ rfl rfl HR.out HNEW.out HSZ.out HPS.out ?_) | fail)
        intro v' w3 hm3 hg3 ho3
        have hxv : v'.ownBlock ≠ some w.heap.size := fun e => by
          rcases ho3 _ e with e' | e'
          · exact HM.out.row.not_at HM.out.at_ dh.ne e'
          · omega
        have HNX := Lib.hid (HM.out.next (fun _ _ => rfl) HB1.out HF1.out (d := newD k) HD1.out hm3 hg3 ho3)
        have hvx : (Value.slice AS ps.length cS).ownBlock ≠ some w.heap.size := HM.out.row.not_at HM.out.at_ dh.ne
        have hat3 : w3.heap[w.heap.size]? = some _ := (hg3.block w.heap.size (by rw [World.size_alloc]; omega) (fun e => hvx e.symm)).trans (aY HAT.out _)
        obtain ⟨AV, cV, rfl, _, _⟩ := hm3.form
        obtain ⟨d0, d1, d2, d3⟩ := r4cells hat3
        have f0 := frozen_of_row w3 w.heap.size 0 _ _ hat3
        clear hm3 hg3 ho3 hat3 c0 c1 c2 c3
        go_wp2_with fail
        go_roundw
        case rel =>
          refine ⟨j + 1, .slice AV (ps.length + 1) cV, upF Fs (List.map newD (List.take j ks)).length F', ps ++ [p'], by omega, by go_num, ?_, fun q hq => ?_⟩
          · rw [take_map_succ (by have := HLEN.out; omega), HZ.out]
            have h6 := HNX.out
            rw [show (ps ++ [p']).length = ps.length + 1 from by simp] at h6
            exact h6
          · by_cases e : q = j
            · subst e; rw [HZ.out]; omega
            · exact HALL.out q (by omega)
        case measure => simp [intOf]; omega
      · have HB := Lib.hid HM.out.below
        have HN := Lib.hid (show ¬ newOk ks from fun h => hok (by have := h.2.2 z (by rw [← HZ.out]; exact getD_mem (by have := HLEN.out; omega)); exact this))
        go_wp2_with fail
        refine (r_new_no z wr hok).mono ?_
        rintro e w1 ⟨rfl, rfl⟩
        have HB1 := Lib.hid HB.out
        clear hok
        go_wp2_with fail
        go_ret2
        exact dc.no HB1.out HN.out rfl
    · have hjn : j = n := by omega
      subst hjn
      have hlj : ¬((j : Int) < (j : Int)) := by omega
      have HM := Lib.hid hmk
      clear hmk
      go_wp2_with fail
      go_ret2
      have h5 := HM.out
      have hLL := HLEN.out
      rw [← hLL, List.take_length] at h5
      obtain ⟨g1, g2, g3⟩ := h5.done (by rw [List.length_map]; omega) (by rw [List.length_map]; omega)
      refine ⟨g3, .inl ⟨⟨by omega, by omega, fun k hk => ?_⟩, _, _, _, _, rfl, g1, g2⟩⟩
      obtain ⟨i, hi, rfl⟩ := List.getElem_of_mem hk
      have := HALL.out i (by omega)
      rwa [List.getD_eq_getElem?_getD, List.getElem?_eq_getElem hi] at this
end
def RB (w : World) (F : Nat → Prop) (p : Nat) (M : BenS) : Prop := InB dh w F p M ∧ M.Wf
theorem wf_new {ks : List Int} (h : newOk ks) : (dj ks).Wf := by
  refine ⟨by rw [dS, List.length_map]; exact h.1, by rw [dS, List.length_map]; exact h.2.1, fun i hi => ?_⟩
  rw [dS, List.length_map] at hi
  have : ((dj ks).ds.getD i bp) = newD (ks.getD i 0) := by
    rw [dS, List.getD, List.getD, List.getElem?_map, List.getElem?_eq_getElem hi]; rfl
  rw [this]
  have h2 := h.2.2 _ (getD_mem (x := 0) hi)
  show 1 ≤ (List.replicate _ _).length ∧ (List.replicate _ _).length ≤ 512
  rw [List.length_replicate]
  omega
structure BenQ where
  Bn : World → (Nat → Prop) → Nat → BenS → Prop
  lt : ∀ {w F p M}, Bn w F p M → ∀ b, F b → b < w.heap.size
  only : ∀ {w w' F G p M}, Bn w F p M → Only G w w' → (∀ b, F b → ¬ G b) → Bn w' F p M
  wf : ∀ {w F p M}, Bn w F p M → M.Wf
  devices : ∀ {w F p M}, Bn w F p M → Calls Tryz.prog 37 #[.pointer (some ⟨p, 0, none⟩)] w fun e w' => e = .returned (.int .i64 (M.ds.length : Int)) ∧ Below w.heap.size w w'
  cZ : ∀ {w F p M} (d : Int), Bn w F p M → Calls Tryz.prog 38 #[.pointer (some ⟨p, 0, none⟩), .int .i64 d] w fun e w' => e = .returned (.int .i64 (seN6 M d)) ∧ Below w.heap.size w w'
  new : ∀ {w A n c ks}, RdE IntE w w.heap.size A n ks → n ≤ c → c ≤ maxLen → Calls Tryz.prog 15 #[.slice A n c] w (NewB Bn w ks)
theorem BenQ.below (R : BenQ) {w w' : World} {F : Nat → Prop} {p : Nat} {M : BenS} (h : R.Bn w F p M) (k : Below w.heap.size w w') : R.Bn w' F p M := R.only h (Only.of_below (fun _ => False) k) fun _ _ e => e
def cm : BenQ where
  Bn := RB
  lt := fun h => h.1.lt
  only := fun h ho hn => ⟨h.1.only ho hn, h.2⟩
  wf := fun h => h.2
  devices := fun ⟨⟨_, _, _, _, h⟩, _⟩ => (c_devices h).mono fun e w' ⟨h1, h2⟩ => ⟨h1, by subst h2; exact Below.refl _ _⟩
  cZ := fun d ⟨⟨_, _, _, _, h⟩, _⟩ => (c_sectors d h).mono fun e w' ⟨h1, h2⟩ => ⟨h1, by subst h2; exact Below.refl _ _⟩
  new := fun h1 h2 h3 => (c_new h1 h2 h3).mono fun e w' h => by
    obtain ⟨g1, g | g⟩ := h
    · obtain ⟨g0, p, v, Fs, ps, g2, g3, g4⟩ := g
      exact ⟨g1, .inl ⟨g0, p, _, g2, ⟨⟨v, Fs, ps, rfl, g3⟩, wf_new g0⟩, g4⟩⟩
    · exact ⟨g1, .inr g⟩
section
variable {ρ : Operand → Value} {o : Oper} {x y : Operand} {w : World} {t : TypeId} {old cs : Array Value}
theorem exec_fillT (hz : (Tryz.prog.info? t).map (·.size) = some cs.size) (he : old.size = cs.size) (h1 : cs.toList.all Value.oneCell' = true) (ho : o.op = .store t x y) (hx : ρ x = .pointer (some ⟨w.heap.size, 0, none⟩)) (hy : ρ y = .agg cs) :
    (execOp ρ o).run Tryz.prog (w.alloc (.cells old t)) = .ok .skip (w.alloc (.cells cs t)) := by
  have h := run_storeAt_new (P := Tryz.prog) w t old cs hz he (by simpa using h1)
  unfold execOp
  simp only [ho, hx, hy, Sem.run_bind, h, Result.andThen_ok, Sem.run_pure]
end
def arr (l : List UInt8) : Value := .agg (vals l).toArray
section
variable {ρ : Operand → Value} {o : Oper} {x y : Operand} {w : World} {b off : Nat} {t : TypeId} {cs ds : List Value} {d : TypeDesc}
theorem bP (hu : Tryz.prog.underlying t = some d) (hd : d.isRow = true) (hz : (Tryz.prog.info? t).map (·.size) = some cs.length) (ho : o.op = .load t x) (hx : ρ x = .pointer (some ⟨b, off, none⟩)) (hc : w.rangeAt b off cs) :
    (execOp ρ o).run Tryz.prog w = .ok (.value (.agg cs.toArray)) w := au ho hx (run_loadAt_mid w b off t cs d hc hu hd hz)
theorem bZ (ho : o.op = .box t x) (hx : ρ x = .agg cs.toArray) : (execOp ρ o).run Tryz.prog w = .ok (.value (.pointer (some ⟨w.heap.size, 0, none⟩))) (w.alloc (.cells cs.toArray t)) := by
  unfold execOp
  simp [ho, hx, Instr.box, newVar, newRow, Value.cells]
theorem run_zeroT {v : Value} (h : (Tryz.prog.info? t).map (fun i => i.zero) = some (some v)) (w : World) : (zeroValue t).run Tryz.prog w = .ok v w := by
  cases hq : Tryz.prog.info? t with
  | none => rw [hq] at h; cases h
  | some i =>
    rw [hq] at h
    simp only [Option.map_some, Option.some.injEq] at h
    simp [zeroValue, typeInfo, hq, h]
theorem dF (h : (Tryz.prog.info? t).map (fun i => i.zero) = some (some (.agg cs.toArray))) (ho : o.op = .alloc t) : (execOp ρ o).run Tryz.prog w = .ok (.value (.pointer (some ⟨w.heap.size, 0, none⟩))) (w.alloc (.cells cs.toArray t)) := by
  have hz := run_zeroT h w
  unfold execOp
  simp [ho, Instr.alloc, hz, newVar, newRow, Value.cells]
theorem exec_putT (hz : (Tryz.prog.info? t).map (·.size) = some cs.length) (h1 : ∀ v ∈ cs, v.oneCell' = true) (ho : o.op = .store t x y) (hx : ρ x = .pointer (some ⟨b, off, none⟩)) (hy : ρ y = .agg cs.toArray) (ht : w.there b off cs.length) :
    (execOp ρ o).run Tryz.prog w = .ok .skip (w.setCells b off cs) := by
  have h := run_storeAt_mid (P := Tryz.prog) w b off t cs.toArray (by simpa using ht) (by simpa using hz) (all_oneCell_toArray h1)
  refine exec_st ho hx hy ?_
  simpa using h
theorem exec_filT (hz : (Tryz.prog.info? t).map (·.size) = some cs.length) (he : ds.length = cs.length) (h1 : ∀ v ∈ cs, v.oneCell' = true) (ho : o.op = .store t x y) (hx : ρ x = .pointer (some ⟨w.heap.size, 0, none⟩)) (hy : ρ y = .agg cs.toArray) :
    (execOp ρ o).run Tryz.prog (w.alloc (.cells ds.toArray t)) = .ok .skip (w.alloc (.cells cs.toArray t)) :=
  exec_fillT (by simpa using hz) (by simpa using he) (by simpa using h1) ho hx hy
theorem exec_bld0 {v : Value} (ho : o.op = .build t #[]) (h : (Instr.build t #[]).run Tryz.prog w = .ok v w) : (execOp ρ o).run Tryz.prog w = .ok (.value v) w := by
  unfold execOp
  simp only [ho, List.map_toArray, List.map_nil, Sem.run_bind, h, Result.andThen_ok, Sem.run_pure]
theorem exec_eqT {r : TypeId} {xs ys : Array Value} {c : Bool} (hg : Tryz.prog.eqGuardType Tryz.prog.depth t = false) (he : (Op.equalIn 10000 t (.agg xs) (.agg ys)).run Tryz.prog w = .ok c w) (ho : o.op = .binOp .eql t x y r) (hx : ρ x = .agg xs) (hy : ρ y = .agg ys) :
    (execOp ρ o).run Tryz.prog w = .ok (.value (.bool c)) w := by
  have h := run_eql_struct (P := Tryz.prog) w t xs ys
  rw [he] at h
  unfold execOp
  simp only [ho, hx, hy, Sem.run_bind, run_eqGuard_agg w .eql t x y xs ys hg, Result.andThen_ok]
  rw [h]
  simp
theorem exec_neT {r : TypeId} {xs ys : Array Value} {c : Bool} (hg : Tryz.prog.eqGuardType Tryz.prog.depth t = false) (he : (Op.equalIn 10000 t (.agg xs) (.agg ys)).run Tryz.prog w = .ok c w) (ho : o.op = .binOp .neq t x y r) (hx : ρ x = .agg xs) (hy : ρ y = .agg ys) :
    (execOp ρ o).run Tryz.prog w = .ok (.value (.bool (!c))) w := by
  have h := run_neq_struct (P := Tryz.prog) w t xs ys
  rw [he] at h
  unfold execOp
  simp only [ho, hx, hy, Sem.run_bind, run_eqGuard_agg w .neq t x y xs ys hg, Result.andThen_ok]
  rw [h]
  simp
end
section
variable {ρ : Operand → Value} {o : Oper} {x y : Operand} {w : World} {t r : TypeId} {k : IntKind} {a b : Int}
theorem cK (c : Bool) (ho : o.op = .binOp .gtr t x y r) (hx : ρ x = .int k a) (hy : ρ y = .int k b) (h : decide (b < a) = c) : (execOp ρ o).run Tryz.prog w = .ok (.value (.bool c)) w := by
  unfold execOp
  simp [ho, hx, hy, eqGuard, binOp, Op.intCmp, h]
theorem bV (c : Bool) (ho : o.op = .binOp .geq t x y r) (hx : ρ x = .int k a) (hy : ρ y = .int k b) (h : decide (b ≤ a) = c) : (execOp ρ o).run Tryz.prog w = .ok (.value (.bool c)) w := by
  unfold execOp
  simp [ho, hx, hy, eqGuard, binOp, Op.intCmp, h]
theorem dA (c : Bool) (ho : o.op = .binOp .leq t x y r) (hx : ρ x = .int k a) (hy : ρ y = .int k b) (h : decide (a ≤ b) = c) : (execOp ρ o).run Tryz.prog w = .ok (.value (.bool c)) w := by
  unfold execOp
  simp [ho, hx, hy, eqGuard, binOp, Op.intCmp, h]
theorem bi (c : Bool) (ho : o.op = .binOp .lss t x y r) (hx : ρ x = .int k a) (hy : ρ y = .int k b) (h : decide (a < b) = c) : (execOp ρ o).run Tryz.prog w = .ok (.value (.bool c)) w := by
  unfold execOp
  simp [ho, hx, hy, eqGuard, binOp, Op.intCmp, h]
theorem ldU8 {ad : Addr} {n : Int} (h : w.cell? ad = some (.int .u8 n)) : (Instr.loadAt 5 (.pointer (some ad))).run Tryz.prog w = .ok (.int .u8 n) w := by simp [go_sem, h]
end
theorem bF {w : World} {ad : Addr} {k : Int} (h : w.cell? ad = some (.int .i64 k)) : (Instr.loadAt 3 (.pointer (some ad))).run Tryz.prog w = .ok (.int .i64 k) w := by simp [go_sem, h]
theorem ldU64 {w : World} {ad : Addr} {k : Int} (h : w.cell? ad = some (.int .u64 k)) : (Instr.loadAt 34 (.pointer (some ad))).run Tryz.prog w = .ok (.int .u64 k) w := by simp [go_sem, h]
theorem run_eqArr {t : TypeId} {n : Nat} (hu : Tryz.prog.underlying t = some (.array n 5)) (w : World) (a b : List UInt8) (ha : a.length = n) (hb : b.length = n) (d : Nat) : (Op.equalIn (d + 2) t (arr a) (arr b)).run Tryz.prog w = .ok (decide (a = b)) w := by
  have he : ∀ x y : Int, (Op.equalIn (d + 1) 5 (.int .u8 x) (.int .u8 y)).run Tryz.prog w = .ok (x == y) w := fun x y => run_equalIn_int w d 5 .u8 .u8 x y Tryz.underlying5
  have hp : ∀ (c : List UInt8) (i : Nat), i < c.length → (part 5 (vals c).toArray (i * 1)).run Tryz.prog w = .ok (.int .u8 (bt c i)) w := fun c i hi => by
    have := vals_at hi
    simp [part, this]
  show (Op.equalIn ((d + 1) + 1) t (arr a) (arr b)).run Tryz.prog w = .ok (decide (a = b)) w
  generalize d + 1 = e at *
  have key : ∀ (l : List Nat), (∀ i ∈ l, i < n) →
      ((forIn l ((none : Option Bool), ()) fun i r => do
        let x ← part 5 (vals a).toArray (i * 1)
        let y ← part 5 (vals b).toArray (i * 1)
        let z ← Op.equalIn e 5 x y
        if (!z) = true then pure (ForInStep.done (some false, ())) else pure (ForInStep.yield (none, ())) : Sem _)).run Tryz.prog w =
      .ok (if l.all (fun i => bt a i == bt b i) then (none, ()) else (some false, ())) w := by
    intro l
    induction l with
    | nil => intro _; simp
    | cons i l ih =>
      intro hl
      have hi := hl i (by simp)
      simp only [List.forIn_cons, Sem.run_bind, hp a i (by omega), hp b i (by omega), Result.andThen_ok, he]
      by_cases h : bt a i = bt b i
      · have hb : (bt a i == bt b i) = true := by simpa using h
        simp only [hb, Bool.not_true, Bool.false_eq_true, if_false, Sem.run_pure, Result.andThen_ok, List.all_cons, Bool.true_and]
        exact ih fun j hj => hl j (by simp [hj])
      · have hb : (bt a i == bt b i) = false := by simpa using h
        simp [hb]
  have hall : ((List.range' 0 n).all fun i => bt a i == bt b i) = decide (a = b) := by
    rw [Bool.eq_iff_iff, List.all_eq_true, decide_eq_true_iff]
    constructor
    · intro h
      exact eq_of_bt (by omega) fun j hj => by simpa using h j (by simp [List.mem_range']; omega)
    · rintro rfl i _
      simp
  have hk := key (List.range' 0 n) (fun i hi => by simp [List.mem_range'] at hi; omega)
  rw [hall] at hk
  simp only [Op.equalIn, arr, Sem.run_bind, run_underlying hu, Result.andThen_ok, Tryz.sizeOf5, Std.Legacy.Range.forIn_eq_forIn_range']
  simp only [Std.Legacy.Range.size, Nat.sub_zero, Nat.add_sub_cancel, Nat.div_one]
  rw [hk]
  by_cases h : a = b
  · simp [h]
  · simp [h]
theorem aT {w : World} {b : Nat} {t : TypeId} {cs : List Value} (h : w.heap[b]? = some (.cells cs.toArray t (0, 0))) : w.rangeAt b 0 cs := fun j v hj => by
  rw [cell_of_row w b (0 + j) _ t (0, 0) h, Nat.zero_add]
  simpa using hj
theorem dz {w : World} {b o k : Nat} {cs ds es fs : List Value} (h : w.rangeAt b o cs) (e : cs = ds ++ (es ++ fs)) (hk : ds.length = k) : w.rangeAt b (o + k) es := fun j v hj => by
  subst e hk
  have := h (ds.length + j) v (by
    rw [List.getElem?_append_right (by omega), Nat.add_sub_cancel_left, List.getElem?_append_left (List.getElem?_eq_some_iff.1 hj).1]
    exact hj)
  rwa [← Nat.add_assoc] at this
theorem cI {w : World} {b : Nat} {t : TypeId} {cs : List Value} (h : w.heap[b]? = some (.cells cs.toArray t (0, 0))) {o n : Nat} (hn : o + n ≤ cs.length) : w.there b o n := fun j hj => by
  rw [cell_of_row w b (o + j) _ t (0, 0) h, frozen_of_row w b (o + j) _ t h]
  exact ⟨by simp; omega, rfl⟩
theorem res_tri {fn : Func} {p q u : Tmp} {t : TypeId} {cs : List Value} {d : TypeDesc} (h : fn.results = #[.tmp p, .cell q t, .tmp u]) (tmps : Array Value) (w : World) (b : Nat) (hq : tmps.getD q undef = .pointer (some ⟨b, 0, none⟩)) (hr : w.rangeAt b 0 cs) (hu : Tryz.prog.underlying t = some d) (hd : d.isRow = true) (hz : (Tryz.prog.info? t).map (·.size) = some cs.length) :
    (results fn tmps).run Tryz.prog w = .ok (.tuple #[tmps.getD p undef, .agg cs.toArray, tmps.getD u undef]) w := by
  have hl : (loadVar t ⟨b, 0, none⟩).run Tryz.prog w = .ok (.agg cs.toArray) w := run_loadVar_mid (P := Tryz.prog) w b 0 t cs d hr hu hd hz
  have hq' : tmps[q]?.getD undef = .pointer (some ⟨b, 0, none⟩) := by simpa using hq
  simp [results, h, hq', asAddr, hl]
theorem res_rng {fn : Func} {p : Tmp} {t : TypeId} {cs : List Value} {d : TypeDesc} (h0 : fn.results = #[.cell p t]) (tmps : Array Value) (w : World) (b : Nat) (hp : tmps.getD p undef = .pointer (some ⟨b, 0, none⟩)) (hr : w.rangeAt b 0 cs) (hu : Tryz.prog.underlying t = some d) (hd : d.isRow = true) (hz : (Tryz.prog.info? t).map (·.size) = some cs.length) :
    (results fn tmps).run Tryz.prog w = .ok (.agg cs.toArray) w := by
  have hl : (loadVar t ⟨b, 0, none⟩).run Tryz.prog w = .ok (.agg cs.toArray) w := run_loadVar_mid (P := Tryz.prog) w b 0 t cs d hr hu hd hz
  have hp' : tmps[p]?.getD undef = .pointer (some ⟨b, 0, none⟩) := by simpa using hp
  simp [results, h0, hp', asAddr, hl]
theorem size_setCells (w : World) (b o : Nat) (vs : List Value) : (w.setCells b o vs).heap.size = w.heap.size := (cM b vs o w).1
theorem cell1 {w : World} {b : Nat} {t : TypeId} {x : Value} (h : w.heap[b]? = some (.cells #[x] t (0, 0))) : w.cell? ⟨b, 0, none⟩ = some x ∧ w.frozen? ⟨b, 0, none⟩ = false :=
  ⟨by rw [cell_of_row w b 0 _ t (0, 0) h]; rfl, frozen_of_row w b 0 _ t h⟩
theorem set1 {w : World} {b : Nat} {t : TypeId} {x : Value} (h : w.heap[b]? = some (.cells #[x] t (0, 0))) (y : Value) : (w.setCell ⟨b, 0, none⟩ y).heap[b]? = some (.cells #[y] t (0, 0)) := by
  have := heap_setCell_same w b 0 #[x] t y h
  simpa using this
theorem grown_set (w : World) (b o : Nat) (y : Value) : w.grownBy (w.setCell ⟨b, o, none⟩ y) (some b) :=
  ⟨rfl, rfl, rfl, by simp [World.setCell], fun k hk hne => heap_setCell_other w ⟨b, o, none⟩ k y (fun e => hne (by rw [e]))⟩
theorem br {w w' : World} {b k : Nat} {o : Obj} (h : w.heap[b]? = some o) (hg : w.grownBy w' (some k)) (hne : b ≠ k) : w'.heap[b]? = some o := (hg.block b (aH h) (fun e => hne (by injection e))).trans h
def celG (x : Ros) : List Value := [.int .i64 x.m, .int .i64 x.s, .int .i64 x.r]
def aE (x : Ros) : List Value := .int .i64 x.m :: .int .i64 x.s :: .int .i64 x.r :: (vals x.st.toList ++ [.int .i64 x.cur, .bool x.gone])
def ros (x : Ros) : Value := .agg (aE x).toArray
def geo (x : Ros) : Value := .agg (celG x).toArray
theorem aV (x : Ros) : (aE x).length = 21 := by simp [aE, aS]
theorem celR_one (x : Ros) : ∀ v ∈ aE x, v.oneCell' = true := by
  intro v hv
  simp only [aE, List.mem_cons, List.mem_append, List.not_mem_nil, or_false] at hv
  rcases hv with rfl | rfl | rfl | hv | rfl | rfl
  · rfl
  · rfl
  · rfl
  · exact vals_one _ v hv
  · rfl
  · rfl
theorem sizeR : (Tryz.prog.info? 32).map (·.size) = some 21 := by kernel_rfl
theorem sizeG : (Tryz.prog.info? 29).map (·.size) = some 3 := by kernel_rfl
theorem size16 : (Tryz.prog.info? 30).map (·.size) = some 16 := by kernel_rfl
theorem zeroR_info : (Tryz.prog.info? 32).map (fun i => i.zero) = some (some (ros bh)) := by kernel_rfl
theorem zero16_info : (Tryz.prog.info? 30).map (fun i => i.zero) = some (some (arr (List.replicate 16 0))) := by kernel_rfl
section
variable {ρ : Operand → Value} {o : Oper} {x y : Operand} {w : World} {b off : Nat}
theorem aQ {c : Ros} (ho : o.op = .load 32 x) (hx : ρ x = .pointer (some ⟨b, off, none⟩)) (hc : w.rangeAt b off (aE c)) : (execOp ρ o).run Tryz.prog w = .ok (.value (ros c)) w :=
  bP Tryz.underlying32 rfl (by rw [aV]; exact sizeR) ho hx hc
theorem cT {c : Ros} (ho : o.op = .load 29 x) (hx : ρ x = .pointer (some ⟨b, off, none⟩)) (hc : w.rangeAt b off (celG c)) : (execOp ρ o).run Tryz.prog w = .ok (.value (geo c)) w :=
  bP Tryz.underlying29 rfl sizeG ho hx hc
theorem cF {l : List UInt8} (hl : l.length = 16) (ho : o.op = .load 30 x) (hx : ρ x = .pointer (some ⟨b, off, none⟩)) (hc : w.rangeAt b off (vals l)) : (execOp ρ o).run Tryz.prog w = .ok (.value (arr l)) w :=
  bP Tryz.underlying30 rfl (by rw [aS, hl]; exact size16) ho hx hc
theorem aL {c : Ros} (ho : o.op = .box 32 x) (hx : ρ x = ros c) : (execOp ρ o).run Tryz.prog w = .ok (.value (.pointer (some ⟨w.heap.size, 0, none⟩))) (w.alloc (.cells (aE c).toArray 32)) := bZ ho hx
theorem bN (ho : o.op = .alloc 32) : (execOp ρ o).run Tryz.prog w = .ok (.value (.pointer (some ⟨w.heap.size, 0, none⟩))) (w.alloc (.cells (aE bh).toArray 32)) := dF zeroR_info ho
theorem exec_alloc16 (ho : o.op = .alloc 30) : (execOp ρ o).run Tryz.prog w = .ok (.value (.pointer (some ⟨w.heap.size, 0, none⟩))) (w.alloc (.cells (vals (List.replicate 16 0)).toArray 30)) := dF zero16_info ho
theorem exec_fillR {c d : Ros} (ho : o.op = .store 32 x y) (hx : ρ x = .pointer (some ⟨w.heap.size, 0, none⟩)) (hy : ρ y = ros c) : (execOp ρ o).run Tryz.prog (w.alloc (.cells (aE d).toArray 32)) = .ok .skip (w.alloc (.cells (aE c).toArray 32)) :=
  exec_filT (by rw [aV]; exact sizeR) (by rw [aV, aV]) (celR_one c) ho hx hy
end
theorem celR_eq (x : Ros) : aE x = celG x ++ (vals x.st.toList ++ [.int .i64 x.cur, .bool x.gone]) := rfl
theorem partR_0 (w : World) (x : Ros) : (part 29 (aE x).toArray 0).run Tryz.prog w = .ok (geo x) w := by
  simp [part, geo, aE, celG]
section
variable {ρ : Operand → Value} {o : Oper} {x y : Operand} {w : World} {t : TypeId}
theorem guard16 : Tryz.prog.eqGuardType Tryz.prog.depth 30 = false := by kernel_rfl
theorem exec_eq16 {a b : List UInt8} (c : Bool) (ha : a.length = 16) (hb : b.length = 16) (ho : o.op = .binOp .eql 30 x y t) (hx : ρ x = arr a) (hy : ρ y = arr b) (h : decide (a = b) = c) : (execOp ρ o).run Tryz.prog w = .ok (.value (.bool c)) w := by
  subst h; exact exec_eqT guard16 (run_eqArr Tryz.underlying30 w a b ha hb 9998) ho hx hy
theorem cP {l : List UInt8} {j : Nat} (hl : l.length = 16) (hj : j < 16) (ho : o.op = .index 30 x y) (hx : ρ x = arr l) (hy : ρ y = .int .i64 (j : Int)) : (execOp ρ o).run Tryz.prog w = .ok (.value (.int .u8 (bt l j))) w := by
  have hp : (part 5 (vals l).toArray (j * 1)).run Tryz.prog w = .ok (.int .u8 (bt l j)) w := by
    have := vals_at (l := l) (j := j) (by omega)
    simp [part, this]
  have h : (Instr.index 30 (arr l) (.int .i64 (j : Int))).run Tryz.prog w = .ok (.int .u8 (bt l j)) w := by
    have e : (0 ≤ (j : Int) ∧ (j : Int) < 16) := by omega
    unfold arr
    simp [Instr.index, asIntOf, run_underlying Tryz.underlying30, Tryz.sizeOf5, hj]
    simpa using hp
  unfold execOp
  simp only [ho, hx, hy, Sem.run_bind, h, Result.andThen_ok, Sem.run_pure]
end
def bf (w : World) (b : Nat) (x : Ros) : Prop := w.heap[b]? = some (.cells (aE x).toArray 32 (0, 0))
section
variable {w w' : World} {b : Nat} {x : Ros}
theorem bf.range (h : bf w b x) : w.rangeAt b 0 (aE x) := aT h
theorem bf.geo (h : bf w b x) : w.rangeAt b 0 (celG x) := dz (cs := aE x) (ds := []) (k := 0) h.range rfl rfl
theorem bf.sts (h : bf w b x) : w.rangeAt b 3 (vals x.st.toList) := by
  have := dz (k := 3) h.range (celR_eq x) rfl
  rwa [Nat.zero_add] at this
theorem bf.cells (h : bf w b x) : w.cell? ⟨b, 0, none⟩ = some (.int .i64 x.m) ∧ w.cell? ⟨b, 1, none⟩ = some (.int .i64 x.s) ∧ w.cell? ⟨b, 2, none⟩ = some (.int .i64 x.r) ∧ w.cell? ⟨b, 19, none⟩ = some (.int .i64 x.cur) ∧ w.cell? ⟨b, 20, none⟩ = some (.bool x.gone) := by
  have hr := dz (k := 19) (ds := celG x ++ vals x.st.toList) (es := [.int .i64 x.cur, .bool x.gone]) (fs := []) h.range (by simp [celR_eq]) (by simp [celG, aS])
  exact ⟨h.range 0 _ rfl, h.range 1 _ rfl, h.range 2 _ rfl, hr 0 _ rfl, hr 1 _ rfl⟩
theorem bf.sta (h : bf w b x) {j : Nat} (hj : j < 16) : w.cell? ⟨b, 3 + j, none⟩ = some (.int .u8 (sta x j)) := h.sts j _ (vals_at (by simpa using hj))
theorem bf.below {B : Nat} (h : bf w b x) (hB : b < B) (hb : Below B w w') : bf w' b x := blk_keep2 h hB hb
theorem bf.new (w : World) (x : Ros) : bf (w.alloc (.cells (aE x).toArray 32)) w.heap.size x := heap_alloc_new w _
theorem bf.past (h : bf w b x) (o : Obj) : bf (w.alloc o) b x := aY h o
theorem bf.rd (h : bf w b x) {m : Nat} (hm : m ≤ 16) : Rd w w.heap.size (some ⟨b, 3, none⟩) m (x.st.toList.take m) :=
  ⟨by simp; omega, fun k hk => ⟨b, 3, rfl, aH h, by
    rw [h.sta (j := k) (by omega)]
    unfold Proofs.YtheponmdbmloaaaGreatDoor.sta bt
    simp [List.getD, List.getElem?_take_of_lt hk]⟩⟩
end
theorem bW (w : World) (x : Ros) : bf (w.alloc (.cells (aE x).toArray 32)) w.heap.size x ∧ Below w.heap.size w (w.alloc (.cells (aE x).toArray 32)) ∧ w.heap.size < (w.alloc (.cells (aE x).toArray 32)).heap.size :=
  ⟨bf.new w x, (Below.refl w.heap.size w).alloc (Nat.le_refl _) _, by simp only [World.size_alloc]; omega⟩
section
variable {w : World} {b off : Nat}
theorem faR0 : (Instr.fieldAt 32 (.pointer (some ⟨b, 0, none⟩)) 0).run Tryz.prog w = .ok (.pointer (some ⟨b, 0, none⟩)) w := by kernel_rfl
theorem faR1 : (Instr.fieldAt 32 (.pointer (some ⟨b, 0, none⟩)) 1).run Tryz.prog w = .ok (.pointer (some ⟨b, 3, none⟩)) w := by kernel_rfl
theorem faG0 : (Instr.fieldAt 29 (.pointer (some ⟨b, 0, none⟩)) 0).run Tryz.prog w = .ok (.pointer (some ⟨b, 0, none⟩)) w := by kernel_rfl
theorem ix16 {g off j : Nat} (hj : j < 16) : (Instr.indexAt 30 (.pointer (some ⟨g, off, none⟩)) (.int .i64 (j : Int))).run Tryz.prog w = .ok (.pointer (some ⟨g, off + j, none⟩)) w := by
  have e : (0 ≤ (j : Int) ∧ (j : Int) < 16) := by omega
  simp [Instr.indexAt, Instr.sureAddr, asIntOf, run_underlying Tryz.underlying30, Tryz.sizeOf5, Addr.add_mid, e, hj]
theorem faR2 {b : Nat} : (Instr.fieldAt 32 (.pointer (some ⟨b, 0, none⟩)) 2).run Tryz.prog w = .ok (.pointer (some ⟨b, 19, none⟩)) w := by kernel_rfl
theorem faG1 {b : Nat} : (Instr.fieldAt 29 (.pointer (some ⟨b, 0, none⟩)) 1).run Tryz.prog w = .ok (.pointer (some ⟨b, 1, none⟩)) w := by kernel_rfl
end
theorem splice_vals (l x : List UInt8) (off : Nat) : splice (vals l) off (vals x) = vals (splice l off x) := by
  unfold splice vals
  simp [List.map_take, List.map_drop]
def bJ (w : World) (g : Nat) (t : TypeId) (l : List UInt8) : Prop := w.heap[g]? = some (.cells (vals l).toArray t (0, 0))
section
variable {w w' : World} {g : Nat} {t : TypeId} {l : List UInt8}
theorem bJ.lt (h : bJ w g t l) : g < w.heap.size := (Array.getElem?_eq_some_iff.1 h).1
theorem bJ.below {B : Nat} (h : bJ w g t l) (hB : g < B) (hb : Below B w w') : bJ w' g t l := (hb.block g hB).trans h
theorem bJ.grown {k : Nat} (h : bJ w g t l) (hk : g ≠ k) (hb : w.grownBy w' (some k)) : bJ w' g t l := (hb.block g h.lt (fun e => hk (by injection e))).trans h
theorem bJ.draw (h : bJ w g t l) : bJ w.drew g t l := h
theorem bJ.past (h : bJ w g t l) (o : Obj) : bJ (w.alloc o) g t l := aY h o
theorem bJ.cell (h : bJ w g t l) {j : Nat} (hj : j < l.length) : w.cell? ⟨g, j, none⟩ = some (.int .u8 (bt l j)) := by
  rw [cell_of_row w g j _ t (0, 0) h, List.getElem?_toArray, vals_at hj]
theorem bJ.rd (h : bJ w g t l) {p k : Nat} (hp : p + k ≤ l.length) : Rd w w.heap.size (some ⟨g, p, none⟩) k (piece l p k) :=
  ⟨cw hp, fun j hj => ⟨g, p, rfl, h.lt, by rw [h.cell (by omega), bt_piece hj]⟩⟩
theorem bJ.range (h : bJ w g t l) (hl : l.length = 64) : w.rangeAt g 0 (cel (ofL l)) := fun j v hj => by
  have hlt : j < 64 := by have := (List.getElem?_eq_some_iff.1 hj).1; rwa [aw] at this
  rw [Nat.zero_add, h.cell (by omega), ← hj, dq _ hlt, ofL_byt _ hlt]
theorem bJ.new (w : World) (l : List UInt8) (t : TypeId) : bJ (w.alloc (.cells (vals l).toArray t)) w.heap.size t l := heap_alloc_new w _
theorem bJ.blk (w : World) (b : Blk) (t : TypeId) : bJ (w.alloc (.cells (cel b).toArray t)) w.heap.size t b.toList := heap_alloc_new w _
theorem bJ.row (h : bJ w g t l) : w.rowIs g t l.length (fun j => .int .u8 (bt l j)) :=
  ⟨_, h, by simp [aS], fun j hj => by rw [List.getElem?_toArray, vals_at hj]⟩
end
theorem c8 {w : World} {ops : Array Oper} {rest : List Oper} {o : Oper} {a : Act} {Q : Exit → Act → World → Prop} (hgd : o.guard = none) (d s : Operand)
    (ho : o.op = .call { callee := .builtin .copy, args := #[d, s], argTypes := #[141, 141] }) (g off n c m c' N : Nat) (A : Option Addr) (t : TypeId) (l x : List UInt8)
    (hd : a.eval d = .slice (some ⟨g, off, none⟩) n c) (hs : a.eval s = .slice A m c') (hS : bJ w g t l) (hr : Rd w N A m x) (hmn : m ≤ n) (hfit : off + m ≤ l.length)
    (h : ∀ w', bJ w' g t (splice l off x) → w.grownBy w' (some g) → wpList Tryz.prog ops Q rest (a.put o.dst (goInt m)) w') : wpList Tryz.prog ops Q (o :: rest) a w := by
  have hx := hr.1
  rcases A with _ | ad
  · have h0 : m = 0 := by
      rcases Nat.eq_zero_or_pos m with h | h
      · exact h
      · obtain ⟨b, off, e, _⟩ := hr.2 0 h
        cases e
    subst h0
    obtain rfl : x = [] := List.eq_nil_of_length_eq_zero hx
    refine wpList_copy_nothing hgd d s _ _ ho 5 Tryz.underlying141 (by kernel_rfl) _ _ _ _ _ _ hd hs (Nat.zero_min _) ?_
    exact h w (by simpa [splice] using hS) (World.grownBy.refl w _)
  · have hcl : (vals x).length = m := by rw [aS, hx]
    refine wpList_copy_own hgd d s _ _ ho 5 Tryz.underlying141 (by kernel_rfl) g off n c ad m c' hd hs _ t hS (vals x) (by rw [hcl]; exact (Nat.min_eq_left hmn).symm) (fun j v hj => ?_) (by simp [hcl, aS]; omega) (vals_one x) ?_
    · have hlt : j < m := by have := (List.getElem?_eq_some_iff.1 hj).1; omega
      obtain ⟨b, o2, e, _, hc⟩ := hr.2 j hlt
      injection e with e
      subst e
      rw [Addr.add_mid, hc, ← hj, vals_at (by omega)]
    · have hrow := setRow_heap w g (vals l).toArray ((vals l).toArray.toList.take off ++ (vals x ++ (vals l).toArray.toList.drop (off + (vals x).length))).toArray t (0, 0) hS
      have e : (vals l).toArray.toList.take off ++ (vals x ++ (vals l).toArray.toList.drop (off + (vals x).length)) = vals (splice l off x) := by
        rw [← splice_vals]
        rfl
      rw [hcl]
      rw [hcl] at hrow e
      refine h _ ?_ ⟨rfl, rfl, rfl, by simp [World.setRow], fun k hk hne => setRow_other w g k _ (fun e => hne (by rw [e]))⟩
      unfold bJ
      rw [e] at hrow ⊢
      exact hrow
theorem max_u32 : IntKind.u32.max = 4294967295 := by decide
theorem neg_bits (r : Nat) (h : r < 4294967296) : bits .xor .u32 IntKind.u32.max (r : Int) = ((neg r : Nat) : Int) := by
  rw [max_u32]
  exact u32_xor_nat 4294967295 r (by omega) h
theorem run_snoc (r : Nat) (l : List UInt8) {k : Nat} (h : k < l.length) : tak (run r (l.take k)) l[k].toNat = run r (l.take (k + 1)) := by
  rw [List.take_succ_eq_append_getElem h, run_append]
  rfl
set_option maxHeartbeats 400000 in
theorem more_any (s : Nat) (A : Option Addr) (n c N : Nat) (b : List UInt8) (w : World) (T : Tab w) (hs : s < 4294967296) (hb : Rd w N A n b) (hn : n ≤ maxLen) :
    Calls Tryz.prog 114 #[.int .u32 s, .slice A n c] w fun e w' => e = .returned (.int .u32 (more s b)) ∧ w = w' := by
  have hnb := neg_bits s hs
  have hnl := neg_lt hs
  have hlen := hb.1
  unfold maxLen at hn
  have HL := Lib.hid hlen
  clear hlen
  go_enter Tryz.func114, Tryz.ntmps114
  go_wp2
  clear hnb
  have HM : Hid (more s b = neg (run (neg s) b)) := Lib.hid rfl
  generalize neg s = r0 at *
  go_loop [5, 12] (fun x i => ∃ j : Nat, j ≤ n ∧ i = .int .i64 j ∧ x = .int .u32 (run r0 (b.take j))) (fun _ i => n - (intOf i).toNat)
  case atStart => exact ⟨0, by omega, rfl, rfl⟩
  case round =>
    obtain ⟨j, hj, rfl, rfl⟩ := hrel
    by_cases hlt : j < n
    · obtain ⟨bA, oA, rfl, hA, cA⟩ := hb.2 j hlt
      have hjl : j < b.length := by have := HL.out; omega
      rw [cQ hjl] at cA
      have HS := Lib.hid (run_snoc r0 b hjl)
      have hu := UInt8.toNat_lt b[j]
      generalize b[j].toNat = u at *
      have hrl := run_lt hnl (b.take j)
      go_wp2_with fail
      refine (take_any (run r0 (b.take j)) u _ T hrl hu).mono ?_
      rintro e w' ⟨rfl, rfl⟩
      go_wp2
      go_round
      case rel => exact ⟨j + 1, by omega, by go_num, by rw [HS.out]⟩
      case measure => simp [intOf]; omega
    · have h : j = n := by omega
      subst h
      have ht : b.take j = b := List.take_of_length_le (Nat.le_of_eq HL.out)
      rw [ht]
      have hrl := run_lt hnl b
      have hnb := neg_bits (run r0 b) hrl
      clear ht
      go_wp2
      go_ret
      exact ⟨cl (by first | rw [HM.out] | rw [HM.out, hnb]), rfl⟩
theorem of_any (A : Option Addr) (n c N : Nat) (b : List UInt8) (w : World) (T : Tab w) (hb : Rd w N A n b) (hn : n ≤ maxLen) :
    Calls Tryz.prog 103 #[.slice A n c] w fun e w' => e = .returned (.int .u32 (more 0 b)) ∧ w = w' := by
  go_enter Tryz.func103, Tryz.ntmps103
  go_wp2_with fail
  refine (more_any 0 A n c N b _ T (by omega) hb hn).mono ?_
  rintro e w' ⟨rfl, rfl⟩
  go_wp2
  go_ret
  exact ⟨rfl, rfl⟩
end Go.Proofs.YtheponmdbmloaaaGreatDoor
