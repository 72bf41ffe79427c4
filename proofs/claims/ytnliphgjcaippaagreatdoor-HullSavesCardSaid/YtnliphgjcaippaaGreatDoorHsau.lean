import Derived.Test.YtnliphgjcaippaaGreatDoorHsaf
import Derived.Test.YtnliphgjcaippaaGreatDoorHsat
import Derived.Test.YtnliphgjcaippaaGreatDoorHsaa
import Derived.Test.YtnliphgjcaippaaGreatDoorHsap
import Derived.Test.YtnliphgjcaippaaGreatDoorHsan
import Derived.Test.YtnliphgjcaippaaGreatDoorHsaq
import Derived.Test.YtnliphgjcaippaaGreatDoorHsam
import Derived.Laws.EntriesVeiled
import Derived.Test.YtnliphgjcaippaaGreatDoorHsab
import Derived.Deep.DeepCutAuto
import Derived.OrdersHeld
import Derived.Test.YtnliphgjcaippaaGreatDoorHsZ
namespace Go.Proofs.YtnliphgjcaippaaGreatDoor
open Go.RowKit
set_option linter.unusedVariables false
set_option maxRecDepth 100000
section
variable {id ev : Nat} {R : Ros} {M : BenS} {k m : Nat} {h : HuS} {d : Int}
theorem cP {n : Nat} (h : Room M n) (hm : m ≤ n) : Room M m := ⟨by have := h.1; omega, h.2.1, fun d hd => by have := h.2.2 d hd; omega⟩
theorem rm_stp (h : Room M (k + 1)) (s : Stp) : Room (stpS d M s) k := by
  cases s with
  | wr n b => exact room_wr h d n b
  | fl => exact room_fl h d
theorem rm_go (l : List Stp) : ∀ {M : BenS}, Room M (k + l.length) → Room (goB d M l) k := by
  induction l with
  | nil => intro M h; exact h
  | cons s l ih =>
    intro M h
    rw [List.length_cons] at h
    have h1 := rm_stp (d := d) (k := k + l.length) h s
    rw [goB]
    split
    · exact ih h1
    · exact cP h1 (by omega)
theorem rm_put (h : Room M (k + 2)) : Room (cI id ev R M m) k := by
  unfold cI
  split
  · exact rm_go _ h
  · exact cP h (by omega)
theorem rm_once : ∀ (n m : Nat) (M : BenS), Room M (k + 2 * n) → Room (cm id ev R n m M).2.2 k
  | 0, m, M, h => h
  | n + 1, m, M, h => by
    have h1 : Room (cI id ev R M m) (k + 2 * n) := rm_put (cP h (by omega))
    rw [cm]
    split
    · exact rm_once n (m + 1) M (cP h (by omega))
    · split
      · exact cP h1 (by omega)
      · split
        · exact rm_once n (m + 1) _ h1
        · exact cP h1 (by omega)
theorem fine_m (hf : aS R = true) : R.m.toNat ≤ 16 := by
  unfold aS at hf
  simp only [Bool.and_eq_true] at hf
  have := dD hf.1.1.1
  omega
end
def outJ (R : Ros) (j : Nat) : Bool := decide (sta R j ≠ 1)
structure OnS (h0 : HuS) (f : Nat) (h : HuS) : Prop where
  same : saveK f h = saveK 17 h0
  pot : potK (outJ h.R) h.R.m.toNat < f
  fine : aS h.R = true
  id : h.id = h0.id
  m : h.R.m = h0.R.m
  ev : h.ev + f ≤ h0.ev + 17
  rm : Room h.M (34 * f)
theorem OnS.start {h : HuS} (hf : aS h.R = true) (hr : Room h.M 600) : OnS h 17 h :=
  ⟨rfl, by have := potK_le (outJ h.R) h.R.m.toNat; have := fine_m hf; omega, hf, rfl, rfl, Nat.le_refl _, cP hr (by omega)⟩
section
variable {h0 h : HuS} {f m : Nat} {e : Int} {M' : BenS}
theorem OnS.pos (k : OnS h0 f h) : ∃ f', f = f' + 1 := ⟨f - 1, by have := k.pot; omega⟩
theorem OnS.fin (k : OnS h0 f h) (ho : cm h.id (h.ev + 1) h.R h.R.m.toNat 0 h.M = (none, e, M')) : savE h0 = e ∧ savS h0 = ⟨M', h.id, h.ev + 1, h.R⟩ := by
  obtain ⟨f', rfl⟩ := k.pos
  have := k.same
  rw [saveK] at this
  simp only [ho] at this
  unfold savE savS
  rw [← this]
  exact ⟨rfl, rfl⟩
theorem onceK_some {id ev : Nat} {R : Ros} : ∀ (k m : Nat) (M : BenS) {d : Nat} {e : Int} {M' : BenS}, cm id ev R k m M = (some d, e, M') → m ≤ d ∧ d < m + k ∧ sta R d ≠ 1
  | 0, m, M, d, e, M', h => by rw [cm] at h; cases h
  | k + 1, m, M, d, e, M', h => by
    rw [cm] at h
    split at h
    · obtain ⟨h1, h2, h3⟩ := onceK_some k (m + 1) M h
      exact ⟨by omega, by omega, h3⟩
    · rename_i hs
      split at h
      · cases h
        exact ⟨Nat.le_refl _, by omega, hs⟩
      · split at h
        · obtain ⟨h1, h2, h3⟩ := onceK_some k (m + 1) _ h
          exact ⟨by omega, by omega, h3⟩
        · cases h
theorem OnS.go (k : OnS h0 f h) {d : Nat} (ho : cm h.id (h.ev + 1) h.R h.R.m.toNat 0 h.M = (some d, e, M')) : ∃ f', f = f' + 1 ∧ OnS h0 f' ⟨M', h.id, h.ev + 1, losX h.R d⟩ := by
  obtain ⟨f', rfl⟩ := k.pos
  obtain ⟨_, hd, hs⟩ := onceK_some _ _ _ ho
  have hl := los_sta k.fine (d := d) (by omega) hs
  refine ⟨f', rfl, ?_⟩
  have hq : outJ h.R d = true := decide_eq_true hs
  have hq' : outJ (losX h.R d) d = false := by unfold outJ; rw [hl.2 d, if_pos rfl]; rfl
  have hsub : ∀ j, outJ (losX h.R d) j = true → outJ h.R j = true := fun j hj => by
    unfold outJ at hj ⊢
    rw [hl.2 j] at hj
    by_cases e : j = d
    · rw [if_pos e] at hj; simp at hj
    · rwa [if_neg e] at hj
  have hlt := potK_lt hsub hq hq' (n := h.R.m.toNat) (by omega)
  have hr : Room M' (34 * f') := by
    have hm := fine_m k.fine
    have h1 := rm_once (k := 34 * f' + 2) (id := h.id) (ev := h.ev + 1) (R := h.R) h.R.m.toNat 0 h.M (cP k.rm (by omega))
    rw [ho] at h1
    exact cP h1 (by omega)
  refine ⟨?_, ?_, fine_los _ k.fine, k.id, hl.1.trans k.m, by have := k.ev; show h.ev + 1 + f' ≤ _; omega, hr⟩
  · have := k.same
    rw [saveK] at this
    simp only [ho] at this
    exact this
  · show potK (outJ (losX h.R d)) (losX h.R d).m.toNat < f'
    rw [hl.1]
    have := k.pot
    omega
theorem onceK_step {id ev : Nat} {R : Ros} {k m : Nat} {M : BenS} (hs : sta R m ≠ 1) (he : cJ id ev R M m = 0) : cm id ev R (k + 1) m M = cm id ev R k (m + 1) (cI id ev R M m) := by
  rw [cm, if_neg hs, if_neg (by rw [he]; decide), if_pos he]
theorem onceK_skip {id ev : Nat} {R : Ros} {k m : Nat} {M : BenS} (hs : sta R m = 1) : cm id ev R (k + 1) m M = cm id ev R k (m + 1) M := by rw [cm, if_pos hs]
theorem onceK_dead {id ev : Nat} {R : Ros} {k m : Nat} {M : BenS} (hs : sta R m ≠ 1) (he : cJ id ev R M m = 9) : cm id ev R (k + 1) m M = (some m, 0, cI id ev R M m) := by rw [cm, if_neg hs, if_pos he]
theorem onceK_err {id ev : Nat} {R : Ros} {k m : Nat} {M : BenS} (hs : sta R m ≠ 1) (h0 : cJ id ev R M m ≠ 0) (h9 : cJ id ev R M m ≠ 9) : cm id ev R (k + 1) m M = (none, cJ id ev R M m, cI id ev R M m) := by rw [cm, if_neg hs, if_neg h9, if_neg h0]
end
set_option linter.unusedSimpArgs false
theorem pslot_b (a b : Blk) (k : Nat) (w : World) (T : Tab w) (h : sloT a b = k) : Calls Tryz.prog 116 #[blk a, blk b] w fun e w' => e = .returned (.int .i64 (k : Nat)) ∧ Below w.heap.size w w' := by
  subst h
  exact pslot a b w T
structure HpS where
  id : Nat
  ev : Nat
  us : Nat
  R : Ros
def phC (qa : Option Addr) (x : HpS) : List Value := .pointer qa :: .int .u64 (x.id : Int) :: .int .u64 (x.ev : Int) :: (aH x.R ++ [.int .u64 (x.us : Int)])
theorem phC_len (qa : Option Addr) (x : HpS) : (phC qa x).length = 25 := by simp [phC, bc]
def PHo (w : World) (p : Nat) (qa : Option Addr) (x : HpS) : Prop := w.heap[p]? = some (.cells (phC qa x).toArray 70 (0, 0))
abbrev PHu (w : World) (p q : Nat) (x : HpS) : Prop := PHo w p (some ⟨q, 0, none⟩) x
section
variable {w w' : World} {p : Nat} {qa : Option Addr} {x : HpS} {G : Nat → Prop}
theorem PHo.only (h : PHo w p qa x) (ho : Only G w w') (hn : ¬ G p) : PHo w' p qa x := ho.keep h hn
theorem PHo.below (h : PHo w p qa x) (hb : Below w.heap.size w w') : PHo w' p qa x := am h hb
theorem PHo.lt (h : PHo w p qa x) : p < w.heap.size := aD h
theorem PHo.c0 (h : PHo w p qa x) : w.cell? ⟨p, 0, none⟩ = some (.pointer qa) := (a4 h) 0 _ rfl
theorem PHo.c1 (h : PHo w p qa x) : w.cell? ⟨p, 1, none⟩ = some (.int .u64 (x.id : Int)) := (a4 h) 1 _ rfl
theorem PHo.c2 (h : PHo w p qa x) : w.cell? ⟨p, 2, none⟩ = some (.int .u64 (x.ev : Int)) := (a4 h) 2 _ rfl
theorem PHo.c24 (h : PHo w p qa x) : w.cell? ⟨p, 24, none⟩ = some (.int .u64 (x.us : Int)) := (a4 h) 24 _ (by
  show (aH x.R ++ [_])[21]? = _
  rw [List.getElem?_append_right (by rw [bc]; exact Nat.le_refl _), bc]; rfl)
theorem PHo.ros (h : PHo w p qa x) : w.rangeAt p 3 (aH x.R) := by
  have := dN (k := 3) (ds := [.pointer qa, .int .u64 (x.id : Int), .int .u64 (x.ev : Int)]) (es := aH x.R) (fs := [.int .u64 (x.us : Int)]) (a4 h) (by simp [phC]) rfl
  rwa [Nat.zero_add] at this
theorem PHo.geo (h : PHo w p qa x) : w.rangeAt p 3 (cU x.R) := dN (cs := aH x.R) (ds := []) (k := 0) h.ros rfl rfl
theorem PHo.free_ (h : PHo w p qa x) (j : Nat) : w.frozen? ⟨p, j, none⟩ = false := frozen_of_row w p j _ _ h
theorem PHo.there (h : PHo w p qa x) {o n : Nat} (hn : o + n ≤ 25) : w.there p o n := ch h (by rw [phC_len]; exact hn)
theorem faHp0 : (Instr.fieldAt 70 (.pointer (some ⟨p, 0, none⟩)) 0).run Tryz.prog w = .ok (.pointer (some ⟨p, 0, none⟩)) w := by kernel_rfl
theorem faHp1 : (Instr.fieldAt 70 (.pointer (some ⟨p, 0, none⟩)) 1).run Tryz.prog w = .ok (.pointer (some ⟨p, 1, none⟩)) w := by kernel_rfl
theorem faHp2 : (Instr.fieldAt 70 (.pointer (some ⟨p, 0, none⟩)) 2).run Tryz.prog w = .ok (.pointer (some ⟨p, 2, none⟩)) w := by kernel_rfl
theorem faHp3 : (Instr.fieldAt 70 (.pointer (some ⟨p, 0, none⟩)) 3).run Tryz.prog w = .ok (.pointer (some ⟨p, 3, none⟩)) w := by kernel_rfl
theorem faHp4 : (Instr.fieldAt 70 (.pointer (some ⟨p, 0, none⟩)) 4).run Tryz.prog w = .ok (.pointer (some ⟨p, 24, none⟩)) w := by kernel_rfl
theorem faHr0 : (Instr.fieldAt 28 (.pointer (some ⟨p, 3, none⟩)) 0).run Tryz.prog w = .ok (.pointer (some ⟨p, 3, none⟩)) w := by kernel_rfl
theorem ldHb {ad : Addr} {a : Option Addr} (h : w.cell? ad = some (.pointer a)) : (Instr.loadAt 29 (.pointer (some ad))).run Tryz.prog w = .ok (.pointer a) w := by simp [go_sem, h]
theorem ldHp {ad : Addr} {a : Option Addr} (h : w.cell? ad = some (.pointer a)) : (Instr.loadAt 36 (.pointer (some ad))).run Tryz.prog w = .ok (.pointer a) w := by simp [go_sem, h]
theorem PHo.set {y : HpS} (h : PHo w p qa x) {j : Nat} {u : Value} (hy : (phC qa x).set j u = phC qa y) : PHo (w.setCell ⟨p, j, none⟩ u) p qa y := by
  have := heap_setCell_same w p j _ 70 u h
  rw [List.setIfInBounds_toArray, hy] at this
  exact this
theorem PHo.put (h : PHo w p qa x) (y : Ros) : PHo (w.setCells p 3 (aH y)) p qa { x with R := y } :=
  heap_put p 70 [.int .u64 (x.us : Int)] (aH y) (aH x.R) [.pointer qa, .int .u64 (x.id : Int), .int .u64 (x.ev : Int)] w (by rw [bc, bc]) h
theorem phC_ev (qa : Option Addr) (x : HpS) (e : Nat) : (phC qa x).set 2 (.int .u64 (e : Int)) = phC qa { x with ev := e } := rfl
theorem phC_us (qa : Option Addr) (x : HpS) (e : Nat) : (phC qa x).set 24 (.int .u64 (e : Int)) = phC qa { x with us := e } := by
  show _ :: _ :: _ :: (aH x.R ++ [_]).set 21 _ = _
  rw [List.set_append_right _ _ (by rw [bc]; exact Nat.le_refl _), bc]
  rfl
end
def HJ (w0 : World) (H K : Nat → Prop) (w : World) (p q : Nat) (M : BenS) (x : HpS) : Prop :=
  ∃ G, bf.Bn w G q M ∧ PHu w p q x ∧ ¬ G p ∧ Only H w0 w ∧ Grow w0 H (fun b => G b ∨ b = p) ∧ (∀ b, K b → ¬ G b ∧ b ≠ p ∧ b < w.heap.size) ∧ CrG w0 H
section
variable {w0 w w' : World} {H K K' : Nat → Prop} {p q : Nat} {M : BenS} {x y : HpS}
theorem HJ.hul (h : HJ w0 H K w p q M x) : PHu w p q x := by obtain ⟨_, _, h, _⟩ := h; exact h
theorem HJ.tab (h : HJ w0 H K w p q M x) : Tab w := by
  obtain ⟨_, _, _, _, h, _, _, hT⟩ := h
  intro i hi
  have := hT.t i hi
  exact (h.cell (p := ⟨0, i, none⟩) (lt_of_cell_ this) hT.off).trans this
theorem HJ.lt (h : HJ w0 H K w p q M x) {b : Nat} (hb : K b) : b < w.heap.size := by obtain ⟨_, _, _, _, _, _, h, _⟩ := h; exact (h b hb).2.2
theorem HJ.ne (h : HJ w0 H K w p q M x) {b : Nat} (hb : K b) : b ≠ p := by obtain ⟨_, _, _, _, _, _, h, _⟩ := h; exact (h b hb).2.1
theorem HJ.size (h : HJ w0 H K w p q M x) : w0.heap.size ≤ w.heap.size := by obtain ⟨_, _, _, _, h, _⟩ := h; exact h.size
theorem HJ.guard (h : HJ w0 H K w p q M x) (hb : Below w.heap.size w w') (hK : ∀ b, K' b → K b ∨ (w.heap.size ≤ b ∧ b < w'.heap.size)) : HJ w0 H K' w' p q M x := by
  obtain ⟨G, h1, h2, h3, h4, h5, h6, h7⟩ := h
  have hlt := bf.lt h1
  have hp := h2.lt
  have hs := hb.size
  refine ⟨G, bf.below h1 hb, h2.below hb, h3, h4.then_below hb, h5, fun b e => ?_, h7⟩
  rcases hK b e with e | ⟨e1, e2⟩
  · obtain ⟨g1, g2, g3⟩ := h6 b e
    exact ⟨g1, g2, by omega⟩
  · exact ⟨fun hg => by have := hlt b hg; omega, by omega, e2⟩
theorem HJ.below (h : HJ w0 H K w p q M x) (hb : Below w.heap.size w w') : HJ w0 H K w' p q M x := h.guard hb fun b e => .inl e
theorem HJ.drew (h : HJ w0 H K w p q M x) : HJ w0 H K w.drew p q M x := h.below (bd (Below.refl _ _))
theorem HJ.less (h : HJ w0 H K w p q M x) (hK : ∀ b, K' b → K b) : HJ w0 H K' w p q M x := h.guard (Below.refl _ _) fun b e => .inl (hK b e)
def up (K : Nat → Prop) (n m : Nat) : Nat → Prop := fun b => K b ∨ (n ≤ b ∧ b < m)
theorem HJ.up (h : HJ w0 H K w p q M x) (hb : Below w.heap.size w w') : HJ w0 H (Proofs.YtnliphgjcaippaaGreatDoor.up K w.heap.size w'.heap.size) w' p q M x := h.guard hb fun b e => e
theorem HJ.kept (h : HJ w0 H K w p q M x) (hb : Below w.heap.size w w') : bU K w w' := fun b e => hb.block b (h.lt e)
theorem HJ.turn {G G' : Nat → Prop} {M' : BenS} (h1 : bf.Bn w G q M) (h2 : PHu w p q x) (h3 : ¬ G p) (h4 : Only H w0 w) (h5 : Grow w0 H (fun b => G b ∨ b = p)) (h6 : ∀ b, K b → ¬ G b ∧ b ≠ p ∧ b < w.heap.size) (h7 : CrG w0 H)
    (k1 : bf.Bn w' G' q M') (k2 : Only G w w') (k3 : Grow w G G') : HJ w0 H K w' p q M' x ∧ bU K w w' := by
  have hs := k2.size
  have hs0 := h4.size
  have hp := h2.lt
  refine ⟨⟨G', k1, h2.only k2 h3, fun e => ?_, h4.trans k2 fun b e => h5 b (.inl e), fun b e => ?_, fun b e => ?_, h7⟩, fun b e => k2.block b (h6 b e).2.2 (h6 b e).1⟩
  · rcases k3 p e with e | e
    · exact h3 e
    · omega
  · rcases e with e | e
    · rcases k3 b e with e | e
      · exact h5 b (.inl e)
      · exact .inr (by omega)
    · exact h5 b (.inr e)
  · obtain ⟨g1, g2, g3⟩ := h6 b e
    refine ⟨fun hg => ?_, g2, by omega⟩
    rcases k3 b hg with e | e
    · exact g1 e
    · omega
theorem HJ.write (d n : Int) (b : Blk) (hr : Room M 1) (h : HJ w0 H K w p q M x) : Calls Tryz.prog 58 #[.pointer (some ⟨q, 0, none⟩), .int .i64 d, .int .i64 n, blk b] w fun e w' => e = .returned (.int .i64 (de M d n)) ∧ HJ w0 H K w' p q (wrS6 M d n b) x ∧ bU K w w' := by
  obtain ⟨G, h1, h2, h3, h4, h5, h6, h7⟩ := h
  exact (bf.write d n b hr h1).mono fun e w' ⟨k0, G', k1, k2, k3⟩ => ⟨k0, HJ.turn h1 h2 h3 h4 h5 h6 h7 k1 k2 k3⟩
theorem HJ.flush (d : Int) (hr : Room M 1) (h : HJ w0 H K w p q M x) : Calls Tryz.prog 69 #[.pointer (some ⟨q, 0, none⟩), .int .i64 d] w fun e w' => e = .returned (.int .i64 (flE6 M d)) ∧ HJ w0 H K w' p q (flS6 M d) x ∧ bU K w w' := by
  obtain ⟨G, h1, h2, h3, h4, h5, h6, h7⟩ := h
  exact (bf.flush d hr h1).mono fun e w' ⟨k0, G', k1, k2, k3⟩ => ⟨k0, HJ.turn h1 h2 h3 h4 h5 h6 h7 k1 k2 k3⟩
theorem HJ.read (d n : Int) (h : HJ w0 H K w p q M x) : Calls Tryz.prog 56 #[.pointer (some ⟨q, 0, none⟩), .int .i64 d, .int .i64 n] w fun e w' => e = .returned (.tuple #[blk (rdB6 M d n), .int .i64 (bL M d n)]) ∧ Below w.heap.size w w' := by
  obtain ⟨G, h1, _⟩ := h
  exact bf.read d n h1
theorem HJ.obj (h : HJ w0 H K w p q M x) (ho : Only (fun b => b = p) w w') (hp : PHu w' p q y) : HJ w0 H K w' p q M y ∧ bU K w w' := by
  obtain ⟨G, h1, h2, h3, h4, h5, h6, h7⟩ := h
  have hs := ho.size
  refine ⟨⟨G, bf.only h1 ho fun b hb e => h3 (e ▸ hb), hp, h3, h4.trans ho fun b e => h5 b (.inr e), h5, fun b e => ?_, h7⟩, fun b e => ho.block b (h6 b e).2.2 (h6 b e).2.1⟩
  obtain ⟨g1, g2, g3⟩ := h6 b e
  exact ⟨g1, g2, by omega⟩
theorem HJ.mine {g : Nat} (h : HJ w0 H K w p q M x) (hg : K g) (hg0 : w0.heap.size ≤ g) (ho : Only (fun b => b = g) w w') : HJ w0 H K w' p q M x := by
  obtain ⟨G, h1, h2, h3, h4, h5, h6, h7⟩ := h
  have hs := ho.size
  obtain ⟨g1, g2, g3⟩ := h6 g hg
  refine ⟨G, bf.only h1 ho fun b hb e => g1 (e ▸ hb), h2.only ho fun e => g2 e.symm, h3, h4.trans ho fun b e => .inr (by omega), h5, fun b e => ?_, h7⟩
  obtain ⟨g1, g2, g3⟩ := h6 b e
  exact ⟨g1, g2, by omega⟩
end
theorem bU.refl (K : Nat → Prop) (w : World) : bU K w w := fun _ _ => rfl
theorem bU.trans {K : Nat → Prop} {w1 w2 w3 : World} (h : bU K w1 w2) (k : bU K w2 w3) : bU K w1 w3 := fun b e => (k b e).trans (h b e)
theorem bU.less {K K' : Nat → Prop} {w1 w2 : World} (h : bU K w1 w2) (hK : ∀ b, K' b → K b) : bU K' w1 w2 := fun b e => h b (hK b e)
theorem bU.at_ {K : Nat → Prop} {w w' : World} {b : Nat} {o : Obj} (k : bU K w w') (hb : K b) (ho : w.heap[b]? = some o) : w'.heap[b]? = some o := (k b hb).trans ho
theorem bU.of_only {K : Nat → Prop} {w w' : World} {g : Nat} (ho : Only (fun b => b = g) w w') (hK : ∀ b, K b → b ≠ g ∧ b < w.heap.size) : bU K w w' := fun b e => ho.block b (hK b e).2 (hK b e).1
structure Fu where
  f : FuncId
  cap : List Value
  ok : ∀ (args : Array Value) (w : World), (callFunc f args).run Tryz.prog w = .ok (.enter f args) w
def Fu.val (s : Fu) : Value := .func (.func s.f) #[] s.cap.toArray
section
variable {ρ : Operand → Value} {o : Oper} {x y : Operand} {w : World} {s : Fu} {v : Value}
theorem ldFu1 {ad : Addr} (h : w.cell? ad = some s.val) : (Instr.loadAt 53 (.pointer (some ad))).run Tryz.prog w = .ok s.val w := by unfold Fu.val at *; simp [go_sem, h]
theorem exec_callU0 {a : Act} {ats : Array TypeId} (ho : o.op = .call { callee := .value x, args := #[], argTypes := ats }) (hx : a.eval x = s.val) : (execOp a.eval o).run Tryz.prog w = .ok (.enter s.f s.cap.toArray) w := by
  unfold Fu.val at hx
  unfold execOp
  simp [ho, resolve, Deferred.ofValue, invoke, hx, s.ok]
theorem exec_callU1 {a : Act} {ats : Array TypeId} (ho : o.op = .call { callee := .value x, args := #[y], argTypes := ats }) (hx : a.eval x = s.val) (hy : a.eval y = v) : (execOp a.eval o).run Tryz.prog w = .ok (.enter s.f (v :: s.cap).toArray) w := by
  unfold Fu.val at hx
  unfold execOp
  simp [ho, resolve, Deferred.ofValue, invoke, hx, hy, s.ok]
end
def geoV (m s r : Int) : Value := .agg #[.int .i64 m, .int .i64 s, .int .i64 r]
def dz (s m : Int) : Value := .agg #[.int .i64 s, .int .i64 m]
def may (m s r : Int) : Bool := decide (3 ≤ m ∧ m ≤ 16 ∧ 1 ≤ s ∧ s ≤ 64 ∧ 40 ≤ r ∧ r ≤ 256)
theorem may_iff {m s r : Int} : may m s r = true ↔ (3 ≤ m ∧ m ≤ 16 ∧ 1 ≤ s ∧ s ≤ 64 ∧ 40 ≤ r ∧ r ≤ 256) := by unfold may; rw [decide_eq_true_iff]
theorem may_not {m s r : Int} : may m s r = false ↔ ¬(3 ≤ m ∧ m ≤ 16 ∧ 1 ≤ s ∧ s ≤ 64 ∧ 40 ≤ r ∧ r ≤ 256) := by unfold may; rw [decide_eq_false_iff_not]
def has (s t : Int) : Bool := decide (0 ≤ t ∧ t < s)
theorem has_iff {s t : Int} : has s t = true ↔ (0 ≤ t ∧ t < s) := by unfold has; rw [decide_eq_true_iff]
theorem has_not {s t : Int} : has s t = false ↔ ¬(0 ≤ t ∧ t < s) := by unfold has; rw [decide_eq_false_iff_not]
set_option maxHeartbeats 1000000 in
theorem may_prog (m s r : Int) (w : World) : Calls Tryz.prog 76 #[geoV m s r] w fun e w' => e = .returned (.bool (may m s r)) ∧ Below w.heap.size w w' := by
  unfold geoV
  go_enter Tryz.func76, Tryz.ntmps76
  go_wp2
  all_goals
    go_ret
    refine ⟨aO ?_, (Below.refl _ _).alloc (Nat.le_refl _) _⟩
    first
      | (refine Eq.symm (may_not.2 ?_); omega)
      | (rw [Bool.eq_iff_iff, may_iff, decide_eq_true_iff]; omega)
theorem has_prog (m s r t : Int) (w : World) : Calls Tryz.prog 124 #[geoV m s r, .int .i64 t] w fun e w' => e = .returned (.bool (has s t)) ∧ Below w.heap.size w w' := by
  unfold geoV
  go_enter Tryz.func124, Tryz.ntmps124
  go_wp2
  all_goals
    go_ret
    refine ⟨aO ?_, (Below.refl _ _).alloc (Nat.le_refl _) _⟩
    first
      | (refine Eq.symm (has_not.2 ?_); omega)
      | (rw [Bool.eq_iff_iff, has_iff, decide_eq_true_iff]; omega)
theorem width_prog (M : Nat) (s r : Int) (w : World) (h3 : 3 ≤ M) (h16 : M ≤ 16) : Calls Tryz.prog 126 #[geoV M s r] w fun e w' => e = .returned (.int .i64 ((M - 1 : Nat) : Int)) ∧ Below w.heap.size w w' := by
  unfold geoV
  go_enter Tryz.func126, Tryz.ntmps126
  go_wp2
  go_ret
  exact ⟨bV (by omega), (Below.refl _ _).alloc (Nat.le_refl _) _⟩
def par (M T : Nat) : Nat := M - 1 - T % M
def dat (M T d : Nat) : Nat := (par M T + 1 + d) % M
section
variable {fn : Func} {p u : Tmp} {x y z : Int} {tmps : Array Value} {w : World} {b : Nat}
theorem load_place (h0 : w.cell? ⟨b, 0, none⟩ = some (.int .i64 x)) (h1 : w.cell? ⟨b, 1, none⟩ = some (.int .i64 y)) : (loadVar 68 ⟨b, 0, none⟩).run Tryz.prog w = .ok (dz x y) w := by
  simp [go_sem, loadVar, h0, h1, dz]
  done
end
section
variable {fn : Func} {p u : Tmp} {x y z : Int} {tmps : Array Value} {w : World} {b : Nat}
theorem res_place (h : fn.results = #[.cell p 68]) (hp : tmps.getD p undef = .pointer (some ⟨b, 0, none⟩)) (h0 : w.cell? ⟨b, 0, none⟩ = some (.int .i64 x)) (h1 : w.cell? ⟨b, 1, none⟩ = some (.int .i64 y)) :
    (results fn tmps).run Tryz.prog w = .ok (dz x y) w := by
  have hp' : tmps[p]?.getD undef = .pointer (some ⟨b, 0, none⟩) := by simpa using hp
  simp [results, h, hp', asAddr, load_place h0 h1]
end
theorem par_int {M : Nat} (T : Nat) (h3 : 3 ≤ M) : (M : Int) - 1 - (T : Int) % (M : Int) = ((par M T : Nat) : Int) := by
  have hlt : T % M < M := Nat.mod_lt _ (by omega)
  have e : (T : Int) % (M : Int) = ((T % M : Nat) : Int) := rfl
  rw [e]
  unfold par
  omega
theorem par_lt {M : Nat} (T : Nat) (h3 : 3 ≤ M) : par M T < M := by unfold par; omega
section
variable {w : World} {a : Addr} {b : Nat} {m s r : Int}
theorem faPm0 : (Instr.fieldAt 68 (.pointer (some ⟨b, 0, none⟩)) 0).run Tryz.prog w = .ok (.pointer (some ⟨b, 0, none⟩)) w := by kernel_rfl
theorem faPm1 : (Instr.fieldAt 68 (.pointer (some ⟨b, 0, none⟩)) 1).run Tryz.prog w = .ok (.pointer (some ⟨b, 1, none⟩)) w := by kernel_rfl
theorem ldIg {k : IntKind} {x : Int} (h : w.cell? a = some (.int k x)) : (Instr.loadAt 3 (.pointer (some a))).run Tryz.prog w = .ok (.int k x) w := by
  simp [go_sem, h]
theorem ldGg (h0 : w.cell? ⟨b, 0, none⟩ = some (.int .i64 m)) (h1 : w.cell? ⟨b, 1, none⟩ = some (.int .i64 s)) (h2 : w.cell? ⟨b, 2, none⟩ = some (.int .i64 r)) : (Instr.loadAt 25 (.pointer (some ⟨b, 0, none⟩))).run Tryz.prog w = .ok (geoV m s r) w := by
  simp [go_sem, h0, h1, h2, geoV]
end
theorem par_prog (M T : Nat) (s r : Int) (w : World) (h3 : 3 ≤ M) (h16 : M ≤ 16) (ht : T ≤ 64) : Calls Tryz.prog 125 #[geoV M s r, .int .i64 T] w fun e w' => e = .returned (dz T (par M T)) ∧ Below w.heap.size w w' := by
  have hne : (M : Int) ≠ 0 := by omega
  unfold geoV
  go_enter Tryz.func125, Tryz.ntmps125
  go_wp2
  go_region
  go_wp2
  refine bodyPost_ret (res_place (b := w.heap.size + 1) (x := T) (y := par M T) rfl rfl (by go_simp) (by go_simp; rw [par_int T h3]; exact wrap64_nat (by have := par_lt T h3; omega))) rfl ⟨rfl, ?_⟩
  exact bd (((Below.refl _ _).alloc (Nat.le_refl _) _).alloc (by go_simp) _)
theorem mul_nat {M S : Nat} (h3 : 3 ≤ M) (h16 : M ≤ 16) (h64 : S ≤ 64) : IntKind.i64.wrap ((S : Int) * ((M - 1 : Nat) : Int)) = ((S * (M - 1) : Nat) : Int) := by
  have h := Nat.mul_le_mul h64 (show M - 1 ≤ 15 by omega)
  rw [← Int.natCast_mul]
  exact IntWalk.i64_in _ (by omega)
theorem nat_geo {m s r : Int} (h : may m s r = true) : ∃ M S : Nat, m = M ∧ s = S ∧ 3 ≤ M ∧ M ≤ 16 ∧ 1 ≤ S ∧ S ≤ 64 := by
  have := may_iff.1 h
  exact ⟨m.toNat, s.toNat, by omega, by omega, by omega, by omega, by omega, by omega⟩
def secN (t : Int) : Int := if has 64 t = true then 2 + t else 0
def secE (t : Int) : Int := if has 64 t = true then 0 else 12
theorem sector_prog (t : Int) (w : World) : Calls Tryz.prog 61 #[.int .i64 t] w fun e w' => e = .returned (.tuple #[.int .i64 (secN t), .int .i64 (secE t)]) ∧ Below w.heap.size w w' := by
  go_enter Tryz.func61, Tryz.ntmps61
  go_wp2
  all_goals
    go_ret2
    refine ⟨ret_ints ?_ ?_, Below.refl _ _⟩
    all_goals
      first
      | unfold secN
      | unfold secE
      first
      | rw [if_pos (has_iff.2 (by omega))]
      | rw [if_neg (by rw [has_iff]; omega)]
section
variable {M T d m : Nat}
theorem mod2 {x M : Nat} (h : x < 2 * M) : x % M = if x < M then x else x - M := by
  split
  · exact Nat.mod_eq_of_lt (by assumption)
  · rw [Nat.mod_eq_sub_mod (by omega), Nat.mod_eq_of_lt (by omega)]
def nth (M T m : Nat) : Nat := (m + M - par M T - 1) % M
theorem dat_eq (h3 : 3 ≤ M) (hd : d < M - 1) : dat M T d = if par M T + 1 + d < M then par M T + 1 + d else par M T + 1 + d - M := mod2 (by have := par_lt T h3; omega)
theorem nth_eq (h3 : 3 ≤ M) (hm : m < M) : nth M T m = if par M T < m then m - par M T - 1 else m + M - par M T - 1 := by
  unfold nth
  have := par_lt T h3
  rw [mod2 (by omega)]
  split <;> split <;> omega
theorem dat_nth (h3 : 3 ≤ M) (hm : m < M) (hne : m ≠ par M T) : nth M T m < M - 1 ∧ dat M T (nth M T m) = m := by
  have := par_lt T h3
  have h1 : nth M T m < M - 1 := by rw [nth_eq h3 hm]; split <;> omega
  refine ⟨h1, ?_⟩
  rw [dat_eq h3 h1, nth_eq h3 hm]
  split <;> split <;> omega
theorem nth_int {M : Nat} (T m : Nat) (h3 : 3 ≤ M) : ((m : Int) + (M : Int) - ((par M T : Nat) : Int) - 1) % (M : Int) = ((nth M T m : Nat) : Int) := by
  have := par_lt T h3
  have e : ((m : Int) + (M : Int) - ((par M T : Nat) : Int) - 1) = ((m + M - par M T - 1 : Nat) : Int) := by omega
  rw [e]; rfl
end
def inP (m s t k : Int) : Bool := decide (0 ≤ t ∧ t < s ∧ 0 ≤ k ∧ k < m)
theorem inP_iff {m s t k : Int} : inP m s t k = true ↔ (0 ≤ t ∧ t < s ∧ 0 ≤ k ∧ k < m) := by unfold inP; rw [decide_eq_true_iff]
theorem inP_not {m s t k : Int} : inP m s t k = false ↔ ¬(0 ≤ t ∧ t < s ∧ 0 ≤ k ∧ k < m) := by unfold inP; rw [decide_eq_false_iff_not]
def blE (m s r t k : Int) : Int := if may m s r = true then (if inP m s t k = true then (if k.toNat = par m.toNat t.toNat then 7 else 0) else 12) else 2
def blN (m s r t k : Int) : Int := if may m s r = true then (if inP m s t k = true then (if k.toNat = par m.toNat t.toNat then 0 else ((t.toNat * (m.toNat - 1) + nth m.toNat t.toNat k.toNat : Nat) : Int)) else 0) else 0
def blV (m s r t k : Int) : Value := .tuple #[.int .i64 (blN m s r t k), .int .i64 (blE m s r t k)]
theorem blV_no {m s r : Int} (t k : Int) (h : may m s r = false) : blV m s r t k = .tuple #[.int .i64 0, .int .i64 2] := by simp [blV, blN, blE, h]
theorem blV_out {m s r t k : Int} (h : may m s r = true) (h' : inP m s t k = false) : blV m s r t k = .tuple #[.int .i64 0, .int .i64 12] := by simp [blV, blN, blE, h, h']
theorem blV_par {M S T k : Nat} {r : Int} (h : may M S r = true) (h' : inP M S T k = true) (hp : k = par M T) : blV M S r T k = .tuple #[.int .i64 0, .int .i64 7] := by
  unfold blV blN blE
  simp only [h, h', if_true]
  rw [if_pos (show (k : Int).toNat = par (M : Int).toNat (T : Int).toNat from hp), if_pos (show (k : Int).toNat = par (M : Int).toNat (T : Int).toNat from hp)]
theorem blV_in {M S T k : Nat} {r : Int} (h : may M S r = true) (h' : inP M S T k = true) (hp : k ≠ par M T) : blV M S r T k = .tuple #[.int .i64 ((T * (M - 1) + nth M T k : Nat) : Int), .int .i64 0] := by
  unfold blV blN blE
  simp only [h, h', if_true]
  rw [if_neg (show (k : Int).toNat ≠ par (M : Int).toNat (T : Int).toNat from hp), if_neg (show (k : Int).toNat ≠ par (M : Int).toNat (T : Int).toNat from hp)]
  rfl
theorem block_no (m s r t k : Int) (w : World) (h : may m s r = false) : Calls Tryz.prog 108 #[geoV m s r, dz t k] w fun e w' => e = .returned (blV m s r t k) ∧ Below w.heap.size w w' := by
  rw [blV_no t k h]
  have H := Lib.hid h
  clear h
  unfold geoV dz
  go_enter Tryz.func108, Tryz.ntmps108
  go_wp2_with fail
  refine (may_prog m s r _).mono ?_
  rintro e w1 ⟨rfl, hb1⟩
  rw [H.out]
  obtain ⟨K0, K1, hs, HB⟩ := behind_gp hb1 (new1 ..) (new2 ..)
  clear hb1
  go_wp2
  go_ret2
  exact ⟨rfl, HB.out⟩
set_option maxHeartbeats 1000000 in
theorem block_out (m s r t k : Int) (w : World) (h : may m s r = true) (h' : inP m s t k = false) : Calls Tryz.prog 108 #[geoV m s r, dz t k] w fun e w' => e = .returned (blV m s r t k) ∧ Below w.heap.size w w' := by
  rw [blV_out h h']
  have hn := inP_not.1 h'
  have H := Lib.hid h
  clear h h'
  have h3 : has s t = false ∨ (has s t = true ∧ k < 0) ∨ (has s t = true ∧ 0 ≤ k ∧ m ≤ k) := by
    cases hh : has s t
    · exact .inl rfl
    · have := has_iff.1 hh
      by_cases hk : k < 0
      · exact .inr (.inl ⟨rfl, hk⟩)
      · exact .inr (.inr ⟨rfl, by omega, by omega⟩)
  clear hn
  have go : ∀ (b : Bool), has s t = b → (b = true → (k < 0 ∨ (0 ≤ k ∧ m ≤ k))) → Calls Tryz.prog 108 #[geoV m s r, dz t k] w fun e w' => e = .returned (.tuple #[.int .i64 0, .int .i64 12]) ∧ Below w.heap.size w w' := by
    intro b hb hor
    have HBo := Lib.hid hb
    unfold geoV dz
    cases b
    · clear hor h3 hb
      go_enter Tryz.func108, Tryz.ntmps108
      go_wp2_with fail
      refine (may_prog m s r _).mono ?_
      rintro e w1 ⟨rfl, hb1⟩
      rw [H.out]
      obtain ⟨K0, K1, hs, HB⟩ := behind_gp hb1 (new1 ..) (new2 ..)
      obtain ⟨c0, c1, c2⟩ := cells3 K0.out
      obtain ⟨p0, p1, f0, f1⟩ := cells2 K1.out
      clear hb1
      go_wp2_with fail
      refine (has_prog m s r t _).mono ?_
      rintro e w2 ⟨rfl, hb2⟩
      rw [HBo.out]
      go_wp2
      go_ret2
      exact ⟨rfl, HB.out.trans (hb2.mono HB.out.size)⟩
    · have hor := hor rfl
      clear h3 hb
      rcases hor with hk | ⟨hk, hk'⟩
      all_goals
        go_enter Tryz.func108, Tryz.ntmps108
        go_wp2_with fail
        refine (may_prog m s r _).mono ?_
        rintro e w1 ⟨rfl, hb1⟩
        rw [H.out]
        obtain ⟨K0, K1, hs, HB⟩ := behind_gp hb1 (new1 ..) (new2 ..)
        obtain ⟨c0, c1, c2⟩ := cells3 K0.out
        obtain ⟨p0, p1, f0, f1⟩ := cells2 K1.out
        clear hb1
        go_wp2_with fail
        refine (has_prog m s r t _).mono ?_
        rintro e w2 ⟨rfl, hb2⟩
        rw [HBo.out]
        obtain ⟨d0, d1, d2⟩ := cells3 (am K0.out hb2)
        obtain ⟨q0, q1, g0, g1⟩ := cells2 (am K1.out hb2)
        have HB2 := Lib.hid (HB.out.trans (hb2.mono HB.out.size))
        clear hb2 c0 c1 c2 p0 p1 f0 f1
        go_wp2
        go_ret2
        exact ⟨rfl, HB2.out⟩
  rcases h3 with hh | ⟨hh, hk⟩ | ⟨hh, hk⟩
  · exact go false hh (fun e => by cases e)
  · exact go true hh (fun _ => .inl hk)
  · exact go true hh (fun _ => .inr hk)
set_option maxHeartbeats 1000000 in
theorem block_par (M S T k : Nat) (r : Int) (w : World) (h : may M S r = true) (h' : inP M S T k = true) (hp : k = par M T) : Calls Tryz.prog 108 #[geoV M S r, dz T k] w fun e w' => e = .returned (blV M S r T k) ∧ Below w.heap.size w w' := by
  rw [blV_par h h' hp]
  have hn := inP_iff.1 h'
  have hm := may_iff.1 h
  have HH := Lib.hid (show has S T = true from has_iff.2 (by omega))
  have H := Lib.hid h
  clear h h'
  have HP := Lib.hid hp
  clear hp
  unfold geoV dz
  go_enter Tryz.func108, Tryz.ntmps108
  go_wp2_with fail
  refine (may_prog M S r _).mono ?_
  rintro e w1 ⟨rfl, hb1⟩
  rw [H.out]
  obtain ⟨K0, K1, hs, HB⟩ := behind_gp hb1 (new1 ..) (new2 ..)
  obtain ⟨c0, c1, c2⟩ := cells3 K0.out
  obtain ⟨p0, p1, f0, f1⟩ := cells2 K1.out
  clear hb1
  go_wp2_with fail
  refine (has_prog M S r T _).mono ?_
  rintro e w2 ⟨rfl, hb2⟩
  rw [HH.out]
  have K02 := Lib.hid (am K0.out hb2)
  have K12 := Lib.hid (am K1.out hb2)
  obtain ⟨d0, d1, d2⟩ := cells3 K02.out
  obtain ⟨q0, q1, g0, g1⟩ := cells2 K12.out
  have HB2 := Lib.hid (HB.out.trans (hb2.mono HB.out.size))
  clear hb2 c0 c1 c2 p0 p1 f0 f1 K0 K1
  go_wp2_with fail
  refine (par_prog M T S r _ (by omega) (by omega) (by omega)).mono ?_
  rintro e w3 ⟨rfl, hb3⟩
  unfold dz
  rw [← HP.out]
  have K03 := Lib.hid (am K02.out hb3)
  have K13 := Lib.hid (am K12.out hb3)
  obtain ⟨c0, c1, c2⟩ := cells3 K03.out
  obtain ⟨p0, p1, f0, f1⟩ := cells2 K13.out
  have hs3 : w.heap.size + 1 < w3.heap.size := aD K13.out
  have hs4 : w.heap.size < w3.heap.size := aD K03.out
  have HB3 := Lib.hid (HB2.out.trans (hb3.mono HB2.out.size))
  clear hb3 d0 d1 d2 q0 q1 g0 g1 K02 K12 hs
  go_wp2
  go_ret2
  exact ⟨rfl, HB3.out.alloc HB3.out.size _⟩
set_option maxHeartbeats 1000000 in
theorem block_in (M S T k : Nat) (r : Int) (w : World) (h : may M S r = true) (h' : inP M S T k = true) (hp : k ≠ par M T) : Calls Tryz.prog 108 #[geoV M S r, dz T k] w fun e w' => e = .returned (blV M S r T k) ∧ Below w.heap.size w w' := by
  rw [blV_in h h' hp]
  have hn := inP_iff.1 h'
  have hm := may_iff.1 h
  have HH := Lib.hid (show has S T = true from has_iff.2 (by omega))
  have H := Lib.hid h
  clear h h'
  have hpl := par_lt T (M := M) (by omega)
  have hni := nth_int (M := M) T k (by omega)
  have hnl : nth M T k < M - 1 := (dat_nth (T := T) (by omega) (by omega) hp).1
  have HNI := Lib.hid hni
  have HM := Lib.hid (mul_nat (M := M) (S := T) (by omega) (by omega) (by omega))
  have HA := Lib.hid (show IntKind.i64.wrap (((T * (M - 1) : Nat) : Int) + ((nth M T k : Nat) : Int)) = ((T * (M - 1) + nth M T k : Nat) : Int) by
    have h := Nat.mul_le_mul (show T ≤ 64 by omega) (show M - 1 ≤ 15 by omega)
    generalize T * (M - 1) = q at *
    rw [← Int.natCast_add]
    exact IntWalk.i64_in _ (by omega))
  clear hni
  generalize hpq : par M T = P at *
  have HPQ := Lib.hid hpq
  clear hpq
  unfold geoV dz
  go_enter Tryz.func108, Tryz.ntmps108
  go_wp2_with fail
  refine (may_prog M S r _).mono ?_
  rintro e w1 ⟨rfl, hb1⟩
  rw [H.out]
  obtain ⟨K0, K1, hs, HB⟩ := behind_gp hb1 (new1 ..) (new2 ..)
  obtain ⟨c0, c1, c2⟩ := cells3 K0.out
  obtain ⟨p0, p1, f0, f1⟩ := cells2 K1.out
  clear hb1
  go_wp2_with fail
  refine (has_prog M S r T _).mono ?_
  rintro e w2 ⟨rfl, hb2⟩
  rw [HH.out]
  have K02 := Lib.hid (am K0.out hb2)
  have K12 := Lib.hid (am K1.out hb2)
  obtain ⟨d0, d1, d2⟩ := cells3 K02.out
  obtain ⟨q0, q1, g0, g1⟩ := cells2 K12.out
  have HB2 := Lib.hid (HB.out.trans (hb2.mono HB.out.size))
  clear hb2 c0 c1 c2 p0 p1 f0 f1 K0 K1
  go_wp2_with fail
  refine (par_prog M T S r _ (by omega) (by omega) (by omega)).mono ?_
  rintro e w3 ⟨rfl, hb3⟩
  unfold dz
  rw [HPQ.out]
  have K03 := Lib.hid (am K02.out hb3)
  have K13 := Lib.hid (am K12.out hb3)
  obtain ⟨c0, c1, c2⟩ := cells3 K03.out
  obtain ⟨p0, p1, f0, f1⟩ := cells2 K13.out
  have hs3 : w.heap.size + 1 < w3.heap.size := aD K13.out
  have hs4 : w.heap.size < w3.heap.size := aD K03.out
  have HB3 := Lib.hid (HB2.out.trans (hb3.mono HB2.out.size))
  clear hb3 d0 d1 d2 q0 q1 g0 g1 K02 K12 hs
  go_wp2
  rw [HNI.out]
  have K04 := Lib.hid (bk K03.out (.cells #[.int .i64 T, .int .i64 P] 68))
  have K14 := Lib.hid (bk K13.out (.cells #[.int .i64 T, .int .i64 P] 68))
  have HB4 := Lib.hid (HB3.out.alloc HB3.out.size (.cells #[.int .i64 T, .int .i64 P] 68))
  clear c0 c1 c2 p0 p1 f0 f1 hs3 hs4 K03 K13 HB3
  generalize w3.alloc (.cells #[.int .i64 T, .int .i64 P] 68) = w4 at *
  have CC := fun (w' : World) (hw : Below w4.heap.size w4 w') => cells3 (am K04.out hw)
  have PP := fun (w' : World) (hw : Below w4.heap.size w4 w') => cells2 (am K14.out hw)
  refine aG (B := w4.heap.size) (by kernel_rfl) ?_
  refine ao rfl (fun w' hw => aj rfl (ev rfl) faPm0) ?_
  simp only [Act.put, aa, ac, ae]
  refine ao rfl (fun w' hw => aq rfl (ev rfl) (ldIg (PP w' hw).1)) ?_
  simp only [Act.put, aa, ac, ae]
  refine ao rfl (fun w' hw => aq rfl (ev rfl) (ldGg (CC w' hw).1 (CC w' hw).2.1 (CC w' hw).2.2)) ?_
  simp only [Act.put, aa, ac, ae]
  refine bn rfl (fun _ => ap Tryz.call126 rfl (evc (ev rfl) evn)) (bi (Nat.le_refl _) fun w' hw => width_prog M S r w' (by omega) (by omega)) ?_
  simp only [Act.put, aa, ac, ae]
  refine ao rfl (fun w' hw => exec_mul rfl (ev rfl) (ev rfl) HM.out) ?_
  simp only [Act.put, aa, ac, ae]
  refine ao rfl (fun w' hw => ai rfl (ev rfl)) ?_
  simp only [Act.put, aa, ac, ae]
  refine ao rfl (fun w' hw => bI rfl (ev rfl) (ev rfl) HA.out) ?_
  simp only [Act.put, aa, ac, ae]
  refine ao rfl (fun w' hw => ak rfl (ev rfl)) ?_
  simp only [Act.put, aa, ac, ae]
  refine ao rfl (fun w' hw => ak rfl evk) ?_
  simp only [Act.put, aa, ac, ae]
  refine wpQuiet_nil ?_
  intro w5 hw5
  go_wp2_with fail
  go_ret2
  exact ⟨rfl, HB4.out.trans (hw5.mono HB4.out.size)⟩
theorem block_prog (m s r t k : Int) (w : World) : Calls Tryz.prog 108 #[geoV m s r, dz t k] w fun e w' => e = .returned (blV m s r t k) ∧ Below w.heap.size w w' := by
  cases h : may m s r
  · exact block_no m s r t k w h
  · cases h' : inP m s t k
    · exact block_out m s r t k w h h'
    · obtain ⟨M, S, rfl, rfl, _⟩ := nat_geo h
      have hn := inP_iff.1 h'
      obtain ⟨T, rfl⟩ := Int.eq_ofNat_of_zero_le hn.1
      obtain ⟨j, rfl⟩ := Int.eq_ofNat_of_zero_le hn.2.2.1
      by_cases hp : j = par M T
      · exact block_par M S T j r w h h' hp
      · exact block_in M S T j r w h h' hp
def NoH (w : World) (v : Value) : Prop := v = .pointer none ∨ ∃ p, v = .pointer (some ⟨p, 0, none⟩) ∧ PHo w p none ⟨0, 0, 0, aZ⟩
theorem NoH.below {w w' : World} {v : Value} (h : NoH w v) (hb : Below w.heap.size w w') : NoH w' v := by
  rcases h with h | ⟨p, h, h1⟩
  · exact .inl h
  · exact .inr ⟨p, h, h1.below hb⟩
section
variable {w : World} {p q : Nat} {qa : Option Addr} {x : HpS} {v : Value}
theorem hp_made1 (h : PHo w p (some ⟨q, 0, none⟩) x) : Calls Tryz.prog 49 #[.pointer (some ⟨p, 0, none⟩)] w fun e w' => e = .returned (.bool true) ∧ w = w' := by
  have HL := Lib.hid h
  clear h
  go_enter Tryz.func49, Tryz.ntmps49
  go_upto_region 1 with fail
  refine wp_region_lit ?_
  refine af rfl (ai rfl (ev rfl)) ?_
  simp only [Act.put, aa, ac, ae]
  refine af (v := .bool true) rfl (eL true Tryz.underlying36 rfl (ev rfl) evk rfl) ?_
  simp only [Act.put, aa, ac, ae]
  refine af (v := .bool true) rfl (ai rfl (ev rfl)) ?_
  simp only [Act.put, aa, ac, ae]
  refine ag (ah rfl rfl rfl rfl) (ai rfl (ev rfl)) ?_
  simp only [Act.put, aa, ac, ae]
  refine ag (ah rfl rfl rfl rfl) (bp rfl (ev rfl)) ?_
  simp only [Act.put, aa, ac, ae]
  refine ag (ah rfl rfl rfl rfl) (aj rfl (ev rfl) faHp0) ?_
  simp only [Act.put, aa, ac, ae]
  refine ag (ah rfl rfl rfl rfl) (aq rfl (ev rfl) (ldHb (PHo.c0 HL.out))) ?_
  simp only [Act.put, aa, ac, ae]
  refine ag (v := .bool true) (ah rfl rfl rfl rfl) (eL true Tryz.underlying29 rfl (ev rfl) evk rfl) ?_
  simp only [Act.put, aa, ac, ae]
  refine af (v := .bool true) rfl (aJ rfl (ev rfl) (ev rfl)) ?_
  simp only [Act.put, aa, ac, ae]
  refine af (v := .bool true) rfl (ak rfl (ev rfl)) ?_
  simp only [Act.put, aa, ac, ae]
  refine wpList_nil ?_
  go_wp2_with fail
  go_ret
  exact ⟨rfl, rfl⟩
theorem hp_made2 (h : PHo w p none x) : Calls Tryz.prog 49 #[.pointer (some ⟨p, 0, none⟩)] w fun e w' => e = .returned (.bool false) ∧ w = w' := by
  have HL := Lib.hid h
  clear h
  go_enter Tryz.func49, Tryz.ntmps49
  go_upto_region 1 with fail
  refine wp_region_lit ?_
  refine af rfl (ai rfl (ev rfl)) ?_
  simp only [Act.put, aa, ac, ae]
  refine af (v := .bool true) rfl (eL true Tryz.underlying36 rfl (ev rfl) evk rfl) ?_
  simp only [Act.put, aa, ac, ae]
  refine af (v := .bool true) rfl (ai rfl (ev rfl)) ?_
  simp only [Act.put, aa, ac, ae]
  refine ag (ah rfl rfl rfl rfl) (ai rfl (ev rfl)) ?_
  simp only [Act.put, aa, ac, ae]
  refine ag (ah rfl rfl rfl rfl) (bp rfl (ev rfl)) ?_
  simp only [Act.put, aa, ac, ae]
  refine ag (ah rfl rfl rfl rfl) (aj rfl (ev rfl) faHp0) ?_
  simp only [Act.put, aa, ac, ae]
  refine ag (ah rfl rfl rfl rfl) (aq rfl (ev rfl) (ldHb (PHo.c0 HL.out))) ?_
  simp only [Act.put, aa, ac, ae]
  refine ag (v := .bool false) (ah rfl rfl rfl rfl) (eL false Tryz.underlying29 rfl (ev rfl) evk rfl) ?_
  simp only [Act.put, aa, ac, ae]
  refine af (v := .bool false) rfl (aJ rfl (ev rfl) (ev rfl)) ?_
  simp only [Act.put, aa, ac, ae]
  refine af (v := .bool false) rfl (ak rfl (ev rfl)) ?_
  simp only [Act.put, aa, ac, ae]
  refine wpList_nil ?_
  go_wp2_with fail
  go_ret
  exact ⟨rfl, rfl⟩
theorem hp_made0 : Calls Tryz.prog 49 #[.pointer none] w fun e w' => e = .returned (.bool false) ∧ w = w' := by
  go_enter Tryz.func49, Tryz.ntmps49
  go_upto_region 1 with fail
  refine wp_region_lit ?_
  refine af rfl (ai rfl (ev rfl)) ?_
  simp only [Act.put, aa, ac, ae]
  refine af (v := .bool false) rfl (eL false Tryz.underlying36 rfl (ev rfl) evk rfl) ?_
  simp only [Act.put, aa, ac, ae]
  refine aF 5 (v := .bool false) rfl (ai rfl (ev rfl)) (by kernel_rfl) ?_
  simp only [aY, List.take_succ_cons, List.take_zero, List.drop_succ_cons, List.drop_zero, Act.put, List.setIfInBounds_toArray, List.set_cons_succ, List.set_cons_zero]
  refine af (v := .bool false) rfl (aB rfl (ev rfl) evk) ?_
  simp only [Act.put, aa, ac, ae]
  refine af (v := .bool false) rfl (ak rfl (ev rfl)) ?_
  simp only [Act.put, aa, ac, ae]
  refine wpList_nil ?_
  go_wp2_with fail
  go_ret
  exact ⟨rfl, rfl⟩
theorem hp_made (h : NoH w v) : Calls Tryz.prog 49 #[v] w fun e w' => e = .returned (.bool false) ∧ w = w' := by
  rcases h with rfl | ⟨p, rfl, h⟩
  · exact hp_made0
  · exact hp_made2 h
set_option maxHeartbeats 1000000 in
theorem hp_roster (h : PHo w p qa x) : Calls Tryz.prog 19 #[.pointer (some ⟨p, 0, none⟩)] w fun e w' => e = .returned (ros (x.R)) ∧ Below w.heap.size w w' := by
  have HL := Lib.hid (h.below ((Below.refl w.heap.size w).alloc (Nat.le_refl _) (.cells (aH aZ).toArray 28)))
  clear h
  have HA := Lib.hid (bl.new w aZ)
  have HB := Lib.hid ((Below.refl w.heap.size w).alloc (Nat.le_refl _) (.cells (aH aZ).toArray 28))
  go_enter Tryz.func19, Tryz.ntmps19
  go_upto_region 0 with fail
  refine wp_region_lit ?_
  refine af rfl (bS rfl) ?_
  simp only [Act.put, aa, ac, ae]
  generalize w.alloc (.cells (aH aZ).toArray 28) = w1 at *
  skip
  refine wpList_nil ?_
  go_upto_region 1 with fail
  refine wp_region_lit ?_
  refine af rfl (ai rfl (ev rfl)) ?_
  simp only [Act.put, aa, ac, ae]
  refine af (v := .bool false) rfl (dG false Tryz.underlying36 rfl (ev rfl) evk rfl) ?_
  simp only [Act.put, aa, ac, ae]
  refine wpList_nil ?_
  go_upto_region 3 with fail
  refine wp_region_lit ?_
  refine af rfl (ai rfl (ev rfl)) ?_
  simp only [Act.put, aa, ac, ae]
  refine af rfl (bp rfl (ev rfl)) ?_
  simp only [Act.put, aa, ac, ae]
  refine af rfl (aj rfl (ev rfl) faHp3) ?_
  simp only [Act.put, aa, ac, ae]
  refine af rfl (aR rfl (ev rfl) (PHo.ros HL.out)) ?_
  simp only [Act.put, aa, ac, ae]
  refine av rfl (cM rfl (ev rfl) (ev rfl) HA.out) ?_
  simp only [Act.put, aa, ac, ae]
  refine wpList_nil ?_
  go_wp2_with fail
  exact bodyPost_ret (res_r1 rfl _ _ _ rfl (putW_at HA.out)) rfl ⟨rfl, eJ HB.out (Nat.le_refl _)⟩
set_option maxHeartbeats 1000000 in
theorem hp_roster0 : Calls Tryz.prog 19 #[.pointer none] w fun e w' => e = .returned (ros (aZ)) ∧ Below w.heap.size w w' := by
  have HA := Lib.hid (bl.new w aZ)
  have HB := Lib.hid ((Below.refl w.heap.size w).alloc (Nat.le_refl _) (.cells (aH aZ).toArray 28))
  go_enter Tryz.func19, Tryz.ntmps19
  go_upto_region 0 with fail
  refine wp_region_lit ?_
  refine af rfl (bS rfl) ?_
  simp only [Act.put, aa, ac, ae]
  generalize w.alloc (.cells (aH aZ).toArray 28) = w1 at *
  skip
  refine wpList_nil ?_
  go_upto_region 1 with fail
  refine wp_region_lit ?_
  refine af rfl (ai rfl (ev rfl)) ?_
  simp only [Act.put, aa, ac, ae]
  refine af (v := .bool true) rfl (dG true Tryz.underlying36 rfl (ev rfl) evk rfl) ?_
  simp only [Act.put, aa, ac, ae]
  refine wpList_nil ?_
  go_upto_region 2 with fail
  refine wp_region_lit ?_
  refine af rfl (exec_bldR0 rfl) ?_
  simp only [Act.put, aa, ac, ae]
  refine av rfl (cM rfl (ev rfl) (ev rfl) HA.out) ?_
  simp only [Act.put, aa, ac, ae]
  refine wpList_nil ?_
  go_wp2_with fail
  exact bodyPost_ret (res_r1 rfl _ _ _ rfl (putW_at HA.out)) rfl ⟨rfl, eJ HB.out (Nat.le_refl _)⟩
theorem hp_event (h : PHo w p qa x) : Calls Tryz.prog 18 #[.pointer (some ⟨p, 0, none⟩)] w fun e w' => e = .returned (.int .u64 (x.ev : Int)) ∧ w = w' := by
  have HL := Lib.hid h
  clear h
  go_enter Tryz.func18, Tryz.ntmps18
  go_upto_region 1 with fail
  refine wp_region_lit ?_
  refine af rfl (ai rfl (ev rfl)) ?_
  simp only [Act.put, aa, ac, ae]
  refine af (v := .bool false) rfl (dG false Tryz.underlying36 rfl (ev rfl) evk rfl) ?_
  simp only [Act.put, aa, ac, ae]
  refine wpList_nil ?_
  go_upto_region 3 with fail
  refine wp_region_lit ?_
  refine af rfl (ai rfl (ev rfl)) ?_
  simp only [Act.put, aa, ac, ae]
  refine af rfl (bp rfl (ev rfl)) ?_
  simp only [Act.put, aa, ac, ae]
  refine af rfl (aj rfl (ev rfl) faHp2) ?_
  simp only [Act.put, aa, ac, ae]
  refine af rfl (aq rfl (ev rfl) (ldU64 (PHo.c2 HL.out))) ?_
  simp only [Act.put, aa, ac, ae]
  refine af rfl (ak rfl (ev rfl)) ?_
  simp only [Act.put, aa, ac, ae]
  refine wpList_nil ?_
  go_wp2_with fail
  go_ret
  exact ⟨rfl, rfl⟩
theorem hp_event0 : Calls Tryz.prog 18 #[.pointer none] w fun e w' => e = .returned (.int .u64 0) ∧ w = w' := by
  go_enter Tryz.func18, Tryz.ntmps18
  go_upto_region 1 with fail
  refine wp_region_lit ?_
  refine af rfl (ai rfl (ev rfl)) ?_
  simp only [Act.put, aa, ac, ae]
  refine af (v := .bool true) rfl (dG true Tryz.underlying36 rfl (ev rfl) evk rfl) ?_
  simp only [Act.put, aa, ac, ae]
  refine wpList_nil ?_
  go_upto_region 2 with fail
  refine wp_region_lit ?_
  refine af rfl (ak rfl evk) ?_
  simp only [Act.put, aa, ac, ae]
  refine wpList_nil ?_
  go_wp2_with fail
  go_ret
  exact ⟨rfl, rfl⟩
theorem hp_id (h : PHo w p qa x) : Calls Tryz.prog 30 #[.pointer (some ⟨p, 0, none⟩)] w fun e w' => e = .returned (.int .u64 (x.id : Int)) ∧ w = w' := by
  have HL := Lib.hid h
  clear h
  go_enter Tryz.func30, Tryz.ntmps30
  go_upto_region 1 with fail
  refine wp_region_lit ?_
  refine af rfl (ai rfl (ev rfl)) ?_
  simp only [Act.put, aa, ac, ae]
  refine af (v := .bool false) rfl (dG false Tryz.underlying36 rfl (ev rfl) evk rfl) ?_
  simp only [Act.put, aa, ac, ae]
  refine wpList_nil ?_
  go_upto_region 3 with fail
  refine wp_region_lit ?_
  refine af rfl (ai rfl (ev rfl)) ?_
  simp only [Act.put, aa, ac, ae]
  refine af rfl (bp rfl (ev rfl)) ?_
  simp only [Act.put, aa, ac, ae]
  refine af rfl (aj rfl (ev rfl) faHp1) ?_
  simp only [Act.put, aa, ac, ae]
  refine af rfl (aq rfl (ev rfl) (ldU64 (PHo.c1 HL.out))) ?_
  simp only [Act.put, aa, ac, ae]
  refine af rfl (ak rfl (ev rfl)) ?_
  simp only [Act.put, aa, ac, ae]
  refine wpList_nil ?_
  go_wp2_with fail
  go_ret
  exact ⟨rfl, rfl⟩
theorem hp_id0 : Calls Tryz.prog 30 #[.pointer none] w fun e w' => e = .returned (.int .u64 0) ∧ w = w' := by
  go_enter Tryz.func30, Tryz.ntmps30
  go_upto_region 1 with fail
  refine wp_region_lit ?_
  refine af rfl (ai rfl (ev rfl)) ?_
  simp only [Act.put, aa, ac, ae]
  refine af (v := .bool true) rfl (dG true Tryz.underlying36 rfl (ev rfl) evk rfl) ?_
  simp only [Act.put, aa, ac, ae]
  refine wpList_nil ?_
  go_upto_region 2 with fail
  refine wp_region_lit ?_
  refine af rfl (ak rfl evk) ?_
  simp only [Act.put, aa, ac, ae]
  refine wpList_nil ?_
  go_wp2_with fail
  go_ret
  exact ⟨rfl, rfl⟩
theorem hp_state (h : PHo w p qa x) : Calls Tryz.prog 31 #[.pointer (some ⟨p, 0, none⟩)] w fun e w' => e = .returned (.int .i64 (stN (x.R) : Nat)) ∧ Below w.heap.size w w' := by
  have HL := Lib.hid h
  clear h
  obtain ⟨n, hn⟩ : ∃ n, stN (x.R) = n := ⟨_, rfl⟩
  rw [hn]
  have HN := Lib.hid hn
  clear hn
  go_enter Tryz.func31, Tryz.ntmps31
  go_upto_region 1 with fail
  refine wp_region_lit ?_
  refine af rfl (ai rfl (ev rfl)) ?_
  simp only [Act.put, aa, ac, ae]
  refine al rfl (ap Tryz.call19 rfl (evc (ev rfl) evn)) ?_
  refine (hp_roster HL.out).mono ?_
  rintro e w1 ⟨rfl, b1⟩
  have HB1 := Lib.hid b1
  clear b1
  refine ⟨_, rfl, ?_⟩
  simp only [Act.put, aa, ac, ae]
  refine al rfl (ap Tryz.call75 rfl (evc (ev rfl) evn)) ?_
  refine (pstate_n w1 HN.out).mono ?_
  rintro e w2 ⟨rfl, b2⟩
  have HB2 := Lib.hid (HB1.out.trans (b2.mono HB1.out.size))
  clear b2
  refine ⟨_, rfl, ?_⟩
  simp only [Act.put, aa, ac, ae]
  refine af rfl (ak rfl (ev rfl)) ?_
  simp only [Act.put, aa, ac, ae]
  refine wpList_nil ?_
  go_wp2_with fail
  go_ret
  exact ⟨rfl, HB2.out⟩
theorem hp_state0 : Calls Tryz.prog 31 #[.pointer none] w fun e w' => e = .returned (.int .i64 (stN (aZ) : Nat)) ∧ Below w.heap.size w w' := by
  obtain ⟨n, hn⟩ : ∃ n, stN (aZ) = n := ⟨_, rfl⟩
  rw [hn]
  have HN := Lib.hid hn
  clear hn
  go_enter Tryz.func31, Tryz.ntmps31
  go_upto_region 1 with fail
  refine wp_region_lit ?_
  refine af rfl (ai rfl (ev rfl)) ?_
  simp only [Act.put, aa, ac, ae]
  refine al rfl (ap Tryz.call19 rfl (evc (ev rfl) evn)) ?_
  refine (hp_roster0).mono ?_
  rintro e w1 ⟨rfl, b1⟩
  have HB1 := Lib.hid b1
  clear b1
  refine ⟨_, rfl, ?_⟩
  simp only [Act.put, aa, ac, ae]
  refine al rfl (ap Tryz.call75 rfl (evc (ev rfl) evn)) ?_
  refine (pstate_n w1 HN.out).mono ?_
  rintro e w2 ⟨rfl, b2⟩
  have HB2 := Lib.hid (HB1.out.trans (b2.mono HB1.out.size))
  clear b2
  refine ⟨_, rfl, ?_⟩
  simp only [Act.put, aa, ac, ae]
  refine af rfl (ak rfl (ev rfl)) ?_
  simp only [Act.put, aa, ac, ae]
  refine wpList_nil ?_
  go_wp2_with fail
  go_ret
  exact ⟨rfl, HB2.out⟩
theorem eH (h : PHo w p (some ⟨q, 0, none⟩) x) : Calls Tryz.prog 59 #[.pointer (some ⟨p, 0, none⟩)] w fun e w' => e = .returned (.int .i64 (if faiH x.R = true then 16 else 0)) ∧ Below w.heap.size w w' := by
  obtain ⟨n, hn⟩ : ∃ n, stN x.R = n := ⟨_, rfl⟩
  have HN := Lib.hid hn
  have HL := Lib.hid h
  clear h
  cases hf : faiH x.R
  · have H5 : Hid (((n : Int) == 5) = false) := Lib.hid (by
      unfold faiH at hf
      rw [hn] at hf
      have := of_decide_eq_false hf; exact beq_eq_false_iff_ne.2 (by omega))
    clear hf hn
    go_enter Tryz.func59, Tryz.ntmps59
    go_upto_region 1 with fail
    refine wp_region_lit ?_
    refine af rfl (ai rfl (ev rfl)) ?_
    simp only [Act.put, aa, ac, ae]
    refine al rfl (ap Tryz.call49 rfl (evc (ev rfl) evn)) ?_
    refine (hp_made1 HL.out).mono ?_
    rintro e w1 ⟨rfl, rfl⟩
    refine ⟨_, rfl, ?_⟩
    simp only [Act.put, aa, ac, ae]
    refine af (v := .bool false) rfl (aE true rfl (ev rfl)) ?_
    simp only [Act.put, aa, ac, ae]
    refine af (v := .bool false) rfl (ak rfl (ev rfl)) ?_
    simp only [Act.put, aa, ac, ae]
    refine wpList_nil ?_
    go_upto_region 3 with fail
    refine wp_region_lit ?_
    refine af rfl (ai rfl (ev rfl)) ?_
    simp only [Act.put, aa, ac, ae]
    refine al rfl (ap Tryz.call31 rfl (evc (ev rfl) evn)) ?_
    refine (hp_state HL.out).mono ?_
    rintro e w1 ⟨rfl, b1⟩
    rw [HN.out]
    have HB1 := Lib.hid b1
    clear b1
    refine ⟨_, rfl, ?_⟩
    simp only [Act.put, aa, ac, ae]
    refine af (v := .bool false) rfl (aw false rfl (ev rfl) evk H5.out) ?_
    simp only [Act.put, aa, ac, ae]
    refine af (v := .bool false) rfl (ak rfl (ev rfl)) ?_
    simp only [Act.put, aa, ac, ae]
    refine wpList_nil ?_
    go_upto_region 5 with fail
    refine wp_region_lit ?_
    refine af rfl (ak rfl evk) ?_
    simp only [Act.put, aa, ac, ae]
    refine wpList_nil ?_
    go_wp2_with fail
    go_ret
    exact ⟨rfl, HB1.out⟩
  · have H5 : Hid (((n : Int) == 5) = true) := Lib.hid (by
      unfold faiH at hf
      rw [hn] at hf
      have := of_decide_eq_true hf; subst this; rfl)
    clear hf hn
    go_enter Tryz.func59, Tryz.ntmps59
    go_upto_region 1 with fail
    refine wp_region_lit ?_
    refine af rfl (ai rfl (ev rfl)) ?_
    simp only [Act.put, aa, ac, ae]
    refine al rfl (ap Tryz.call49 rfl (evc (ev rfl) evn)) ?_
    refine (hp_made1 HL.out).mono ?_
    rintro e w1 ⟨rfl, rfl⟩
    refine ⟨_, rfl, ?_⟩
    simp only [Act.put, aa, ac, ae]
    refine af (v := .bool false) rfl (aE true rfl (ev rfl)) ?_
    simp only [Act.put, aa, ac, ae]
    refine af (v := .bool false) rfl (ak rfl (ev rfl)) ?_
    simp only [Act.put, aa, ac, ae]
    refine wpList_nil ?_
    go_upto_region 3 with fail
    refine wp_region_lit ?_
    refine af rfl (ai rfl (ev rfl)) ?_
    simp only [Act.put, aa, ac, ae]
    refine al rfl (ap Tryz.call31 rfl (evc (ev rfl) evn)) ?_
    refine (hp_state HL.out).mono ?_
    rintro e w1 ⟨rfl, b1⟩
    rw [HN.out]
    have HB1 := Lib.hid b1
    clear b1
    refine ⟨_, rfl, ?_⟩
    simp only [Act.put, aa, ac, ae]
    refine af (v := .bool true) rfl (aw true rfl (ev rfl) evk H5.out) ?_
    simp only [Act.put, aa, ac, ae]
    refine af (v := .bool true) rfl (ak rfl (ev rfl)) ?_
    simp only [Act.put, aa, ac, ae]
    refine wpList_nil ?_
    go_upto_region 4 with fail
    refine wp_region_lit ?_
    refine af rfl (ak rfl evk) ?_
    simp only [Act.put, aa, ac, ae]
    refine wpList_nil ?_
    go_wp2_with fail
    go_ret
    exact ⟨rfl, HB1.out⟩
theorem hp_refusal0 (h : NoH w v) : Calls Tryz.prog 59 #[v] w fun e w' => e = .returned (.int .i64 1) ∧ w = w' := by
  have HL := Lib.hid h
  clear h
  go_enter Tryz.func59, Tryz.ntmps59
  go_upto_region 1 with fail
  refine wp_region_lit ?_
  refine af rfl (ai rfl (ev rfl)) ?_
  simp only [Act.put, aa, ac, ae]
  refine al rfl (ap Tryz.call49 rfl (evc (ev rfl) evn)) ?_
  refine (hp_made HL.out).mono ?_
  rintro e w1 ⟨rfl, rfl⟩
  refine ⟨_, rfl, ?_⟩
  simp only [Act.put, aa, ac, ae]
  refine af (v := .bool true) rfl (aE false rfl (ev rfl)) ?_
  simp only [Act.put, aa, ac, ae]
  refine af (v := .bool true) rfl (ak rfl (ev rfl)) ?_
  simp only [Act.put, aa, ac, ae]
  refine wpList_nil ?_
  go_upto_region 2 with fail
  refine wp_region_lit ?_
  refine af rfl (ak rfl evk) ?_
  simp only [Act.put, aa, ac, ae]
  refine wpList_nil ?_
  go_wp2_with fail
  go_ret
  exact ⟨rfl, rfl⟩
theorem has_plc {R : Ros} (s m : Int) (hg : geoB R = true) : (blE R.m R.s R.r s m != 12) = plcH R s m := by
  have hm : may R.m R.s R.r = true := by
    have := eI.1 hg
    exact may_iff.2 (by omega)
  have e : inP R.m R.s s m = plcH R s m := rfl
  rw [← e]
  unfold blE
  rw [if_pos hm]
  cases hp : inP R.m R.s s m
  · rw [if_neg (by decide)]; rfl
  · rw [if_pos rfl]
    split <;> rfl
set_option maxHeartbeats 1000000 in
theorem hp_has (s m : Int) (hg : geoB x.R = true) (h : PHo w p qa x) : Calls Tryz.prog 70 #[.pointer (some ⟨p, 0, none⟩), .agg #[.int .i64 s, .int .i64 m]] w fun e w' => e = .returned (.bool (plcH x.R s m)) ∧ Below w.heap.size w w' := by
  have hb := (Below.refl w.heap.size w).alloc (Nat.le_refl _) (.cells ([.int .i64 s, .int .i64 m] : List Value).toArray 68)
  have HL := Lib.hid (h.below hb)
  have HA := Lib.hid (heap_alloc_new w (.cells ([.int .i64 s, .int .i64 m] : List Value).toArray 68))
  have HB := Lib.hid hb
  have HP := has_plc s m hg
  obtain ⟨bv, hbv⟩ : ∃ bv, plcH x.R s m = bv := ⟨_, rfl⟩
  rw [hbv] at HP ⊢
  have HPP := Lib.hid HP
  clear h hb HP hg
  go_enter Tryz.func70, Tryz.ntmps70
  go_upto_region 0 with fail
  refine wp_region_lit ?_
  refine af rfl (cy (cs := [.int .i64 s, .int .i64 m]) rfl (ev rfl)) ?_
  simp only [Act.put, aa, ac, ae]
  generalize w.alloc (.cells ([.int .i64 s, .int .i64 m] : List Value).toArray 68) = w1 at *
  refine af (v := .bool false) rfl (ak rfl evk) ?_
  simp only [Act.put, aa, ac, ae]
  refine wpList_nil ?_
  go_upto_region 1 with fail
  refine aG (B := w1.heap.size) (by kernel_rfl) ?_
  refine ao rfl (fun w' hw => ai rfl (ev rfl)) ?_
  simp only [Act.put, aa, ac, ae]
  refine ao rfl (fun w' hw => bp rfl (ev rfl)) ?_
  simp only [Act.put, aa, ac, ae]
  refine ao rfl (fun w' hw => aj rfl (ev rfl) faHp3) ?_
  simp only [Act.put, aa, ac, ae]
  refine ao rfl (fun w' hw => aj rfl (ev rfl) faHr0) ?_
  simp only [Act.put, aa, ac, ae]
  refine ao rfl (fun w' hw => cR rfl (ev rfl) (PHo.geo (HL.out.below hw))) ?_
  simp only [Act.put, aa, ac, ae]
  refine ao rfl (fun w' hw => cd (cs := [.int .i64 s, .int .i64 m]) Tryz.underlying68 rfl (by kernel_rfl) rfl (ev rfl) (a4 (am HA.out hw))) ?_
  simp only [Act.put, aa, ac, ae]
  refine bn rfl (fun _ => ap Tryz.call108 rfl (evc (ev rfl) (evc (ev rfl) evn))) (bi (Nat.le_refl _) fun w' hw => block_prog x.R.m x.R.s x.R.r s m w') ?_
  simp only [Act.put, aa, ac, ae]
  refine ao rfl (fun w' hw => ai rfl (ev rfl)) ?_
  simp only [Act.put, aa, ac, ae]
  refine ao rfl (fun w' hw => aU rfl (ev rfl) rfl) ?_
  simp only [Act.put, aa, ac, ae]
  refine ao rfl (fun w' hw => aU rfl (ev rfl) rfl) ?_
  simp only [Act.put, aa, ac, ae]
  refine ao rfl (fun w' hw => ak rfl (ev rfl)) ?_
  simp only [Act.put, aa, ac, ae]
  refine ao rfl (fun w' hw => ak rfl (ev rfl)) ?_
  simp only [Act.put, aa, ac, ae]
  refine wpQuiet_nil ?_
  intro w2 hw
  have HBB := Lib.hid (HB.out.trans (hw.mono HB.out.size))
  clear hw
  go_upto_region 2 with fail
  refine wp_region_lit ?_
  refine af rfl (ai rfl (ev rfl)) ?_
  simp only [Act.put, aa, ac, ae]
  refine af rfl (ay bv rfl (ev rfl) evk HPP.out) ?_
  simp only [Act.put, aa, ac, ae]
  refine af rfl (ak rfl (ev rfl)) ?_
  simp only [Act.put, aa, ac, ae]
  refine wpList_nil ?_
  go_wp2_with fail
  go_ret
  exact ⟨rfl, HBB.out⟩
end
section
variable {P : Program} {md : Region.Mode} {l : List Oper} {Q : Exit → Act → World → Prop} {S : World → Prop} {fuel : Nat} {listed : Array Bool} {a : Act} {w w1 : World} {o o' : Oper} {v : Value}
theorem held_turn (i : Nat) (hi : l[i]? = some o) (hr : Region.ready md l.toArray listed = [i]) (hw : Region.wanted o (yielded l.toArray a.tmps) = true) (h : (execOp a.eval o).run P w = .ok (.value v) w1)
    (hS : S w1) (hk : wpAnyH P md l.toArray Q S fuel (listed.setIfInBounds i true) (a.put o.dst v) w1) : wpAnyH P md l.toArray Q S (fuel + 1) listed a w :=
  wpAnyH_all hr (by simp) fun j hj => by
    obtain rfl : j = i := by simpa using hj
    unfold wpOp
    simp only [List.getElem?_toArray, hi, hw, if_true]
    refine .inl ?_
    unfold Oper.wp
    rw [h]
    exact ⟨hS, hk⟩
theorem held_either (i j : Nat) {f : FuncId} {vs : Array Value} (hi : l[i]? = some o) (hj : l[j]? = some o') (hr : Region.ready md l.toArray listed = [i, j]) (hwi : Region.wanted o (yielded l.toArray a.tmps) = true) (hwj : Region.wanted o' (yielded l.toArray a.tmps) = true) (h : (execOp a.eval o).run P w = .ok (.enter f vs) w)
    (hc : Calls P f vs w fun e w' => ∃ v, e = .returned v ∧ S w' ∧ wpAnyH P md l.toArray Q S fuel (listed.setIfInBounds i true) (a.put o.dst v) w') (h' : (execOp a.eval o').run P w = .ok (.value v) w1) (hS : S w1)
    (hk : wpAnyH P md l.toArray Q S fuel (listed.setIfInBounds j true) (a.put o'.dst v) w1) : wpAnyH P md l.toArray Q S (fuel + 1) listed a w :=
  wpAnyH_all hr (by simp) fun z hz => by
    rcases (show z = i ∨ z = j by simpa using hz) with rfl | rfl
    · unfold wpOp
      simp only [List.getElem?_toArray, hi, hwi, if_true]
      refine .inl ?_
      unfold Oper.wp
      rw [h]
      exact hc.mono fun e w' ⟨v, he, hk⟩ => by subst he; exact hk
    · unfold wpOp
      simp only [List.getElem?_toArray, hj, hwj, if_true]
      refine .inl ?_
      unfold Oper.wp
      rw [h']
      exact ⟨hS, hk⟩
theorem share {α β : Type} {F : α → β → Prop} {G : Prop} {T : α → β → Prop} (k : (∀ a b, F a b → T a b) → G) (h : ∀ a b, F a b → T a b) : G := k h
end
end Go.Proofs.YtnliphgjcaippaaGreatDoor
