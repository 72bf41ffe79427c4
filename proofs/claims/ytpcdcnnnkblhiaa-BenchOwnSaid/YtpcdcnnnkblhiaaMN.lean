/-
  A bench, and devices of one's own that were given the same: what BenchOwn carries along.
  BenchOwn's walk.
-/
import Derived.Test.YtpcdcnnnkblhiaaMJ
import Derived.Deep.DeepCutAuto
namespace Go.Proofs.Ytpcdcnnnkblhiaa
open Go.RowKit
set_option linter.unusedVariables false
set_option maxRecDepth 100000

/-- Three devices, power, and none to be cut. -/
structure Lit3 (M : BenS) : Prop where
  len : M.ds.length = 3
  dark : M.dark = false
  left : M.left = 0
theorem lit3_sm : Lit3 sm0 := ⟨rfl, rfl, rfl⟩
section
variable {M : BenS} {k : Nat}
theorem Lit3.lit (h : Lit3 M) (hk : k < 3) : litE M (k : Int) = 0 := litE_ok h.dark (by rw [h.len]; exact hk)
theorem Lit3.has (h : Lit3 M) (hk : k < 3) : hasE M (k : Int) = 0 := hasE_ok (by rw [h.len]; exact hk)
theorem Lit3.put (h : Lit3 M) (d : DevS) : Lit3 (M.put k d) := ⟨by rw [M.put_len]; exact h.len, h.dark, h.left⟩
theorem Lit3.done (h : Lit3 M) : Lit3 M.done := ⟨h.len, h.dark, by show M.left - 1 = 0; rw [h.left]⟩
theorem own_wr (h : Lit3 M) (hk : k < 3) (n : Int) (b : Blk) : wrE6 M (k : Int) n = askE (M.ds.getD k dev0).S (M.ds.getD k dev0).g n ∧ Lit3 (wrS6 M (k : Int) n b) ∧
    (wrS6 M (k : Int) n b).ds = M.ds.set k ⟨(M.ds.getD k dev0).S, wrL (M.ds.getD k dev0).S (M.ds.getD k dev0).L (M.ds.getD k dev0).g n b, (M.ds.getD k dev0).g⟩ := by
  have hr : rdE6 M (k : Int) n = askE (M.ds.getD k dev0).S (M.ds.getD k dev0).g n := by unfold rdE6; rw [if_pos (h.lit hk), M.dev_nat]
  have hl : M.left ≠ 1 := by rw [h.left]; decide
  by_cases he : askE (M.ds.getD k dev0).S (M.ds.getD k dev0).g n = 0
  · have e : wrS6 M (k : Int) n b = M.done.put k ⟨(M.ds.getD k dev0).S, wrL (M.ds.getD k dev0).S (M.ds.getD k dev0).L (M.ds.getD k dev0).g n b, (M.ds.getD k dev0).g⟩ := by unfold wrS6; rw [hr, if_pos he, if_neg hl]; rfl
    refine ⟨by unfold wrE6; rw [hr, if_pos he, he]; unfold BenS.stepE; rw [if_neg hl], ?_, ?_⟩
    · rw [e]; exact h.done.put _
    · rw [e]; rfl
  · have e : wrS6 M (k : Int) n b = M := by unfold wrS6; rw [hr, if_neg he]
    refine ⟨by unfold wrE6; rw [hr, if_neg he], by rw [e]; exact h, ?_⟩
    rw [e]
    have : wrL (M.ds.getD k dev0).S (M.ds.getD k dev0).L (M.ds.getD k dev0).g n b = (M.ds.getD k dev0).L := by unfold wrL; rw [if_neg he]
    rw [this]
    exact (set_self (by rw [h.len]; exact hk)).symm
theorem own_fl (h : Lit3 M) (hk : k < 3) : flE6 M (k : Int) = (if (M.ds.getD k dev0).g = true then 9 else 0) ∧ Lit3 (flS6 M (k : Int)) ∧
    (flS6 M (k : Int)).ds = M.ds.set k ⟨if (M.ds.getD k dev0).g = true then (M.ds.getD k dev0).S else flS (M.ds.getD k dev0).S (M.ds.getD k dev0).L, if (M.ds.getD k dev0).g = true then (M.ds.getD k dev0).L else [], (M.ds.getD k dev0).g⟩ := by
  have hf : flA6 M (k : Int) = if (M.ds.getD k dev0).g = true then 9 else 0 := by unfold flA6; rw [if_pos (h.lit hk), M.dev_nat]
  have hl : M.left ≠ 1 := by rw [h.left]; decide
  by_cases hg : (M.ds.getD k dev0).g = true
  · rw [if_pos hg] at hf ⊢
    rw [if_pos hg, if_pos hg]
    have e : flS6 M (k : Int) = M := by unfold flS6; rw [hf, if_neg (by decide)]
    refine ⟨by unfold flE6; rw [hf, if_neg (by decide)], by rw [e]; exact h, ?_⟩
    rw [e]
    exact (set_self (by rw [h.len]; exact hk)).symm
  · rw [if_neg hg] at hf ⊢
    rw [if_neg hg, if_neg hg]
    have e : flS6 M (k : Int) = M.done.put k ⟨flS (M.ds.getD k dev0).S (M.ds.getD k dev0).L, [], (M.ds.getD k dev0).g⟩ := by unfold flS6; rw [if_pos hf, if_neg hl]; rfl
    refine ⟨by unfold flE6; rw [if_pos hf]; unfold BenS.stepE; rw [if_neg hl], ?_, ?_⟩
    · rw [e]; exact h.done.put _
    · rw [e]; rfl
theorem own_fa (h : Lit3 M) (hk : k < 3) : hasE M (k : Int) = 0 ∧ Lit3 (faS6 M (k : Int)) ∧ (faS6 M (k : Int)).ds = M.ds.set k ⟨(M.ds.getD k dev0).S, [], true⟩ := by
  have e : faS6 M (k : Int) = M.put k ⟨(M.ds.getD k dev0).S, [], true⟩ := by unfold faS6; rw [if_pos (h.has hk)]; rfl
  exact ⟨h.has hk, by rw [e]; exact h.put _, by rw [e]; rfl⟩
theorem own_ro (h : Lit3 M) (hk : k < 3) (n i : Int) (u : UInt8) : roE6 M (k : Int) n i = rotE (M.ds.getD k dev0).S (M.ds.getD k dev0).g n i ∧ Lit3 (roS6 M (k : Int) n i u) ∧
    (roS6 M (k : Int) n i u).ds = M.ds.set k ⟨rotS (M.ds.getD k dev0).S (M.ds.getD k dev0).g n i u, (M.ds.getD k dev0).L, (M.ds.getD k dev0).g⟩ := by
  have e : roS6 M (k : Int) n i u = M.put k ⟨rotS (M.ds.getD k dev0).S (M.ds.getD k dev0).g n i u, (M.ds.getD k dev0).L, (M.ds.getD k dev0).g⟩ := by unfold roS6; rw [if_pos (h.has hk)]; rfl
  exact ⟨by unfold roE6; rw [if_pos (h.has hk), M.dev_nat], by rw [e]; exact h.put _, by rw [e]; rfl⟩
end
theorem crIn_at : ∀ (i : Nat) (ds : List DevS) (P : List Int) (j : Nat), j < i → (crIn ds P i).1.getD j dev0 = (crAll ds P).getD j dev0
  | 0, ds, P, j, h => by omega
  | i + 1, [], P, j, h => rfl
  | i + 1, d :: ds, P, 0, h => rfl
  | i + 1, d :: ds, P, j + 1, h => crIn_at i ds _ j (by omega)
theorem own_read {M : BenS} (h : Lit3 M) (P : List Int) {k : Nat} (hk : k < 3) (n : Int) : rdE6 (crS6 M P) (k : Int) n = askE ((crAll M.ds P).getD k dev0).S ((crAll M.ds P).getD k dev0).g n ∧ rdB6 (crS6 M P) (k : Int) n = readB ((crAll M.ds P).getD k dev0).S ((crAll M.ds P).getD k dev0).L ((crAll M.ds P).getD k dev0).g n := by
  have hl : litE (crS6 M P) (k : Int) = 0 := litE_ok rfl (by show k < (crAll M.ds P).length; rw [← crIn_all, crIn_len, h.len]; exact hk)
  exact ⟨by unfold rdE6; rw [if_pos hl]; rfl, by unfold rdB6; rw [if_pos hl]; rfl⟩

/-- A bench at p has M; the row v has pointers to devices that have ds; no two share a block; all lie from B on. -/
structure OwnW (P : BenP) (D : Dev) (w0 : World) (B : Nat) (w : World) (p : Nat) (v : Value) (M : BenS) (ds : List DevS) (F : Nat → Prop) (Gs : Nat → Nat → Prop) (qs : List Nat) : Prop where
  bn : P.Bn w F p M
  lo : ∀ b, F b → B ≤ b
  row : MadeE (pKind D).E w B v qs
  devs : Devs D.K w Gs qs ds
  apart : ∀ i, i < ds.length → ∀ b, Gs i b → B ≤ b ∧ ¬ F b ∧ v.ownBlock ≠ some b
  off : ∀ b, v.ownBlock = some b → ¬ F b
  below : Below B w0 w
  le : B ≤ w0.heap.size
section
variable {P : BenP} {D : Dev} {w0 w w' : World} {B p k : Nat} {v : Value} {M M' : BenS} {ds : List DevS} {F F' : Nat → Prop} {Gs : Nat → Nat → Prop} {qs : List Nat} {d : DevS}
theorem OwnW.leW (h : OwnW P D w0 B w p v M ds F Gs qs) : B ≤ w.heap.size := Nat.le_trans h.le h.below.size
theorem OwnW.step (h : OwnW P D w0 B w p v M ds F Gs qs) (hb : Below w.heap.size w w') : OwnW P D w0 B w' p v M ds F Gs qs :=
  ⟨P.toBen.below h.bn hb, h.lo, h.row.below hb, h.devs.only (Only.of_below (fun _ => False) hb) (fun _ _ _ _ e => e), h.apart, h.off, h.below.trans (hb.mono h.leW), h.le⟩
/-- The bench was turned. -/
theorem OwnW.bench (h : OwnW P D w0 B w p v M ds F Gs qs) (hb : P.Bn w' F' p M') (ho : Only F w w') (hg : Grow w F F') : OwnW P D w0 B w' p v M' ds F' Gs qs := by
  refine ⟨hb, hg.above h.lo h.leW, h.row.only ho fun b hb => h.off b hb, h.devs.only ho fun i hi b hb => (h.apart i hi b hb).2.1, fun i hi b hb => ⟨(h.apart i hi b hb).1, fun hf => ?_, (h.apart i hi b hb).2.2⟩, fun b hb hf => ?_, h.below.trans (ho.below h.lo h.leW), h.le⟩
  · rcases hg b hf with e | e
    · exact (h.apart i hi b hb).2.1 e
    · have := h.devs.lt i hi b hb; omega
  · rcases hg b hf with e | e
    · exact h.off b hb e
    · have := h.row.own_lt b hb; omega
/-- One of the devices was turned. -/
theorem OwnW.dev (h : OwnW P D w0 B w p v M ds F Gs qs) (hk : k < ds.length) (hd : D.Dv w' F' (qs.getD k 0) d.S d.L d.g) (ho : Only (Gs k) w w') (hg : Grow w (Gs k) F') : OwnW P D w0 B w' p v M (ds.set k d) F (upF Gs k F') qs := by
  have hap : ∀ b, F' b → B ≤ b ∧ ¬ F b ∧ v.ownBlock ≠ some b := fun b hb => by
    rcases hg b hb with e | e
    · exact h.apart k hk b e
    · exact ⟨Nat.le_trans h.leW e, fun hf => by have := P.lt h.bn b hf; omega, fun hv => by have := h.row.own_lt b hv; omega⟩
  refine ⟨P.only h.bn ho fun b hb hf => (h.apart k hk b hf).2.1 hb, h.lo, h.row.only ho fun b hb hf => (h.apart k hk b hf).2.2 hb, h.devs.turn hk ho hg hd, fun i hi b hb => ?_, h.off, h.below.trans (ho.below (fun b hb => (h.apart k hk b hb).1) h.leW), h.le⟩
  rw [List.length_set] at hi
  rcases hb with ⟨e, hb⟩ | ⟨e, hb⟩
  · exact hap b hb
  · exact h.apart i hi b hb
theorem OwnW.slice (h : OwnW P D w0 B w p v M ds F Gs qs) (h1 : 0 < ds.length) : ∃ g c, v = .slice (some ⟨g, 0, none⟩) ds.length c ∧ ds.length ≤ c ∧ c ≤ maxLen := by
  obtain ⟨g, c, rfl⟩ := h.row.slice h.devs.len h1
  obtain ⟨A, c', e, h2, h3⟩ := h.row.form
  injection e with e1 e2 e3
  subst e3
  exact ⟨g, c, rfl, by rw [← h.devs.len]; exact h2, h3⟩
theorem OwnW.cell {g c : Nat} (h : OwnW P D w0 B w p (.slice (some ⟨g, 0, none⟩) ds.length c) M ds F Gs qs) (hk : k < ds.length) : w.cell? ⟨g, k, none⟩ = some (.pointer (some ⟨qs.getD k 0, 0, none⟩)) := by
  have hr : RdE (pKind D).E w w.heap.size (some ⟨g, 0, none⟩) ds.length qs := h.row.rd
  obtain ⟨b, off, e, _, hc⟩ := RdE.ptr (und := (pKind D).und) (info := (pKind D).info) hr hk
  injection e with e
  injection e with e1 e2
  subst e1 e2
  rw [Nat.zero_add] at hc
  exact hc
end
theorem OwnW.cellN {P : BenP} {D : Dev} {w0 w : World} {B p k N g c : Nat} {M : BenS} {ds : List DevS} {F : Nat → Prop} {Gs : Nat → Nat → Prop} {qs : List Nat} (hN : ds.length = N) (h : OwnW P D w0 B w p (.slice (some ⟨g, 0, none⟩) N c) M ds F Gs qs) (hk : k < ds.length) : w.cell? ⟨g, k, none⟩ = some (.pointer (some ⟨qs.getD k 0, 0, none⟩)) := by
  subst hN
  exact h.cell hk
section
variable {P : BenP} {D : Dev} {w0 wr w1 w3 : World} {B p q' : Nat} {v v' : Value} {M : BenS} {ds : List DevS} {F F' : Nat → Prop} {Gs : Nat → Nat → Prop} {qs : List Nat} {d : DevS} {o2 : Obj}
/-- One device more in the row. -/
theorem own_push (h : OwnW P D w0 B wr p v M ds F Gs qs) (hb1 : Below wr.heap.size wr w1) (hF : ∀ b, F' b → wr.heap.size ≤ b) (hd : D.Dv w1 F' q' d.S d.L d.g)
    (hm : MadeE (pKind D).E w3 B v' (qs ++ [q'])) (hg : (w1.alloc o2).grownBy w3 v.ownBlock) (ho : ∀ x, v'.ownBlock = some x → v.ownBlock = some x ∨ w1.heap.size + 1 ≤ x) :
    OwnW P D w0 B w3 p v' M (ds ++ [d]) F (upF Gs ds.length F') (qs ++ [q']) := by
  have h1 := hb1.size
  have hvl : ∀ b, v.ownBlock = some b → b < wr.heap.size := h.row.own_lt
  have o3 : Only (fun b => v.ownBlock = some b) w1 w3 := (Only.of_below _ ((Below.refl _ w1).alloc (Nat.le_refl _) o2)).trans ((Only.refl (fun b => v.ownBlock = some b) _).grown hg fun k e => .inl e) fun b hb => .inl hb
  have hs := h.step hb1
  have hdv := h.devs.push hb1 hF (d := d) hd
  have hap : ∀ i, i < (ds ++ [d]).length → ∀ b, upF Gs ds.length F' i b → B ≤ b ∧ ¬ F b ∧ v.ownBlock ≠ some b ∧ b < w1.heap.size := fun i hi b hb => by
    have hlt := hdv.lt i hi b hb
    rcases hb with ⟨e, hb⟩ | ⟨e, hb⟩
    · have := hF b hb
      exact ⟨Nat.le_trans h.leW this, fun hf => by have := P.lt h.bn b hf; omega, fun e => by have := hvl b e; omega, hlt⟩
    · rw [List.length_append, List.length_singleton] at hi
      obtain ⟨g1, g2, g3⟩ := h.apart i (by omega) b hb
      exact ⟨g1, g2, g3, hlt⟩
  refine ⟨P.only hs.bn o3 fun b hb hv => h.off b hv hb, h.lo, hm, hdv.only o3 fun i hi b hb hv => (hap i hi b hb).2.2.1 hv, fun i hi b hb => ⟨(hap i hi b hb).1, (hap i hi b hb).2.1, fun e => ?_⟩, fun b hb hf => ?_, hs.below.trans (o3.below (fun b hb => h.row.lt_own b hb) hs.leW), h.le⟩
  · rcases ho b e with e | e
    · exact (hap i hi b hb).2.2.1 e
    · have := (hap i hi b hb).2.2.2; omega
  · rcases ho b hb with e | e
    · exact h.off b e hf
    · have := P.lt h.bn b hf; omega
end
theorem exec_ixO (D : Dev) {ρ : Operand → Value} {o : Oper} {x y : Operand} {w : World} {b n c j : Nat} (ho : o.op = .indexAddr 49 x y) (hx : ρ x = .slice (some ⟨b, 0, none⟩) n c) (hy : ρ y = .int .i64 (j : Int)) (hj : j < n) : (execOp ρ o).run Try.prog w = .ok (.value (.pointer (some ⟨b, j, none⟩))) w :=
  exec_ixP (k := pKind D) ho hx hy hj
theorem ldDp {w : World} {a : Addr} {A : Option Addr} (h : w.cell? a = some (.pointer A)) : (Instr.loadAt 50 (.pointer (some a))).run Try.prog w = .ok (.pointer A) w := by simp [go_sem, h]
end Go.Proofs.Ytpcdcnnnkblhiaa
namespace Go.Proofs.Ytpcdcnnnkblhiaa
open Go.RowKit
set_option linter.unusedVariables false
set_option maxRecDepth 100000

theorem exec_ixA {ρ : Operand → Value} {o : Oper} {x y : Operand} {w : World} {b off n c j : Nat} (ho : o.op = .indexAddr 23 x y) (hx : ρ x = .slice (some ⟨b, off, none⟩) n c) (hy : ρ y = .int .i64 (j : Int)) (hj : j < n) : (execOp ρ o).run Try.prog w = .ok (.value (.pointer (some ⟨b, off + j * 70, none⟩))) w :=
  exec_indexE (E := Act6E) ho hx hy hj
/-- What the acts carry along. -/
def OwnRel (P : BenP) (D : Dev) (w : World) (p g cV n : Nat) (qs : List Nat) (i : Value) (wr : World) : Prop :=
  ∃ (j : Nat) (M : BenS) (F : Nat → Prop) (Gs : Nat → Nat → Prop), j ≤ n ∧ j ≤ 60 ∧ i = .int .i64 j ∧ Lit3 M ∧ OwnW P D w w.heap.size wr p (.slice (some ⟨g, 0, none⟩) 3 cV) M M.ds F Gs qs ∧ Room M (100 - j)
def OwnCut (P : BenP) (D : Dev) (w : World) (p g cV : Nat) (qs : List Nat) (Q : List Int) (M : BenS) (pk i : Value) (wr : World) : Prop :=
  ∃ (j : Nat) (A' : Option Addr) (n' c' : Nat) (F : Nat → Prop) (Gs : Nat → Nat → Prop), j ≤ 3 ∧ i = .int .i64 j ∧ pk = .slice A' n' c' ∧ Pk w (fun b => w.heap.size ≤ b) A' n' c' (crIn M.ds Q j).2 ∧ OwnW P D w w.heap.size wr p (.slice (some ⟨g, 0, none⟩) 3 cV) (crS6 M Q) (crIn M.ds Q j).1 F Gs qs
theorem eight : (1 : Nat) ≤ 8 ∧ (8 : Nat) ≤ 512 := ⟨by omega, by omega⟩
theorem sm0_take {j : Nat} (h : j < 3) : sm0.ds.take (j + 1) = sm0.ds.take j ++ [⟨List.replicate 8 zeroB, [], false⟩] := by
  match j, h with
  | 0, _ => rfl
  | 1, _ => rfl
  | 2, _ => rfl
set_option maxHeartbeats 16000000 in
theorem own6 (P : BenP) (D : Dev) {A A1 : Option Addr} {n c n1 c1 : Nat} {l : List Act6} {Q : List Int} {w : World} (hl : RdE Act6E w w.heap.size A n l) (hnc : n ≤ c) (hc : c ≤ maxLen) (hg : ∀ k, k < n → Act6In w (l.getD k zeroAct6)) (hq : RdE IntE w w.heap.size A1 n1 Q) (hn1 : n1 ≤ c1) (hc1 : c1 ≤ maxLen) :
    Calls Try.prog 5 #[.slice A n c, .slice A1 n1 c1] w fun e w' => e = .returned (.bool true) ∧ Below w.heap.size w w' := by
  have HL := Lib.hid hl
  have HQ := Lib.hid hq
  have HC1 := Lib.hid hc1
  unfold maxLen at hc
  clear hl hg hq hc1
  go_enter Try.func5, Try.ntmps5
  go_wp2_with fail
  refine (small6 P w).mono ?_
  rintro e w1 ⟨p, rfl, h1⟩
  obtain ⟨F0, hb0, hlo0, hbel0, hle0⟩ := h1
  have H0 := Lib.hid (show OwnW P D w w.heap.size w1 p (.slice none 0 0) sm0 (sm0.ds.take 0) F0 (fun _ _ => False) [] from
    ⟨hb0, hlo0, MadeE.nil _ _, ⟨rfl, fun i hi => absurd hi (Nat.not_lt_zero i), fun i j hi => absurd hi (Nat.not_lt_zero i)⟩, fun i hi => absurd hi (Nat.not_lt_zero i), fun b hb => by simp [Value.ownBlock] at hb, hbel0, hle0⟩)
  clear hb0 hlo0 hbel0 hle0
  go_wp2_with fail
  go_loopw [6, 7, 8, 9] (fun sv i p8 p9 wr => ∃ (j : Nat) (F : Nat → Prop) (Gs : Nat → Nat → Prop) (qs : List Nat), j ≤ 3 ∧ i = .int .i64 j ∧ OwnW P D w w.heap.size wr p sv sm0 (sm0.ds.take j) F Gs qs) (fun _ i _ _ _ => 3 - (intOf i).toNat)
  case atStart => exact ⟨0, _, _, _, by omega, rfl, H0.out⟩
  case round =>
    clear H0
    obtain ⟨j, F, Gs, qs, hj, rfl, how⟩ := hrel
    have HOW := Lib.hid how
    obtain ⟨AV, cV, hv, hv1, hv2⟩ := how.row.form
    subst hv
    have hql : qs.length = j := by have := how.devs.len; rw [List.length_take] at this; have : sm0.ds.length = 3 := rfl; omega
    have HQL := Lib.hid hql
    unfold maxLen at hv2
    clear how hql
    by_cases hj3 : j < 3
    · have hlj : (j : Int) < 3 := by omega
      go_wp2_with fail
      refine (D.new_ok 8 wr eight.1 eight.2).mono ?_
      rintro e w2 ⟨q', G', rfl, hd, hb, hG⟩
      have how2 := HOW.out.step hb
      have HR := Lib.hid ((how2.row.below ((Below.refl _ w2).alloc (Nat.le_refl _) (.cells ((pKind D).E.cel q').toArray (pKind D).E.t))))
      have HNEW := Lib.hid (rdE_new (E := (pKind D).E) (l := [q']) w2 ((pKind D).E.cel q').toArray (pKind D).E.t (by rw [flatE_cons]; simp [flatE]))
      have HSZ := Lib.hid (show w.heap.size ≤ (w2.alloc (.cells ((pKind D).E.cel q').toArray (pKind D).E.t)).heap.size by rw [World.size_alloc]; have := how2.leW; omega)
      have HPS := Lib.hid (show qs.length + 1 ≤ 34359738368 by have := HQL.out; omega)
      have HD := Lib.hid hd
      have HB := Lib.hid hb
      have HG := Lib.hid hG
      have HOW2 := Lib.hid how2
      clear hd hb hG how2
      go_wp2_with (first | (refine wpList_val rfl (exec_mk1E (E := (pKind D).E) (a := q') rfl rfl rfl (by decide)) ?_) | (at_builtin; refine wpList_appE_own (pKind D).E rfl _ _ rfl w.heap.size _ _ _ _ qs [q'] _ rfl rfl HR.out HNEW.out HSZ.out HPS.out ?_) | fail)
      intro v' w3 hm3 hg3 ho3
      have HNX := Lib.hid (own_push (o2 := .cells ((pKind D).E.cel q').toArray (pKind D).E.t) HOW.out HB.out HG.out (d := ⟨List.replicate 8 zeroB, [], false⟩) HD.out hm3 hg3 ho3)
      obtain ⟨AW, cW, rfl, _, _⟩ := hm3.form
      clear hm3 hg3 ho3
      go_wp2_with fail
      go_roundw
      case rel =>
        have h6 := HNX.out
        rw [← sm0_take hj3] at h6
        exact ⟨j + 1, F, upF Gs (List.take j sm0.ds).length G', qs ++ [q'], by omega, by go_num, h6⟩
      case measure => simp [intOf]; omega
    · have hlj : ¬((j : Int) < 3) := by omega
      obtain rfl : j = 3 := by omega
      obtain ⟨g, cg, hsv, hs1, hs2⟩ := HOW.out.slice (by decide)
      injection hsv with e1 e2 e3
      subst e1 e3
      have HO3 := Lib.hid (show OwnW P D w w.heap.size wr p (.slice (some ⟨g, 0, none⟩) 3 cV) sm0 sm0.ds F Gs qs from by
        have := HOW.out
        rw [show sm0.ds.take 3 = sm0.ds from rfl, e2] at this
        exact this)
      rw [HQL.out]
      clear HOW hs1 hs2 e2
      go_wp2_with fail
      go_loopw [10, 11, 12, 13, 14] (fun i p11 p12 p13 p14 wr => OwnRel P D w p g cV n qs i wr) (fun i _ _ _ _ _ => n - (intOf i).toNat)
      case atStart => exact ⟨0, _, _, _, Nat.zero_le _, by omega, rfl, lit3_sm, HO3.out, room_new (by omega)⟩
      case round =>
        clear HO3 F Gs
        obtain ⟨j, M, F, Gs, hjn, hj6, rfl, hlit, how, hroom⟩ := hrel
        have HLIT := Lib.hid hlit
        have HOW0 := Lib.hid how
        have HRO := Lib.hid hroom
        clear hlit how hroom
        by_cases hltt : j < n ∧ j < 60
        · obtain ⟨hlt, h60⟩ := hltt
          have h60' : (j : Int) < 60 := by omega
          have hln : (j : Int) < (n : Int) := by omega
          obtain ⟨bA, oA, hAe, hA, hra⟩ := (HL.out.below HOW0.out.below).2 j hlt
          have hra' : wr.rangeAt bA (oA + j * 70) (act6C (l.getD j zeroAct6)) := hra
          clear hra
          generalize l.getD j zeroAct6 = a at *
          subst hAe
          obtain ⟨k, hk3, hk⟩ := place_u a.D 3 (by omega)
          have HK := Lib.hid hk
          have hkw : IntKind.i64.wrap (k : Int) = (k : Int) := IntWalk.i64_in _ (by omega)
          have HRA := Lib.hid hra'
          obtain ⟨c0, hbox⟩ := act6_box (new1 wr (act6C a).toArray 36)
          have c1 := hbox.1
          have HBX := Lib.hid hbox
          have HYL := Lib.hid (show wr.heap.size < (wr.alloc (.cells (act6C a).toArray 36)).heap.size by rw [World.size_alloc]; omega)
          have hHOW := HOW0.out.step ((Below.refl _ wr).alloc (Nat.le_refl _) (.cells (act6C a).toArray 36))
          have hlen3 : M.ds.length = 3 := HLIT.out.len
          have hk3' : k < M.ds.length := by omega
          have hkl : k < 3 := hk3
          have HCELL := Lib.hid (show (wr.alloc (.cells (act6C a).toArray 36)).cell? ⟨g, k, none⟩ = some (.pointer (some ⟨qs.getD k 0, 0, none⟩)) from OwnW.cellN hlen3 hHOW hk3')
          have HOW := Lib.hid hHOW
          have HR1 := Lib.hid (show Room M 1 from ⟨by have := HRO.out.1; omega, HRO.out.2.1, fun d hd => by have := HRO.out.2.2 d hd; omega⟩)
          have HK5 := Lib.hid (show Room M (99 - j + 1) from by have := HRO.out; rwa [show 100 - j = 99 - j + 1 from by omega] at this)
          have HLL := Lib.hid (HR1.out.at_ hk3')
          have HLEN := Lib.hid hlen3
          clear hra' hk hbox hHOW hlen3
          go_upto_region 13 with fail
          refine wp_region_lit ?_
          refine wpList_val rfl (exec_mv rfl (ev rfl)) ?_
          simp only [Act.put, List.setIfInBounds_toArray, List.set_cons_succ, List.set_cons_zero]
          refine wpList_val rfl (exec_mv rfl (ev rfl)) ?_
          simp only [Act.put, List.setIfInBounds_toArray, List.set_cons_succ, List.set_cons_zero]
          refine wpList_val rfl (exec_ixA rfl (ev rfl) (ev rfl) hlt) ?_
          simp only [Act.put, List.setIfInBounds_toArray, List.set_cons_succ, List.set_cons_zero]
          refine wpList_val rfl (exec_loadAct6 rfl (ev rfl) HRA.out) ?_
          simp only [Act.put, List.setIfInBounds_toArray, List.set_cons_succ, List.set_cons_zero]
          refine wpList_val rfl (exec_allocA6 rfl) ?_
          simp only [Act.put, List.setIfInBounds_toArray, List.set_cons_succ, List.set_cons_zero]
          refine wpList_nul rfl (exec_fillA6 rfl (ev rfl) (ev rfl)) ?_
          simp only [Act.put]
          refine wpList_nil ?_
          generalize hy : wr.heap.size = y at *
          generalize wr.alloc (.cells (act6C a).toArray 36) = w3 at *
          go_upto_region 14 with fail
          refine wp_region_lit ?_
          refine wpList_val rfl (exec_faddr rfl (ev rfl) faT1) ?_
          simp only [Act.put, List.setIfInBounds_toArray, List.set_cons_succ, List.set_cons_zero]
          refine wpList_val rfl (exec_ld rfl (ev rfl) (ldI c1)) ?_
          simp only [Act.put, List.setIfInBounds_toArray, List.set_cons_succ, List.set_cons_zero]
          refine wpList_val rfl (exec_cvU rfl (ev rfl)) ?_
          simp only [Act.put, List.setIfInBounds_toArray, List.set_cons_succ, List.set_cons_zero]
          refine wpList_val rfl (exec_remU rfl (ev rfl) evk (by decide) HK.out) ?_
          simp only [Act.put, List.setIfInBounds_toArray, List.set_cons_succ, List.set_cons_zero]
          refine wpList_val rfl (exec_cvI rfl (ev rfl) hkw) ?_
          simp only [Act.put, List.setIfInBounds_toArray, List.set_cons_succ, List.set_cons_zero]
          refine wpList_val rfl (exec_as rfl (ev rfl)) ?_
          simp only [Act.put, List.setIfInBounds_toArray, List.set_cons_succ, List.set_cons_zero]
          refine wpList_nil ?_
          by_cases h0 : a.Do = 0
          · rw [h0] at c0
            clear h0
            go_wp2_with fail
            refine wp_region_held (S := fun w' => Hid (Act6At w' y a ∧ w'.cell? ⟨g, k, none⟩ = some (.pointer (some ⟨qs.getD k 0, 0, none⟩)))) (by kernel_rfl) ?_
            change wpAnyH _ _ _ _ _ 18 _ _ w3.drew
            have hS : Hid (Act6At w3.drew y a ∧ w3.drew.cell? ⟨g, k, none⟩ = some (.pointer (some ⟨qs.getD k 0, 0, none⟩))) := Lib.hid ⟨HBX.out, HCELL.out⟩
            refine held_val 0 rfl (by kernel_rfl) (by kernel_rfl) (by kernel_rfl) rfl (fun w' hw => exec_mv rfl (ev rfl)) (fun _ _ _ h => h) hS ?_
            simp only [Act.put, List.setIfInBounds_toArray, List.set_cons_succ, List.set_cons_zero]
            refine held_val 1 rfl (by kernel_rfl) (by kernel_rfl) (by kernel_rfl) rfl (fun w' hw => exec_mv rfl (ev rfl)) (fun _ _ _ h => h) hS ?_
            simp only [Act.put, List.setIfInBounds_toArray, List.set_cons_succ, List.set_cons_zero]
            refine held_val 2 rfl (by kernel_rfl) (by kernel_rfl) (by kernel_rfl) rfl (fun w' hw => exec_faddr rfl (ev rfl) faT2) (fun _ _ _ h => h) hS ?_
            simp only [Act.put, List.setIfInBounds_toArray, List.set_cons_succ, List.set_cons_zero]
            refine held_val 3 rfl (by kernel_rfl) (by kernel_rfl) (by kernel_rfl) rfl (fun w' hw => exec_ld rfl (ev rfl) (ldI hw.out.1.2.1)) (fun _ _ _ h => h) hS ?_
            simp only [Act.put, List.setIfInBounds_toArray, List.set_cons_succ, List.set_cons_zero]
            refine held_val 4 rfl (by kernel_rfl) (by kernel_rfl) (by kernel_rfl) rfl (fun w' hw => exec_faddr rfl (ev rfl) faT5) (fun _ _ _ h => h) hS ?_
            simp only [Act.put, List.setIfInBounds_toArray, List.set_cons_succ, List.set_cons_zero]
            refine held_val 5 rfl (by kernel_rfl) (by kernel_rfl) (by kernel_rfl) rfl (fun w' hw => exec_load rfl (ev rfl) hw.out.1.2.2.2.2.1) (fun _ _ _ h => h) hS ?_
            simp only [Act.put, List.setIfInBounds_toArray, List.set_cons_succ, List.set_cons_zero]
            refine held_val 7 rfl (by kernel_rfl) (by kernel_rfl) (by kernel_rfl) rfl (fun w' hw => exec_mv rfl (ev rfl)) (fun _ _ _ h => h) hS ?_
            simp only [Act.put, List.setIfInBounds_toArray, List.set_cons_succ, List.set_cons_zero]
            refine held_val 8 rfl (by kernel_rfl) (by kernel_rfl) (by kernel_rfl) rfl (fun w' hw => exec_mv rfl (ev rfl)) (fun _ _ _ h => h) hS ?_
            simp only [Act.put, List.setIfInBounds_toArray, List.set_cons_succ, List.set_cons_zero]
            refine held_val 9 rfl (by kernel_rfl) (by kernel_rfl) (by kernel_rfl) rfl (fun w' hw => exec_ixO D rfl (ev rfl) (ev rfl) hkl) (fun _ _ _ h => h) hS ?_
            simp only [Act.put, List.setIfInBounds_toArray, List.set_cons_succ, List.set_cons_zero]
            refine held_val 10 rfl (by kernel_rfl) (by kernel_rfl) (by kernel_rfl) rfl (fun w' hw => exec_ld rfl (ev rfl) (ldDp hw.out.2)) (fun _ _ _ h => h) hS ?_
            simp only [Act.put, List.setIfInBounds_toArray, List.set_cons_succ, List.set_cons_zero]
            refine held_val 11 rfl (by kernel_rfl) (by kernel_rfl) (by kernel_rfl) rfl (fun w' hw => exec_faddr rfl (ev rfl) faT2) (fun _ _ _ h => h) hS ?_
            simp only [Act.put, List.setIfInBounds_toArray, List.set_cons_succ, List.set_cons_zero]
            refine held_val 12 rfl (by kernel_rfl) (by kernel_rfl) (by kernel_rfl) rfl (fun w' hw => exec_ld rfl (ev rfl) (ldI hw.out.1.2.1)) (fun _ _ _ h => h) hS ?_
            simp only [Act.put, List.setIfInBounds_toArray, List.set_cons_succ, List.set_cons_zero]
            refine held_val 13 rfl (by kernel_rfl) (by kernel_rfl) (by kernel_rfl) rfl (fun w' hw => exec_faddr rfl (ev rfl) faT5) (fun _ _ _ h => h) hS ?_
            simp only [Act.put, List.setIfInBounds_toArray, List.set_cons_succ, List.set_cons_zero]
            refine held_val 14 rfl (by kernel_rfl) (by kernel_rfl) (by kernel_rfl) rfl (fun w' hw => exec_load rfl (ev rfl) hw.out.1.2.2.2.2.1) (fun _ _ _ h => h) hS ?_
            simp only [Act.put, List.setIfInBounds_toArray, List.set_cons_succ, List.set_cons_zero]
            have ho1 := HOW.out.step (bd (Below.refl _ _))
            have hs1 : w3.drew.heap.size = w3.heap.size := rfl
            refine held_call 6 rfl (by kernel_rfl) rfl (exec_cl Try.call19 rfl (evc (ev rfl) (evc (ev rfl) (evc (ev rfl) (evc (ev rfl) evn))))) ((P.write (k : Int) a.N a.B HR1.out ho1.bn).mono ?_)
            rintro e w4 ⟨rfl, F4, hb4, ho4, hg4⟩
            have hw4 := ho1.bench hb4 ho4 hg4
            have hyF : ¬ F y := fun e => by have := P.lt HOW0.out.bn y e; omega
            have hS2 : Hid (Act6At w4 y a ∧ w4.cell? ⟨g, k, none⟩ = some (.pointer (some ⟨qs.getD k 0, 0, none⟩))) := Lib.hid ⟨hS.out.1.only (by rw [hs1]; exact HYL.out) ho4 hyF, (ho4.cell (p := ⟨g, k, none⟩) (ho1.row.own_lt g rfl) (HOW.out.off g rfl)).trans hS.out.2⟩
            refine ⟨_, rfl, hS2, ?_⟩
            simp only [Act.put, List.setIfInBounds_toArray, List.set_cons_succ, List.set_cons_zero]
            have hat := hw4.devs.at_ k hk3'
            refine held_call 15 rfl (by kernel_rfl) rfl (exec_cl Try.call24 rfl (evc (ev rfl) (evc (ev rfl) (evc (ev rfl) evn)))) ((D.write a.N a.B HLL.out hat).mono ?_)
            rintro e w5 ⟨rfl, G5, hb5, ho5, hg5⟩
            have hw5 := hw4.dev hk3' (d := ⟨(M.ds.getD k dev0).S, wrL (M.ds.getD k dev0).S (M.ds.getD k dev0).L (M.ds.getD k dev0).g a.N a.B, (M.ds.getD k dev0).g⟩) hb5 ho5 hg5
            have hyG : ¬ Gs k y := fun e => by have := HOW0.out.devs.lt k hk3' y e; omega
            have hS3 : Hid (Act6At w5 y a ∧ w5.cell? ⟨g, k, none⟩ = some (.pointer (some ⟨qs.getD k 0, 0, none⟩))) := Lib.hid ⟨hS2.out.1.only (Nat.lt_of_lt_of_le (m := w3.drew.heap.size) HYL.out ho4.size) ho5 hyG, (ho5.cell (p := ⟨g, k, none⟩) (hw4.row.own_lt g rfl) (fun e => (HOW.out.apart k hk3' g e).2.2 rfl)).trans hS2.out.2⟩
            refine ⟨_, rfl, hS3, ?_⟩
            simp only [Act.put, List.setIfInBounds_toArray, List.set_cons_succ, List.set_cons_zero]
            refine held_val 16 rfl (by kernel_rfl) (by kernel_rfl) (by kernel_rfl) rfl (fun w' hw => exec_as rfl (ev rfl)) (fun _ _ _ h => h) hS3 ?_
            simp only [Act.put, List.setIfInBounds_toArray, List.set_cons_succ, List.set_cons_zero]
            refine held_val 17 rfl (by kernel_rfl) (by kernel_rfl) (by kernel_rfl) rfl (fun w' hw => exec_as rfl (ev rfl)) (fun _ _ _ h => h) hS3 ?_
            simp only [Act.put, List.setIfInBounds_toArray, List.set_cons_succ, List.set_cons_zero]
            refine wpAnyH_done (by kernel_rfl) ?_ _
            have HOL := Lib.hid (own_wr HLIT.out hk3 a.N a.B)
            rw [← HOL.out.2.2] at hw5
            have HEND := Lib.hid hw5
            clear hw5 hw4 hS hS2 hS3 ho1 hb4 ho4 hg4 hb5 ho5 hg5 hat
            rw [HOL.out.1]
            go_wp2_with fail
            go_roundw
            case rel => exact ⟨j + 1, _, _, _, by omega, by omega, by go_num, HOL.out.2.1, HEND.out, by rw [show 100 - (j + 1) = 99 - j from by omega]; exact room_wr HK5.out _ _ _⟩
            case measure => simp [intOf]; omega
          by_cases h2 : a.Do = 2
          · rw [h2] at c0
            clear h2
            go_wp2_with fail
            refine wp_region_held (S := fun w' => Hid (Act6At w' y a ∧ w'.cell? ⟨g, k, none⟩ = some (.pointer (some ⟨qs.getD k 0, 0, none⟩)))) (by kernel_rfl) ?_
            change wpAnyH _ _ _ _ _ 10 _ _ w3.drew
            have hS : Hid (Act6At w3.drew y a ∧ w3.drew.cell? ⟨g, k, none⟩ = some (.pointer (some ⟨qs.getD k 0, 0, none⟩))) := Lib.hid ⟨HBX.out, HCELL.out⟩
            refine held_val 0 rfl (by kernel_rfl) (by kernel_rfl) (by kernel_rfl) rfl (fun w' hw => exec_mv rfl (ev rfl)) (fun _ _ _ h => h) hS ?_
            simp only [Act.put, List.setIfInBounds_toArray, List.set_cons_succ, List.set_cons_zero]
            refine held_val 1 rfl (by kernel_rfl) (by kernel_rfl) (by kernel_rfl) rfl (fun w' hw => exec_mv rfl (ev rfl)) (fun _ _ _ h => h) hS ?_
            simp only [Act.put, List.setIfInBounds_toArray, List.set_cons_succ, List.set_cons_zero]
            refine held_val 3 rfl (by kernel_rfl) (by kernel_rfl) (by kernel_rfl) rfl (fun w' hw => exec_mv rfl (ev rfl)) (fun _ _ _ h => h) hS ?_
            simp only [Act.put, List.setIfInBounds_toArray, List.set_cons_succ, List.set_cons_zero]
            refine held_val 4 rfl (by kernel_rfl) (by kernel_rfl) (by kernel_rfl) rfl (fun w' hw => exec_mv rfl (ev rfl)) (fun _ _ _ h => h) hS ?_
            simp only [Act.put, List.setIfInBounds_toArray, List.set_cons_succ, List.set_cons_zero]
            refine held_val 5 rfl (by kernel_rfl) (by kernel_rfl) (by kernel_rfl) rfl (fun w' hw => exec_ixO D rfl (ev rfl) (ev rfl) hkl) (fun _ _ _ h => h) hS ?_
            simp only [Act.put, List.setIfInBounds_toArray, List.set_cons_succ, List.set_cons_zero]
            refine held_val 6 rfl (by kernel_rfl) (by kernel_rfl) (by kernel_rfl) rfl (fun w' hw => exec_ld rfl (ev rfl) (ldDp hw.out.2)) (fun _ _ _ h => h) hS ?_
            simp only [Act.put, List.setIfInBounds_toArray, List.set_cons_succ, List.set_cons_zero]
            have ho1 := HOW.out.step (bd (Below.refl _ _))
            have hs1 : w3.drew.heap.size = w3.heap.size := rfl
            refine held_call 2 rfl (by kernel_rfl) rfl (exec_cl Try.call18 rfl (evc (ev rfl) (evc (ev rfl) evn))) ((P.flush (k : Int) HR1.out ho1.bn).mono ?_)
            rintro e w4 ⟨rfl, F4, hb4, ho4, hg4⟩
            have hw4 := ho1.bench hb4 ho4 hg4
            have hyF : ¬ F y := fun e => by have := P.lt HOW0.out.bn y e; omega
            have hS2 : Hid (Act6At w4 y a ∧ w4.cell? ⟨g, k, none⟩ = some (.pointer (some ⟨qs.getD k 0, 0, none⟩))) := Lib.hid ⟨hS.out.1.only (by rw [hs1]; exact HYL.out) ho4 hyF, (ho4.cell (p := ⟨g, k, none⟩) (ho1.row.own_lt g rfl) (HOW.out.off g rfl)).trans hS.out.2⟩
            refine ⟨_, rfl, hS2, ?_⟩
            simp only [Act.put, List.setIfInBounds_toArray, List.set_cons_succ, List.set_cons_zero]
            have hat := hw4.devs.at_ k hk3'
            refine held_call 7 rfl (by kernel_rfl) rfl (exec_cl Try.call25 rfl (evc (ev rfl) evn)) ((D.flush hat).mono ?_)
            rintro e w5 ⟨rfl, G5, hb5, ho5, hg5⟩
            have hw5 := hw4.dev hk3' (d := ⟨if (M.ds.getD k dev0).g = true then (M.ds.getD k dev0).S else flS (M.ds.getD k dev0).S (M.ds.getD k dev0).L, if (M.ds.getD k dev0).g = true then (M.ds.getD k dev0).L else [], (M.ds.getD k dev0).g⟩) hb5 ho5 hg5
            have hyG : ¬ Gs k y := fun e => by have := HOW0.out.devs.lt k hk3' y e; omega
            have hS3 : Hid (Act6At w5 y a ∧ w5.cell? ⟨g, k, none⟩ = some (.pointer (some ⟨qs.getD k 0, 0, none⟩))) := Lib.hid ⟨hS2.out.1.only (Nat.lt_of_lt_of_le (m := w3.drew.heap.size) HYL.out ho4.size) ho5 hyG, (ho5.cell (p := ⟨g, k, none⟩) (hw4.row.own_lt g rfl) (fun e => (HOW.out.apart k hk3' g e).2.2 rfl)).trans hS2.out.2⟩
            refine ⟨_, rfl, hS3, ?_⟩
            simp only [Act.put, List.setIfInBounds_toArray, List.set_cons_succ, List.set_cons_zero]
            refine held_val 8 rfl (by kernel_rfl) (by kernel_rfl) (by kernel_rfl) rfl (fun w' hw => exec_as rfl (ev rfl)) (fun _ _ _ h => h) hS3 ?_
            simp only [Act.put, List.setIfInBounds_toArray, List.set_cons_succ, List.set_cons_zero]
            refine held_val 9 rfl (by kernel_rfl) (by kernel_rfl) (by kernel_rfl) rfl (fun w' hw => exec_as rfl (ev rfl)) (fun _ _ _ h => h) hS3 ?_
            simp only [Act.put, List.setIfInBounds_toArray, List.set_cons_succ, List.set_cons_zero]
            refine wpAnyH_done (by kernel_rfl) ?_ _
            have HOL := Lib.hid (own_fl HLIT.out hk3)
            rw [← HOL.out.2.2] at hw5
            have HEND := Lib.hid hw5
            clear hw5 hw4 hS hS2 hS3 ho1 hb4 ho4 hg4 hb5 ho5 hg5 hat
            rw [HOL.out.1]
            go_wp2_with fail
            go_roundw
            case rel => exact ⟨j + 1, _, _, _, by omega, by omega, by go_num, HOL.out.2.1, HEND.out, by rw [show 100 - (j + 1) = 99 - j from by omega]; exact room_fl HK5.out _⟩
            case measure => simp [intOf]; omega
          by_cases h3 : a.Do = 3
          · rw [h3] at c0
            clear h3
            go_wp2_with fail
            refine wp_region_held (S := fun w' => Hid (Act6At w' y a ∧ w'.cell? ⟨g, k, none⟩ = some (.pointer (some ⟨qs.getD k 0, 0, none⟩)))) (by kernel_rfl) ?_
            change wpAnyH _ _ _ _ _ 10 _ _ w3.drew
            have hS : Hid (Act6At w3.drew y a ∧ w3.drew.cell? ⟨g, k, none⟩ = some (.pointer (some ⟨qs.getD k 0, 0, none⟩))) := Lib.hid ⟨HBX.out, HCELL.out⟩
            refine held_val 0 rfl (by kernel_rfl) (by kernel_rfl) (by kernel_rfl) rfl (fun w' hw => exec_mv rfl (ev rfl)) (fun _ _ _ h => h) hS ?_
            simp only [Act.put, List.setIfInBounds_toArray, List.set_cons_succ, List.set_cons_zero]
            refine held_val 1 rfl (by kernel_rfl) (by kernel_rfl) (by kernel_rfl) rfl (fun w' hw => exec_mv rfl (ev rfl)) (fun _ _ _ h => h) hS ?_
            simp only [Act.put, List.setIfInBounds_toArray, List.set_cons_succ, List.set_cons_zero]
            refine held_val 3 rfl (by kernel_rfl) (by kernel_rfl) (by kernel_rfl) rfl (fun w' hw => exec_mv rfl (ev rfl)) (fun _ _ _ h => h) hS ?_
            simp only [Act.put, List.setIfInBounds_toArray, List.set_cons_succ, List.set_cons_zero]
            refine held_val 4 rfl (by kernel_rfl) (by kernel_rfl) (by kernel_rfl) rfl (fun w' hw => exec_mv rfl (ev rfl)) (fun _ _ _ h => h) hS ?_
            simp only [Act.put, List.setIfInBounds_toArray, List.set_cons_succ, List.set_cons_zero]
            refine held_val 5 rfl (by kernel_rfl) (by kernel_rfl) (by kernel_rfl) rfl (fun w' hw => exec_ixO D rfl (ev rfl) (ev rfl) hkl) (fun _ _ _ h => h) hS ?_
            simp only [Act.put, List.setIfInBounds_toArray, List.set_cons_succ, List.set_cons_zero]
            refine held_val 6 rfl (by kernel_rfl) (by kernel_rfl) (by kernel_rfl) rfl (fun w' hw => exec_ld rfl (ev rfl) (ldDp hw.out.2)) (fun _ _ _ h => h) hS ?_
            simp only [Act.put, List.setIfInBounds_toArray, List.set_cons_succ, List.set_cons_zero]
            have ho1 := HOW.out.step (bd (Below.refl _ _))
            have hs1 : w3.drew.heap.size = w3.heap.size := rfl
            refine held_call 2 rfl (by kernel_rfl) rfl (exec_cl Try.call15 rfl (evc (ev rfl) (evc (ev rfl) evn))) ((P.fail (k : Int) ho1.bn).mono ?_)
            rintro e w4 ⟨rfl, F4, hb4, ho4, hg4⟩
            have hw4 := ho1.bench hb4 ho4 hg4
            have hyF : ¬ F y := fun e => by have := P.lt HOW0.out.bn y e; omega
            have hS2 : Hid (Act6At w4 y a ∧ w4.cell? ⟨g, k, none⟩ = some (.pointer (some ⟨qs.getD k 0, 0, none⟩))) := Lib.hid ⟨hS.out.1.only (by rw [hs1]; exact HYL.out) ho4 hyF, (ho4.cell (p := ⟨g, k, none⟩) (ho1.row.own_lt g rfl) (HOW.out.off g rfl)).trans hS.out.2⟩
            refine ⟨_, rfl, hS2, ?_⟩
            simp only [Act.put, List.setIfInBounds_toArray, List.set_cons_succ, List.set_cons_zero]
            have hat := hw4.devs.at_ k hk3'
            refine held_call 7 rfl (by kernel_rfl) rfl (exec_cl Try.call26 rfl (evc (ev rfl) evn)) ((D.fail hat).mono ?_)
            rintro e w5 ⟨rfl, G5, hb5, ho5, hg5⟩
            have hw5 := hw4.dev hk3' (d := ⟨(M.ds.getD k dev0).S, [], true⟩) hb5 ho5 hg5
            have hyG : ¬ Gs k y := fun e => by have := HOW0.out.devs.lt k hk3' y e; omega
            have hS3 : Hid (Act6At w5 y a ∧ w5.cell? ⟨g, k, none⟩ = some (.pointer (some ⟨qs.getD k 0, 0, none⟩))) := Lib.hid ⟨hS2.out.1.only (Nat.lt_of_lt_of_le (m := w3.drew.heap.size) HYL.out ho4.size) ho5 hyG, (ho5.cell (p := ⟨g, k, none⟩) (hw4.row.own_lt g rfl) (fun e => (HOW.out.apart k hk3' g e).2.2 rfl)).trans hS2.out.2⟩
            refine ⟨_, rfl, hS3, ?_⟩
            simp only [Act.put, List.setIfInBounds_toArray, List.set_cons_succ, List.set_cons_zero]
            refine held_val 8 rfl (by kernel_rfl) (by kernel_rfl) (by kernel_rfl) rfl (fun w' hw => exec_as rfl (ev rfl)) (fun _ _ _ h => h) hS3 ?_
            simp only [Act.put, List.setIfInBounds_toArray, List.set_cons_succ, List.set_cons_zero]
            refine held_val 9 rfl (by kernel_rfl) (by kernel_rfl) (by kernel_rfl) rfl (fun w' hw => exec_as rfl (ev rfl)) (fun _ _ _ h => h) hS3 ?_
            simp only [Act.put, List.setIfInBounds_toArray, List.set_cons_succ, List.set_cons_zero]
            refine wpAnyH_done (by kernel_rfl) ?_ _
            have HOL := Lib.hid (own_fa HLIT.out hk3)
            rw [← HOL.out.2.2] at hw5
            have HEND := Lib.hid hw5
            clear hw5 hw4 hS hS2 hS3 ho1 hb4 ho4 hg4 hb5 ho5 hg5 hat
            rw [HOL.out.1]
            go_wp2_with fail
            go_roundw
            case rel => exact ⟨j + 1, _, _, _, by omega, by omega, by go_num, HOL.out.2.1, HEND.out, by rw [show 100 - (j + 1) = 99 - j from by omega]; exact room_fa HK5.out.less _⟩
            case measure => simp [intOf]; omega
          by_cases h8 : a.Do = 8
          · rw [h8] at c0
            clear h8
            go_wp2_with fail
            refine wp_region_held (S := fun w' => Hid (Act6At w' y a ∧ w'.cell? ⟨g, k, none⟩ = some (.pointer (some ⟨qs.getD k 0, 0, none⟩)))) (by kernel_rfl) ?_
            change wpAnyH _ _ _ _ _ 22 _ _ w3.drew
            have hS : Hid (Act6At w3.drew y a ∧ w3.drew.cell? ⟨g, k, none⟩ = some (.pointer (some ⟨qs.getD k 0, 0, none⟩))) := Lib.hid ⟨HBX.out, HCELL.out⟩
            refine held_val 0 rfl (by kernel_rfl) (by kernel_rfl) (by kernel_rfl) rfl (fun w' hw => exec_mv rfl (ev rfl)) (fun _ _ _ h => h) hS ?_
            simp only [Act.put, List.setIfInBounds_toArray, List.set_cons_succ, List.set_cons_zero]
            refine held_val 1 rfl (by kernel_rfl) (by kernel_rfl) (by kernel_rfl) rfl (fun w' hw => exec_mv rfl (ev rfl)) (fun _ _ _ h => h) hS ?_
            simp only [Act.put, List.setIfInBounds_toArray, List.set_cons_succ, List.set_cons_zero]
            refine held_val 2 rfl (by kernel_rfl) (by kernel_rfl) (by kernel_rfl) rfl (fun w' hw => exec_faddr rfl (ev rfl) faT2) (fun _ _ _ h => h) hS ?_
            simp only [Act.put, List.setIfInBounds_toArray, List.set_cons_succ, List.set_cons_zero]
            refine held_val 3 rfl (by kernel_rfl) (by kernel_rfl) (by kernel_rfl) rfl (fun w' hw => exec_ld rfl (ev rfl) (ldI hw.out.1.2.1)) (fun _ _ _ h => h) hS ?_
            simp only [Act.put, List.setIfInBounds_toArray, List.set_cons_succ, List.set_cons_zero]
            refine held_val 4 rfl (by kernel_rfl) (by kernel_rfl) (by kernel_rfl) rfl (fun w' hw => exec_faddr rfl (ev rfl) faT3) (fun _ _ _ h => h) hS ?_
            simp only [Act.put, List.setIfInBounds_toArray, List.set_cons_succ, List.set_cons_zero]
            refine held_val 5 rfl (by kernel_rfl) (by kernel_rfl) (by kernel_rfl) rfl (fun w' hw => exec_ld rfl (ev rfl) (ldI hw.out.1.2.2.1)) (fun _ _ _ h => h) hS ?_
            simp only [Act.put, List.setIfInBounds_toArray, List.set_cons_succ, List.set_cons_zero]
            refine held_val 6 rfl (by kernel_rfl) (by kernel_rfl) (by kernel_rfl) rfl (fun w' hw => exec_faddr rfl (ev rfl) faT4) (fun _ _ _ h => h) hS ?_
            simp only [Act.put, List.setIfInBounds_toArray, List.set_cons_succ, List.set_cons_zero]
            refine held_val 7 rfl (by kernel_rfl) (by kernel_rfl) (by kernel_rfl) rfl (fun w' hw => exec_ld rfl (ev rfl) (ldU hw.out.1.2.2.2.1)) (fun _ _ _ h => h) hS ?_
            simp only [Act.put, List.setIfInBounds_toArray, List.set_cons_succ, List.set_cons_zero]
            refine held_val 9 rfl (by kernel_rfl) (by kernel_rfl) (by kernel_rfl) rfl (fun w' hw => exec_mv rfl (ev rfl)) (fun _ _ _ h => h) hS ?_
            simp only [Act.put, List.setIfInBounds_toArray, List.set_cons_succ, List.set_cons_zero]
            refine held_val 10 rfl (by kernel_rfl) (by kernel_rfl) (by kernel_rfl) rfl (fun w' hw => exec_mv rfl (ev rfl)) (fun _ _ _ h => h) hS ?_
            simp only [Act.put, List.setIfInBounds_toArray, List.set_cons_succ, List.set_cons_zero]
            refine held_val 11 rfl (by kernel_rfl) (by kernel_rfl) (by kernel_rfl) rfl (fun w' hw => exec_ixO D rfl (ev rfl) (ev rfl) hkl) (fun _ _ _ h => h) hS ?_
            simp only [Act.put, List.setIfInBounds_toArray, List.set_cons_succ, List.set_cons_zero]
            refine held_val 12 rfl (by kernel_rfl) (by kernel_rfl) (by kernel_rfl) rfl (fun w' hw => exec_ld rfl (ev rfl) (ldDp hw.out.2)) (fun _ _ _ h => h) hS ?_
            simp only [Act.put, List.setIfInBounds_toArray, List.set_cons_succ, List.set_cons_zero]
            refine held_val 13 rfl (by kernel_rfl) (by kernel_rfl) (by kernel_rfl) rfl (fun w' hw => exec_faddr rfl (ev rfl) faT2) (fun _ _ _ h => h) hS ?_
            simp only [Act.put, List.setIfInBounds_toArray, List.set_cons_succ, List.set_cons_zero]
            refine held_val 14 rfl (by kernel_rfl) (by kernel_rfl) (by kernel_rfl) rfl (fun w' hw => exec_ld rfl (ev rfl) (ldI hw.out.1.2.1)) (fun _ _ _ h => h) hS ?_
            simp only [Act.put, List.setIfInBounds_toArray, List.set_cons_succ, List.set_cons_zero]
            refine held_val 15 rfl (by kernel_rfl) (by kernel_rfl) (by kernel_rfl) rfl (fun w' hw => exec_faddr rfl (ev rfl) faT3) (fun _ _ _ h => h) hS ?_
            simp only [Act.put, List.setIfInBounds_toArray, List.set_cons_succ, List.set_cons_zero]
            refine held_val 16 rfl (by kernel_rfl) (by kernel_rfl) (by kernel_rfl) rfl (fun w' hw => exec_ld rfl (ev rfl) (ldI hw.out.1.2.2.1)) (fun _ _ _ h => h) hS ?_
            simp only [Act.put, List.setIfInBounds_toArray, List.set_cons_succ, List.set_cons_zero]
            refine held_val 17 rfl (by kernel_rfl) (by kernel_rfl) (by kernel_rfl) rfl (fun w' hw => exec_faddr rfl (ev rfl) faT4) (fun _ _ _ h => h) hS ?_
            simp only [Act.put, List.setIfInBounds_toArray, List.set_cons_succ, List.set_cons_zero]
            refine held_val 18 rfl (by kernel_rfl) (by kernel_rfl) (by kernel_rfl) rfl (fun w' hw => exec_ld rfl (ev rfl) (ldU hw.out.1.2.2.2.1)) (fun _ _ _ h => h) hS ?_
            simp only [Act.put, List.setIfInBounds_toArray, List.set_cons_succ, List.set_cons_zero]
            have ho1 := HOW.out.step (bd (Below.refl _ _))
            have hs1 : w3.drew.heap.size = w3.heap.size := rfl
            refine held_call 8 rfl (by kernel_rfl) rfl (exec_cl Try.call27 rfl (evc (ev rfl) (evc (ev rfl) (evc (ev rfl) (evc (ev rfl) (evc (ev rfl) evn)))))) ((P.rot (k : Int) a.N a.At a.By ho1.bn).mono ?_)
            rintro e w4 ⟨rfl, F4, hb4, ho4, hg4⟩
            have hw4 := ho1.bench hb4 ho4 hg4
            have hyF : ¬ F y := fun e => by have := P.lt HOW0.out.bn y e; omega
            have hS2 : Hid (Act6At w4 y a ∧ w4.cell? ⟨g, k, none⟩ = some (.pointer (some ⟨qs.getD k 0, 0, none⟩))) := Lib.hid ⟨hS.out.1.only (by rw [hs1]; exact HYL.out) ho4 hyF, (ho4.cell (p := ⟨g, k, none⟩) (ho1.row.own_lt g rfl) (HOW.out.off g rfl)).trans hS.out.2⟩
            refine ⟨_, rfl, hS2, ?_⟩
            simp only [Act.put, List.setIfInBounds_toArray, List.set_cons_succ, List.set_cons_zero]
            have hat := hw4.devs.at_ k hk3'
            refine held_call 19 rfl (by kernel_rfl) rfl (exec_cl Try.call28 rfl (evc (ev rfl) (evc (ev rfl) (evc (ev rfl) (evc (ev rfl) evn))))) ((D.rot a.N a.At a.By hat).mono ?_)
            rintro e w5 ⟨rfl, G5, hb5, ho5, hg5⟩
            have hw5 := hw4.dev hk3' (d := ⟨rotS (M.ds.getD k dev0).S (M.ds.getD k dev0).g a.N a.At a.By, (M.ds.getD k dev0).L, (M.ds.getD k dev0).g⟩) hb5 ho5 hg5
            have hyG : ¬ Gs k y := fun e => by have := HOW0.out.devs.lt k hk3' y e; omega
            have hS3 : Hid (Act6At w5 y a ∧ w5.cell? ⟨g, k, none⟩ = some (.pointer (some ⟨qs.getD k 0, 0, none⟩))) := Lib.hid ⟨hS2.out.1.only (Nat.lt_of_lt_of_le (m := w3.drew.heap.size) HYL.out ho4.size) ho5 hyG, (ho5.cell (p := ⟨g, k, none⟩) (hw4.row.own_lt g rfl) (fun e => (HOW.out.apart k hk3' g e).2.2 rfl)).trans hS2.out.2⟩
            refine ⟨_, rfl, hS3, ?_⟩
            simp only [Act.put, List.setIfInBounds_toArray, List.set_cons_succ, List.set_cons_zero]
            refine held_val 20 rfl (by kernel_rfl) (by kernel_rfl) (by kernel_rfl) rfl (fun w' hw => exec_as rfl (ev rfl)) (fun _ _ _ h => h) hS3 ?_
            simp only [Act.put, List.setIfInBounds_toArray, List.set_cons_succ, List.set_cons_zero]
            refine held_val 21 rfl (by kernel_rfl) (by kernel_rfl) (by kernel_rfl) rfl (fun w' hw => exec_as rfl (ev rfl)) (fun _ _ _ h => h) hS3 ?_
            simp only [Act.put, List.setIfInBounds_toArray, List.set_cons_succ, List.set_cons_zero]
            refine wpAnyH_done (by kernel_rfl) ?_ _
            have HOL := Lib.hid (own_ro HLIT.out hk3 a.N a.At a.By)
            rw [← HOL.out.2.2] at hw5
            have HEND := Lib.hid hw5
            clear hw5 hw4 hS hS2 hS3 ho1 hb4 ho4 hg4 hb5 ho5 hg5 hat
            rw [HOL.out.1]
            go_wp2_with fail
            go_roundw
            case rel => exact ⟨j + 1, _, _, _, by omega, by omega, by go_num, HOL.out.2.1, HEND.out, by rw [show 100 - (j + 1) = 99 - j from by omega]; exact room_ro HK5.out.less _ _ _ _⟩
            case measure => simp [intOf]; omega
          go_wp2_with fail
          go_roundw
          case rel => exact ⟨j + 1, _, _, _, by omega, by omega, by go_num, HLIT.out, HOW.out, by rw [show 100 - (j + 1) = 99 - j from by omega]; exact HK5.out.less⟩
          case measure => simp [intOf]; omega
        · have hor : ¬((j : Int) < (n : Int)) ∨ ((j : Int) < (n : Int) ∧ ¬((j : Int) < 60)) := by omega
          have HPK0 := Lib.hid (show Pk w (fun b => w.heap.size ≤ b) A1 n1 c1 Q from pk_of HQ.out (Nat.le_refl _) (fun b hb => hb) hn1 HC1.out)
          have HPK := Lib.hid (show Pk wr F A1 n1 c1 Q from pk_of (HQ.out.below HOW0.out.below) HOW0.out.leW HOW0.out.lo hn1 HC1.out)
          clear hltt
          rcases hor with hln | ⟨hln, hl6⟩
          all_goals
            go_wp2_with fail
            refine (P.crash HPK.out HOW0.out.bn).mono ?_
            rintro e u1 ⟨rfl, F1, hb1, ho1, hg1⟩
            have HO1 := Lib.hid (HOW0.out.bench hb1 ho1 hg1)
            clear hb1 ho1 hg1
            go_wp2_with fail
            go_loopw [1, 15, 16, 17, 18, 19, 20, 21, 22] (fun pk i p16 p17 p18 p19 p20 p21 p22 wr => OwnCut P D w p g cV qs Q M pk i wr) (fun _ i _ _ _ _ _ _ _ _ => 3 - (intOf i).toNat)
            case atStart => exact ⟨0, A1, n1, c1, F1, Gs, by omega, rfl, rfl, by rw [show (crIn M.ds Q 0).2 = Q from by rw [crIn]]; exact HPK0.out, by rw [show (crIn M.ds Q 0).1 = M.ds from by rw [crIn]]; exact HO1.out⟩
            case round =>
              clear HO1 HPK HPK0 HOW0 HRO
              obtain ⟨i, A', n', c', F2, G2, hi, rfl, rfl, hpk, how⟩ := hrel
              have HPK := Lib.hid hpk
              have HOW := Lib.hid how
              have hcl : (crIn M.ds Q i).1.length = 3 := (crIn_len i M.ds Q).trans HLIT.out.len
              have HCL := Lib.hid hcl
              clear hpk how hcl
              by_cases hi3 : i < 3
              · have hli : (i : Int) < 3 := by omega
                have hcell := OwnW.cellN HCL.out HOW.out (k := i) (by rw [HCL.out]; exact hi3)
                have hat := HOW.out.devs.at_ i (by rw [HCL.out]; exact hi3)
                rw [crIn_off i M.ds Q i (Nat.le_refl _)] at hat
                obtain ⟨x, hx⟩ : ∃ x, M.ds.getD i dev0 = x := ⟨_, rfl⟩
                obtain ⟨Q', hQ'⟩ : ∃ Q', (crIn M.ds Q i).2 = Q' := ⟨_, rfl⟩
                obtain ⟨q, hqq⟩ : ∃ q, qs.getD i 0 = q := ⟨_, rfl⟩
                have hpk := HPK.out
                rw [hx, hqq] at hat
                rw [hqq] at hcell
                rw [hQ'] at hpk
                have HC := Lib.hid (D.crash ((hpk.rd.below HOW.out.below).more HOW.out.leW) hpk.le hpk.cap (fun y hy h0 hf => hpk.out y hy h0 ((HOW.out.apart i (by rw [HCL.out]; exact hi3) y.block hf).1)) hat)
                have hcs := crIn_succ i M.ds Q (by rw [HLIT.out.len]; exact hi3)
                rw [hx, hQ'] at hcs
                have HCS := Lib.hid hcs
                have HPK2 := Lib.hid hpk
                have HQQ := Lib.hid hqq
                have hql : (min x.L.length n' : Nat) ≤ n' := Nat.min_le_right _ _
                have HPL := Lib.hid hpk.len
                obtain ⟨m, hm⟩ : ∃ m, min x.L.length n' = m := ⟨_, rfl⟩
                rw [hm] at HC hql
                have HM := Lib.hid hm
                have hm1 : ¬((n' : Int) < (m : Int)) := by omega
                have hm2 : ¬((m : Int) < 0) := by omega
                clear hat hx hQ' hqq hcs hpk hm HPK
                go_wp2_with fail
                refine HC.out.mono ?_
                rintro e u2 ⟨rfl, G3, hb3, ho3, hg3⟩
                have hO3 := HOW.out.dev (k := i) (by rw [HCL.out]; exact hi3) (d := ⟨crI x.S x.L Q' x.L.length, [], x.g⟩) (show D.Dv _ _ _ _ _ _ by rw [HQQ.out]; exact hb3) ho3 hg3
                rw [← HCS.out.1] at hO3
                have HO3 := Lib.hid hO3
                have HPK3 := Lib.hid (show Pk w (fun b => w.heap.size ≤ b) (tailI A' c' m) (n' - m) (c' - m) (crIn M.ds Q (i + 1)).2 from by
                  rw [HCS.out.2, HPL.out, HM.out]; exact HPK2.out.tail hql)
                clear hb3 ho3 hg3 hO3 HC hcell HCS HPK2
                go_wp2_with (first | (refine wpList_valn rfl (exec_tailI rfl rfl rfl hql) ?_) | fail)
                have hrd : ∀ t : Nat, (crIn M.ds Q (i + 1)).1.getD i dev0 = (crAll M.ds Q).getD i dev0 := fun _ => crIn_at (i + 1) M.ds Q i (by omega)
                have HRD := Lib.hid hrd
                clear hrd
                go_loopw [18, 19, 20, 21, 22] (fun z p19 p20 p21 p22 wr => ∃ t : Nat, t ≤ 8 ∧ z = .int .i64 t ∧ Below u2.heap.size u2 wr) (fun z _ _ _ _ _ => 8 - (intOf z).toNat)
                case atStart => exact ⟨0, by omega, rfl, Below.refl _ _⟩
                case round =>
                  obtain ⟨t, ht, rfl, hbl⟩ := hrel
                  have HBL := Lib.hid hbl
                  clear hbl
                  by_cases ht8 : t < 8
                  · have hlt8 : (t : Int) < 8 := by omega
                    have hOw := HO3.out.step HBL.out
                    obtain ⟨r1, r2⟩ := own_read HLIT.out Q hi3 (t : Int)
                    obtain ⟨zz, hzz⟩ : ∃ z, rdB6 (crS6 M Q) (i : Int) (t : Int) = z := ⟨_, rfl⟩
                    obtain ⟨ee, hee⟩ : ∃ z, rdE6 (crS6 M Q) (i : Int) (t : Int) = z := ⟨_, rfl⟩
                    have HC := Lib.hid (P.read (i : Int) (t : Int) hOw.bn)
                    rw [hzz, hee] at HC
                    rw [hzz] at r2
                    rw [hee] at r1
                    have HZ := Lib.hid r2
                    have HE := Lib.hid r1
                    have HOw := Lib.hid hOw
                    clear r1 r2 hzz hee hOw
                    go_wp2_with fail
                    refine HC.out.mono ?_
                    rintro e v1 ⟨rfl, hb⟩
                    have hO4 := (HOw.out.step hb).step ((Below.refl _ v1).alloc (Nat.le_refl _) (.cells (cel zz).toArray 34))
                    have HB4 := Lib.hid ((HBL.out.trans (hb.mono HBL.out.size)).alloc (Nat.le_trans HBL.out.size hb.size) (.cells (cel zz).toArray 34))
                    have hl3 : (crIn M.ds Q (i + 1)).1.length = 3 := (crIn_len (i + 1) M.ds Q).trans HLIT.out.len
                    have hcell := OwnW.cellN hl3 hO4 (k := i) (by rw [hl3]; exact hi3)
                    have hat := hO4.devs.at_ i (by rw [hl3]; exact hi3)
                    rw [HRD.out 0] at hat
                    rw [HQQ.out] at hat hcell
                    have HD := Lib.hid (D.read (t : Int) hat)
                    rw [← HZ.out, ← HE.out] at HD
                    have K1 := Lib.hid (new1 v1 (cel zz).toArray 34)
                    clear hb HC hat hl3 hO4 HOw
                    go_wp2_with (first | (refine wpList_valn rfl (exec_alloc rfl) ?_) | (refine wpList_nuln rfl (exec_fill rfl rfl rfl) ?_) | fail)
                    generalize hy1 : v1.heap.size = y1 at *
                    generalize v1.alloc (.cells (cel zz).toArray 34) = v2 at *
                    clear hy1
                    refine HD.out.mono ?_
                    rintro e v3 ⟨rfl, hb⟩
                    have HB5 := Lib.hid ((HB4.out.trans (hb.mono HB4.out.size)).alloc (Nat.le_trans HB4.out.size hb.size) (.cells (cel zz).toArray 34))
                    have R1 := Lib.hid (blk_range (blk_past (blk_keep K1.out hb) (.cells (cel zz).toArray 34)))
                    have R2 := Lib.hid (blk_range (new1 v3 (cel zz).toArray 34))
                    clear hb HD hcell K1 HB4
                    go_upto_region 41 with (first | (refine wpList_valn rfl (exec_alloc rfl) ?_) | (refine wpList_nuln rfl (exec_fill rfl rfl rfl) ?_) | fail)
                    generalize hy3 : v3.heap.size = y3 at *
                    generalize v3.alloc (.cells (cel zz).toArray 34) = v4 at *
                    clear hy3
                    go_wp2_with (first | (refine wpList_val rfl (exec_load rfl rfl R1.out) ?_) | (refine wpList_val rfl (exec_load rfl rfl R2.out) ?_) | (refine wpList_val rfl (exec_neq rfl rfl rfl) ?_) | fail)
                    go_roundw
                    case rel => exact ⟨t + 1, by omega, by go_num, HB5.out⟩
                    case measure => simp [intOf]; omega
                  · have hlt8 : ¬((t : Int) < 8) := by omega
                    have HO5 := Lib.hid (HO3.out.step HBL.out)
                    clear HBL
                    go_wp2_with fail
                    go_roundw
                    case rel => exact ⟨i + 1, _, _, _, _, _, by omega, by go_num, rfl, HPK3.out, HO5.out⟩
                    case measure => simp [intOf]; omega
              · have hli : ¬((i : Int) < 3) := by omega
                go_wp2_with fail
                refine (lives6 P wr).mono ?_
                rintro e u2 ⟨rfl, hb⟩
                have HE := Lib.hid (HOW.out.below.trans (hb.mono HOW.out.leW))
                clear hb
                go_wp2_with fail
                go_ret
                exact ⟨rfl, HE.out⟩
end Go.Proofs.Ytpcdcnnnkblhiaa
