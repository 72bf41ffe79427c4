import Derived.Test.YtbbcdhkinbmdnaaGreatDoorLoao
import Derived.Test.YtbbcdhkinbmdnaaGreatDoorLoar
import Derived.Test.YtbbcdhkinbmdnaaGreatDoorLoZ
namespace Go.Proofs.YtbbcdhkinbmdnaaGreatDoor
open Go.RowKit
set_option linter.unusedVariables false
set_option linter.unusedSimpArgs false
set_option maxRecDepth 100000
def ploC (q : Nat) (v : Value) (d c : Nat) (m : Mrk) : List Value := [ptr q, .int .i64 (d : Int), .int .u64 (c : Int), .int .u64 (m.id : Int), .int .i64 m.ring, .int .u64 (m.first : Int), .int .u64 (m.pos : Int), v]
def plgC (q : Nat) (v : Value) (x : LgS) : List Value := [ptr q, .int .i64 (x.d : Int), .int .u64 (x.cnt : Int), .int .u64 (x.own : Int), .int .i64 (x.size : Int), .int .u64 (x.fst : Int), .int .u64 (x.pos : Int), v]
def LgS.mark (x : LgS) : Mrk := ⟨x.own, (x.size : Int), x.fst, x.pos⟩
structure PLg (w : World) (p q : Nat) (v : Value) (x : LgS) : Prop where
 at_ : w.heap[p]? = some (.cells (plgC q v x).toArray 80 (0, 0))
 row : aH aY w 0 v x.nts
section
variable {w w' : World} {p q : Nat} {v : Value} {x : LgS} {G : Nat → Prop}
theorem PLg.lt (h : PLg w p q v x) : ∀ b, ch p v b → b < w.heap.size := by
 intro b hb
 rcases hb with rfl | hb
 ·exact aK h.at_
 ·exact h.row.own_lt b hb
theorem PLg.only (h : PLg w p q v x) (ho : Only G w w') (hn : ∀ b, ch p v b → ¬ G b) : PLg w' p q v x := ⟨ho.keep h.at_ (hn p (.inl rfl)), h.row.only ho fun b hb => hn b (.inr hb)⟩
theorem PLg.below (h : PLg w p q v x) (hb : Below w.heap.size w w') : PLg w' p q v x := h.only (Only.of_below (fun _ => False) hb) fun _ _ e => e
theorem PLg.rowp (h : PLg w p q v x) : v.ownBlock ≠ some p := h.row.dc h.at_ (by decide)
theorem PLg.rng (h : PLg w p q v x) : w.rangeAt p 0 (plgC q v x) := dt h.at_
theorem PLg.c0 (h : PLg w p q v x) : w.cell? ⟨p, 0, none⟩ = some (.pointer (some ⟨q, 0, none⟩)) := h.rng 0 _ rfl
theorem PLg.c1 (h : PLg w p q v x) : w.cell? ⟨p, 1, none⟩ = some (.int .i64 (x.d : Int)) := h.rng 1 _ rfl
theorem PLg.c2 (h : PLg w p q v x) : w.cell? ⟨p, 2, none⟩ = some (.int .u64 (x.cnt : Int)) := h.rng 2 _ rfl
theorem PLg.c3 (h : PLg w p q v x) : w.cell? ⟨p, 3, none⟩ = some (.int .u64 (x.own : Int)) := h.rng 3 _ rfl
theorem PLg.c4 (h : PLg w p q v x) : w.cell? ⟨p, 4, none⟩ = some (.int .i64 (x.size : Int)) := h.rng 4 _ rfl
theorem PLg.c5 (h : PLg w p q v x) : w.cell? ⟨p, 5, none⟩ = some (.int .u64 (x.fst : Int)) := h.rng 5 _ rfl
theorem PLg.c6 (h : PLg w p q v x) : w.cell? ⟨p, 6, none⟩ = some (.int .u64 (x.pos : Int)) := h.rng 6 _ rfl
theorem PLg.c7 (h : PLg w p q v x) : w.cell? ⟨p, 7, none⟩ = some (v) := h.rng 7 _ rfl
theorem PLg.free_ (h : PLg w p q v x) (j : Nat) : w.frozen? ⟨p, j, none⟩ = false := frozen_of_row w p j _ _ h.at_
theorem PLg.slice (h : PLg w p q v x) : ∃ A c, v = .slice A x.nts.length c ∧ x.nts.length ≤ c ∧ c ≤ maxLen := h.row.form
theorem faQl0 : (Instr.fieldAt 80 (.pointer (some ⟨p, 0, none⟩)) 0).run Tryz.prog w = .ok (.pointer (some ⟨p, 0, none⟩)) w := by kernel_rfl
theorem faQl1 : (Instr.fieldAt 80 (.pointer (some ⟨p, 0, none⟩)) 1).run Tryz.prog w = .ok (.pointer (some ⟨p, 1, none⟩)) w := by kernel_rfl
theorem faQl2 : (Instr.fieldAt 80 (.pointer (some ⟨p, 0, none⟩)) 2).run Tryz.prog w = .ok (.pointer (some ⟨p, 2, none⟩)) w := by kernel_rfl
theorem eK : (Instr.fieldAt 80 (.pointer (some ⟨p, 0, none⟩)) 3).run Tryz.prog w = .ok (.pointer (some ⟨p, 3, none⟩)) w := by kernel_rfl
theorem faQl4 : (Instr.fieldAt 80 (.pointer (some ⟨p, 0, none⟩)) 4).run Tryz.prog w = .ok (.pointer (some ⟨p, 7, none⟩)) w := by kernel_rfl
theorem faQm1 : (Instr.fieldAt 32 (.pointer (some ⟨p, 3, none⟩)) 1).run Tryz.prog w = .ok (.pointer (some ⟨p, 4, none⟩)) w := by kernel_rfl
theorem faQm2 : (Instr.fieldAt 32 (.pointer (some ⟨p, 3, none⟩)) 2).run Tryz.prog w = .ok (.pointer (some ⟨p, 5, none⟩)) w := by kernel_rfl
theorem faQm3 : (Instr.fieldAt 32 (.pointer (some ⟨p, 3, none⟩)) 3).run Tryz.prog w = .ok (.pointer (some ⟨p, 6, none⟩)) w := by kernel_rfl
theorem ldQp {ad : Addr} {a : Option Addr} (h : w.cell? ad = some (.pointer a)) : (Instr.loadAt 24 (.pointer (some ad))).run Tryz.prog w = .ok (.pointer a) w := by simp [go_sem, h]
theorem ldLp {ad : Addr} {a : Option Addr} (h : w.cell? ad = some (.pointer a)) : (Instr.loadAt 41 (.pointer (some ad))).run Tryz.prog w = .ok (.pointer a) w := by simp [go_sem, h]
theorem PLg.mrk (h : PLg w p q v x) : w.rangeAt p 3 (a8 x.mark) := fun j u hj => by
 have hj4 : j < 4 := by have := (List.getElem?_eq_some_iff.1 hj).1; rwa [gj] at this
 match j, hj4 with
 | 0, _ => rw [← hj]; exact h.c3
 | 1, _ => rw [← hj]; exact h.c4
 | 2, _ => rw [← hj]; exact h.c5
 | 3, _ => rw [← hj]; exact h.c6
end
def PJ (w0 : World) (H K : Nat → Prop) (w : World) (p q : Nat) (v : Value) (M : BenS) (x : LgS) : Prop :=
 ∃ G, bw.Bn w G q M ∧ PLg w p q v x ∧ (∀ b, ch p v b → ¬ G b) ∧ Only H w0 w ∧ Grow w0 H (fun b => G b ∨ ch p v b) ∧ (∀ b, K b → ¬ G b ∧ b < w.heap.size) ∧ TbG w0 H
section
variable {w0 w w' : World} {H K K' : Nat → Prop} {p q : Nat} {v : Value} {M : BenS} {x : LgS}
theorem PJ.log (h : PJ w0 H K w p q v M x) : PLg w p q v x := by obtain ⟨_, _, h, _⟩ := h; exact h
theorem PJ.tab (h : PJ w0 H K w p q v M x) : Tbs w := by obtain ⟨_, _, _, _, h, _, _, hT⟩ := h; exact hT.t.only h hT.off
theorem PJ.lt (h : PJ w0 H K w p q v M x) {b : Nat} (hb : K b) : b < w.heap.size := by obtain ⟨_, _, _, _, _, _, h, _⟩ := h; exact (h b hb).2
theorem PJ.start {G : Nat → Prop} (hb : bw.Bn w G q M) (h : PLg w p q v x) (hd : ∀ b, ch p v b → ¬ G b) (hT : TbG w (fun b => G b ∨ ch p v b)) : PJ w (fun b => G b ∨ ch p v b) (fun _ => False) w p q v M x :=
 ⟨G, hb, h, hd, Only.refl _ _, Grow.same _ _, fun _ e => e.elim, hT⟩
theorem PJ.guard (h : PJ w0 H K w p q v M x) (hb : Below w.heap.size w w') (hK : ∀ b, K' b → K b ∨ (w.heap.size ≤ b ∧ b < w'.heap.size)) : PJ w0 H K' w' p q v M x := by
 obtain ⟨G, h1, h2, h3, h4, h5, h6, h7⟩ := h
 have hlt := bw.lt h1
 have hs := hb.size
 refine ⟨G, bw.below h1 hb, h2.below hb, h3, h4.dH hb, h5, fun b e => ?_, h7⟩
 rcases hK b e with e | ⟨e1, e2⟩
 ·obtain ⟨g1, g2⟩ := h6 b e
  exact ⟨g1, by omega⟩
 ·exact ⟨fun hg => by have := hlt b hg; omega, e2⟩
theorem PJ.below (h : PJ w0 H K w p q v M x) (hb : Below w.heap.size w w') : PJ w0 H K w' p q v M x := h.guard hb fun b e => .inl e
theorem PJ.drew (h : PJ w0 H K w p q v M x) : PJ w0 H K w.drew p q v M x := h.below (bd (Below.refl _ _))
theorem PJ.less (h : PJ w0 H K w p q v M x) (hK : ∀ b, K' b → K b) : PJ w0 H K' w p q v M x := h.guard (Below.refl _ _) fun b e => .inl (hK b e)
theorem PJ.kept (h : PJ w0 H K w p q v M x) (hb : Below w.heap.size w w') : kept K w w' := fun b e => hb.block b (h.lt e)
theorem PJ.turn {G G' : Nat → Prop} {M' : BenS} (h1 : bw.Bn w G q M) (h2 : PLg w p q v x) (h3 : ∀ b, ch p v b → ¬ G b) (h4 : Only H w0 w) (h5 : Grow w0 H (fun b => G b ∨ ch p v b)) (h6 : ∀ b, K b → ¬ G b ∧ b < w.heap.size) (h7 : TbG w0 H)
  (k1 : bw.Bn w' G' q M') (k2 : Only G w w') (k3 : Grow w G G') : PJ w0 H K w' p q v M' x ∧ Proofs.YtbbcdhkinbmdnaaGreatDoor.kept K w w' := by
 have hs := k2.size
 have hs0 := h4.size
 refine ⟨⟨G', k1, h2.only k2 h3, fun b hb hg => ?_, h4.trans k2 fun b hb => h5 b (.inl hb), fun b hb => ?_, fun b hb => ?_, h7⟩, fun b hb => k2.block b (h6 b hb).2 (h6 b hb).1⟩
 ·rcases k3 b hg with e | e
  ·exact h3 b hb e
  ·have := h2.lt b hb; omega
 ·rcases hb with hb | hb
  ·rcases k3 b hb with e | e
   ·exact h5 b (.inl e)
   ·exact .inr (by omega)
  ·exact h5 b (.inr hb)
 ·obtain ⟨g1, g2⟩ := h6 b hb
  refine ⟨fun hg => ?_, by omega⟩
  rcases k3 b hg with e | e
  ·exact g1 e
  ·omega
theorem PJ.write (d n : Int) (b : Blk) (hr : Room M 1) (h : PJ w0 H K w p q v M x) : Calls Tryz.prog 6 #[.pointer (some ⟨q, 0, none⟩), .int .i64 d, .int .i64 n, blk b] w fun e w' => e = .returned (.int .i64 (wrE6 M d n)) ∧ PJ w0 H K w' p q v (dK M d n b) x ∧ Proofs.YtbbcdhkinbmdnaaGreatDoor.kept K w w' := by
 obtain ⟨G, h1, h2, h3, h4, h5, h6, h7⟩ := h
 exact (bw.write d n b hr h1).mono fun e w' ⟨k0, G', k1, k2, k3⟩ => ⟨k0, PJ.turn h1 h2 h3 h4 h5 h6 h7 k1 k2 k3⟩
theorem PJ.flush (d : Int) (hr : Room M 1) (h : PJ w0 H K w p q v M x) : Calls Tryz.prog 124 #[.pointer (some ⟨q, 0, none⟩), .int .i64 d] w fun e w' => e = .returned (.int .i64 (flE6 M d)) ∧ PJ w0 H K w' p q v (flS6 M d) x ∧ Proofs.YtbbcdhkinbmdnaaGreatDoor.kept K w w' := by
 obtain ⟨G, h1, h2, h3, h4, h5, h6, h7⟩ := h
 exact (bw.flush d hr h1).mono fun e w' ⟨k0, G', k1, k2, k3⟩ => ⟨k0, PJ.turn h1 h2 h3 h4 h5 h6 h7 k1 k2 k3⟩
theorem PJ.read (d n : Int) (h : PJ w0 H K w p q v M x) : Calls Tryz.prog 68 #[.pointer (some ⟨q, 0, none⟩), .int .i64 d, .int .i64 n] w fun e w' => e = .returned (.tuple #[blk (cq M d n), .int .i64 (bT M d n)]) ∧ Below w.heap.size w w' := by
 obtain ⟨G, h1, _⟩ := h
 exact bw.read d n h1
end
theorem PJ.grow {w0 w w3 : World} {H K : Nat → Prop} {p q : Nat} {v v' : Value} {M : BenS} {x x' : LgS} (h : PJ w0 H K w p q v M x) (ho : Only (ch p v) w w3) (hl : PLg w3 p q v' x') (hv : ∀ b, v'.ownBlock = some b → v.ownBlock = some b ∨ w.heap.size ≤ b) : PJ w0 H (fun _ => False) w3 p q v' M x' := by
 obtain ⟨G, h1, h2, h3, h4, h5, h6, h7⟩ := h
 have hlt := bw.lt h1
 have hs := h4.size
 refine ⟨G, bw.only h1 ho fun b hg e => h3 b e hg, hl, fun b hb' hg => ?_, h4.trans ho fun b e => h5 b (.inr e), fun b hb' => ?_, fun _ e => e.elim, h7⟩
 ·rcases hb' with rfl | e
  ·exact h3 _ (.inl rfl) hg
  ·rcases hv b e with e | e
   ·exact h3 b (.inr e) hg
   ·have := hlt b hg; omega
 ·rcases hb' with hg | rfl | e
  ·exact h5 b (.inl hg)
  ·exact h5 b (.inr (.inl rfl))
  ·rcases hv b e with e | e
   ·exact h5 b (.inr (.inr e))
   ·exact .inr (by omega)
theorem tol_iff {r t h n : Int} : tolB r t h n = true ↔ mayB r t h = true ∧ 0 ≤ n := by unfold tolB; exact decide_eq_true_iff
theorem rom_iff {r t h n : Int} : romB r t h n = true ↔ n ≤ r - (h - t) ∧ h + n ≤ 4611686018427387904 := by unfold romB; exact decide_eq_true_iff
theorem tak_no {r t h n : Int} (hm : ¬(mayB r t h = true ∧ 0 ≤ n)) : takN r t h n = 0 ∧ takE r t h n = 2 := by
 have : tolB r t h n = false := by unfold tolB; exact decide_eq_false hm
 unfold takN takE; rw [this]; exact ⟨rfl, rfl⟩
theorem tak_full {r t h n : Int} (hm : mayB r t h = true) (h0 : 0 ≤ n) (hr : ¬(n ≤ r - (h - t) ∧ h + n ≤ 4611686018427387904)) : takN r t h n = 0 ∧ takE r t h n = 10 := by
 have e1 : romB r t h n = false := by unfold romB; exact decide_eq_false hr
 unfold takN takE; rw [tol_iff.2 ⟨hm, h0⟩, e1]; exact ⟨rfl, rfl⟩
theorem tak_in {r t h n : Int} (hm : mayB r t h = true) (h0 : 0 ≤ n) (hr : n ≤ r - (h - t) ∧ h + n ≤ 4611686018427387904) : takN r t h n = h + n ∧ takE r t h n = 0 := by
 unfold takN takE; rw [tol_iff.2 ⟨hm, h0⟩, rom_iff.2 hr]; exact ⟨rfl, rfl⟩
set_option maxHeartbeats 1000000 in
theorem ptak (r t h n : Int) (w : World) (ht0 : 0 ≤ t) (ht1 : t ≤ 18446744073709551615) (hh0 : 0 ≤ h) (hh1 : h ≤ 18446744073709551615) (hn : n ≤ 9223372036854775807) : Calls Tryz.prog 120 #[.int .i64 r, .int .u64 t, .int .u64 h, .int .i64 n] w fun e w' => e = .returned (.tuple #[.int .u64 (takN r t h n), .int .i64 (takE r t h n)]) ∧ w = w' := by
 go_enter Tryz.func120, Tryz.ntmps120
 go_wp2_with fail
 refine (pfre r t h w ht0 ht1 hh0 hh1).mono ?_
 rintro e w1 ⟨rfl, rfl⟩
 cases hm : mayB r t h
 ·have hs := af (tak_no (r := r) (t := t) (h := h) (n := n) (by rw [hm]; simp))
  rw [(fre_no hm).1, (fre_no hm).2]
  clear hm
  go_wp2
  go_ret2
  exact ⟨eB hs.out, rfl⟩
 ·have HM := af hm
  obtain ⟨g1, g2, g3, g4, g5⟩ := eV.1 hm
  rw [(fre_in hm).1, (fre_in hm).2]
  clear hm
  by_cases h0 : 0 ≤ n
  ·by_cases hf : n ≤ r - (h - t)
   ·by_cases ha : h + n ≤ 4611686018427387904
    ·have hs := af (tak_in HM.out h0 ⟨hf, ha⟩)
     go_wp2_with fail
     refine (ahead_ok h w hh0 g4).mono ?_
     rintro e w1 ⟨rfl, rfl⟩
     go_wp2
     go_ret2
     exact ⟨eB ⟨hs.out.1.trans (by omega), hs.out.2⟩, rfl⟩
    ·have hs := af (tak_full HM.out h0 (fun x => ha x.2))
     go_wp2_with fail
     refine (ahead_ok h w hh0 g4).mono ?_
     rintro e w1 ⟨rfl, rfl⟩
     go_wp2
     go_ret2
     exact ⟨eB hs.out, rfl⟩
   ·have hs := af (tak_full HM.out h0 (fun x => hf x.1))
    go_wp2
    go_ret2
    exact ⟨eB hs.out, rfl⟩
  ·have hs := af (tak_no (r := r) (t := t) (h := h) (n := n) (fun x => h0 x.2))
   go_wp2
   go_ret2
   exact ⟨eB hs.out, rfl⟩
theorem rl_has {w : World} {G : Nat → Prop} {q : Nat} {M : BenS} (d : Int) (hb : bF.Bn w G q M) : Calls Tryz.prog 31 #[.pointer (some ⟨q, 0, none⟩), .int .i64 d] w fun e w' => e = .returned (.bool (decide (dV M d = 0))) ∧ w = w' := by
 obtain ⟨⟨v, Fs, ps, _, h⟩, _⟩ := hb
 rcases e9 M d with ⟨e, hn⟩ | ⟨e, k, rfl, hk⟩
 ·rw [e]; exact c_has_no h hn
 ·rw [e]; exact c_has_ok h hk
theorem rl_has_v {w : World} {G : Nat → Prop} {q : Nat} {M : BenS} {d : Int} {t : Bool} (hb : bF.Bn w G q M) (h : decide (dV M d = 0) = t) : Calls Tryz.prog 31 #[.pointer (some ⟨q, 0, none⟩), .int .i64 d] w fun e w' => e = .returned (.bool t) ∧ w = w' := by
 subst h; exact rl_has d hb
theorem rl_sec {w : World} {G : Nat → Prop} {q : Nat} {M : BenS} (d : Int) (hb : bF.Bn w G q M) : Calls Tryz.prog 32 #[.pointer (some ⟨q, 0, none⟩), .int .i64 d] w fun e w' => e = .returned (.int .i64 (bO M d)) ∧ w = w' := by
 obtain ⟨⟨v, Fs, ps, _, h⟩, _⟩ := hb
 exact c_sectors d h
theorem seN_le {w : World} {G : Nat → Prop} {q : Nat} {M : BenS} (d : Int) (hb : bF.Bn w G q M) : 0 ≤ bO M d ∧ bO M d ≤ 512 := by
 have hw := bF.wf hb
 unfold bO
 rcases e9 M d with ⟨e, _⟩ | ⟨e, k, rfl, hk⟩
 ·rw [if_neg (by omega)]; omega
 ·rw [if_pos e, dev_getD, Int.toNat_natCast]
  have := hw.len k hk
  omega
theorem zer_take {i : Nat} (h : i < 10) : zerT.take (i + 1) = zerT.take i ++ [.wr (i : Int) ap] := by
 rw [List.take_add_one]
 congr 1
 unfold zerT
 rw [List.getElem?_map, List.getElem?_range h]
 rfl
section
variable {ρ : Operand → Value} {o : Oper} {x1 x2 x3 x4 x5 x6 : Operand} {w : World} {q : Nat} {d r : Int} {id : Nat}
theorem exec_boxLg {q : Nat} {v : Value} {x : LgS} {y : Operand} (ho : o.op = .box 89 y) (hx : ρ y = .agg (rlgC q v x).toArray) : (execOp ρ o).run Tryz.prog w = .ok (.value (.pointer (some ⟨w.heap.size, 0, none⟩))) (w.alloc (.cells (rlgC q v x).toArray 89)) := el ho hx
end
theorem RJ.first {w : World} {G : Nat → Prop} {q : Nat} {M : BenS} {x : LgS} (hb : bF.Bn w G q M) (hx : x.nts = []) :
  RJ (w.alloc (.cells (rlgC q (.slice none 0 0) x).toArray 89)) (fun b => G b ∨ ch w.heap.size (.slice none 0 0) b) (fun _ => False) (w.alloc (.cells (rlgC q (.slice none 0 0) x).toArray 89)) w.heap.size q (.slice none 0 0) M x := by
 have hlt := bF.lt hb
 have h1 := bF.below hb ((Below.refl _ _).alloc (Nat.le_refl _) (.cells (rlgC q (.slice none 0 0) x).toArray 89))
 refine RJ.start h1 ⟨heap_alloc_new w _, by rw [hx]; exact aH.nil _ _⟩ fun b hb hg => ?_
 have := hlt b hg
 rcases hb with rfl | e
 ·omega
 ·simp [Value.ownBlock] at e
def LNew (w : World) (G : Nat → Prop) (q : Nat) (E : Int) (M' : BenS) (x : LgS) (e : Ending) (w' : World) : Prop :=
 ∃ G', bF.Bn w' G' q M' ∧ Only G w w' ∧ Grow w G G' ∧
  ((E = 0 ∧ ∃ p v, e = .returned (.tuple #[.pointer (some ⟨p, 0, none⟩), .int .i64 0]) ∧ RLg w' p q v x ∧ ∀ b, ch p v b → ¬ G' b ∧ w.heap.size ≤ b) ∨ (E ≠ 0 ∧ e = .returned (.tuple #[.pointer none, .int .i64 E])))
theorem LNew.same {w w' : World} {G : Nat → Prop} {q : Nat} {E : Int} {M : BenS} {x : LgS} {e : Ending} (hb : bF.Bn w G q M) (hw : Below w.heap.size w w') (hE : E ≠ 0) (he : e = .returned (.tuple #[.pointer none, .int .i64 E])) : LNew w G q E M x e w' :=
 ⟨G, bF.below hb hw, Only.of_below _ hw, Grow.same _ _, .inr ⟨hE, he⟩⟩
theorem LNew.of {w w1 w' : World} {G H K : Nat → Prop} {p q : Nat} {v v0 : Value} {M' : BenS} {x : LgS} {E : Int} {e : Ending} (hb : Below w.heap.size w w1) (hH : ∀ b, H b → G b ∨ ch p v0 b) (hp : ∀ b, ch p v0 b → w.heap.size ≤ b) (h : RJ w1 H K w' p q v M' x) (hG : ∀ b, G b → b < w.heap.size) (hpv : p < w1.heap.size)
  (hE : (E = 0 ∧ e = .returned (.tuple #[.pointer (some ⟨p, 0, none⟩), .int .i64 0])) ∨ (E ≠ 0 ∧ e = .returned (.tuple #[.pointer none, .int .i64 E]))) (hv : ∀ b, v.ownBlock = some b → w.heap.size ≤ b) : LNew w G q E M' x e w' := by
 obtain ⟨G', h1, h2, h3, h4, h5, _⟩ := h
 have hs := hb.size
 have hpw : w.heap.size ≤ p := hp p (.inl rfl)
 refine ⟨G', h1, (Only.of_below G hb).trans h4 fun b hb => ?_, fun b hb => ?_, ?_⟩
 ·rcases hH b hb with e | e
  ·exact .inl e
  ·exact .inr (hp b e)
 ·rcases h5 b (.inl hb) with e | e
  ·rcases hH b e with e | e
   ·exact .inl e
   ·exact .inr (hp b e)
  ·exact .inr (by omega)
 ·rcases hE with ⟨e1, e2⟩ | ⟨e1, e2⟩
  ·refine .inl ⟨e1, p, v, e2, h2, fun b hb => ⟨h3 b hb, ?_⟩⟩
   rcases hb with rfl | e
   ·exact hpw
   ·exact hv b e
  ·exact .inr ⟨e1, e2⟩
end Go.Proofs.YtbbcdhkinbmdnaaGreatDoor
