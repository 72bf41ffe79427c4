import Derived.Test.YtcafafdimcecpaaGreatDoorLsan
import Derived.Test.YtcafafdimcecpaaGreatDoorLsam
import Derived.Test.YtcafafdimcecpaaGreatDoorLsaj
import Derived.Test.YtcafafdimcecpaaGreatDoorLsab
import Derived.Laws.EntriesVeiled
import Derived.Test.YtcafafdimcecpaaGreatDoorLsZ
namespace Go.Proofs.YtcafafdimcecpaaGreatDoor
open Go.RowKit
set_option linter.unusedVariables false
set_option linter.unusedSimpArgs false
set_option maxRecDepth 100000
def ploC (q : Nat) (v : Value) (d c : Nat) (m : Mrk) : List Value := [ptr q, .int .i64 (d : Int), .int .u64 (c : Int), .int .u64 (m.id : Int), .int .i64 m.ring, .int .u64 (m.first : Int), .int .u64 (m.pos : Int), v]
def plgC (q : Nat) (v : Value) (x : LgS) : List Value := [ptr q, .int .i64 (x.d : Int), .int .u64 (x.cnt : Int), .int .u64 (x.own : Int), .int .i64 (x.size : Int), .int .u64 (x.fst : Int), .int .u64 (x.pos : Int), v]
def LgS.mark (x : LgS) : Mrk := ⟨x.own, (x.size : Int), x.fst, x.pos⟩
structure PLg (w : World) (p q : Nat) (v : Value) (x : LgS) : Prop where
  at_ : w.heap[p]? = some (.cells (plgC q v x).toArray 88 (0, 0))
  row : az aT w 0 v x.nts
section
variable {w w' : World} {p q : Nat} {v : Value} {x : LgS} {G : Nat → Prop}
theorem PLg.lt (h : PLg w p q v x) : ∀ b, cQ p v b → b < w.heap.size := by
  intro b hb
  rcases hb with rfl | hb
  · exact aS h.at_
  · exact h.row.own_lt b hb
theorem PLg.only (h : PLg w p q v x) (ho : Only G w w') (hn : ∀ b, cQ p v b → ¬ G b) : PLg w' p q v x := ⟨ho.keep h.at_ (hn p (.inl rfl)), h.row.only ho fun b hb => hn b (.inr hb)⟩
theorem PLg.below (h : PLg w p q v x) (hb : Below w.heap.size w w') : PLg w' p q v x := h.only (Only.of_below (fun _ => False) hb) fun _ _ e => e
theorem PLg.rowp (h : PLg w p q v x) : v.ownBlock ≠ some p := h.row.cw h.at_ (by decide)
theorem PLg.rng (h : PLg w p q v x) : w.rangeAt p 0 (plgC q v x) := ey h.at_
theorem PLg.c0 (h : PLg w p q v x) : w.cell? ⟨p, 0, none⟩ = some (.pointer (some ⟨q, 0, none⟩)) := h.rng 0 _ rfl
theorem PLg.c1 (h : PLg w p q v x) : w.cell? ⟨p, 1, none⟩ = some (.int .i64 (x.d : Int)) := h.rng 1 _ rfl
theorem PLg.c2 (h : PLg w p q v x) : w.cell? ⟨p, 2, none⟩ = some (.int .u64 (x.cnt : Int)) := h.rng 2 _ rfl
theorem PLg.c3 (h : PLg w p q v x) : w.cell? ⟨p, 3, none⟩ = some (.int .u64 (x.own : Int)) := h.rng 3 _ rfl
theorem PLg.c4 (h : PLg w p q v x) : w.cell? ⟨p, 4, none⟩ = some (.int .i64 (x.size : Int)) := h.rng 4 _ rfl
theorem PLg.c5 (h : PLg w p q v x) : w.cell? ⟨p, 5, none⟩ = some (.int .u64 (x.fst : Int)) := h.rng 5 _ rfl
theorem PLg.c6 (h : PLg w p q v x) : w.cell? ⟨p, 6, none⟩ = some (.int .u64 (x.pos : Int)) := h.rng 6 _ rfl
theorem PLg.c7 (h : PLg w p q v x) : w.cell? ⟨p, 7, none⟩ = some (v) := h.rng 7 _ rfl
theorem PLg.free_ (h : PLg w p q v x) (j : Nat) : w.frozen? ⟨p, j, none⟩ = false := frozen_of_row w p j _ _ h.at_
theorem PLg.slice (h : PLg w p q v x) : ∃ A c, v = .slice A x.nts.length c ∧ x.nts.length ≤ c ∧ c ≤ maxLen := h.row.form
theorem faQl0 : (Instr.fieldAt 88 (.pointer (some ⟨p, 0, none⟩)) 0).run Tryz.prog w = .ok (.pointer (some ⟨p, 0, none⟩)) w := by kernel_rfl
theorem faQl1 : (Instr.fieldAt 88 (.pointer (some ⟨p, 0, none⟩)) 1).run Tryz.prog w = .ok (.pointer (some ⟨p, 1, none⟩)) w := by kernel_rfl
theorem faQl2 : (Instr.fieldAt 88 (.pointer (some ⟨p, 0, none⟩)) 2).run Tryz.prog w = .ok (.pointer (some ⟨p, 2, none⟩)) w := by kernel_rfl
theorem dE : (Instr.fieldAt 88 (.pointer (some ⟨p, 0, none⟩)) 3).run Tryz.prog w = .ok (.pointer (some ⟨p, 3, none⟩)) w := by kernel_rfl
theorem faQl4 : (Instr.fieldAt 88 (.pointer (some ⟨p, 0, none⟩)) 4).run Tryz.prog w = .ok (.pointer (some ⟨p, 7, none⟩)) w := by kernel_rfl
theorem faQm1 : (Instr.fieldAt 67 (.pointer (some ⟨p, 3, none⟩)) 1).run Tryz.prog w = .ok (.pointer (some ⟨p, 4, none⟩)) w := by kernel_rfl
theorem faQm2 : (Instr.fieldAt 67 (.pointer (some ⟨p, 3, none⟩)) 2).run Tryz.prog w = .ok (.pointer (some ⟨p, 5, none⟩)) w := by kernel_rfl
theorem faQm3 : (Instr.fieldAt 67 (.pointer (some ⟨p, 3, none⟩)) 3).run Tryz.prog w = .ok (.pointer (some ⟨p, 6, none⟩)) w := by kernel_rfl
theorem ldQp {ad : Addr} {a : Option Addr} (h : w.cell? ad = some (.pointer a)) : (Instr.loadAt 24 (.pointer (some ad))).run Tryz.prog w = .ok (.pointer a) w := by simp [go_sem, h]
theorem ldLp {ad : Addr} {a : Option Addr} (h : w.cell? ad = some (.pointer a)) : (Instr.loadAt 29 (.pointer (some ad))).run Tryz.prog w = .ok (.pointer a) w := by simp [go_sem, h]
theorem PLg.mrk (h : PLg w p q v x) : w.rangeAt p 3 (bj x.mark) := fun j u hj => by
  have hj4 : j < 4 := by have := (List.getElem?_eq_some_iff.1 hj).1; rwa [celM_length] at this
  match j, hj4 with
  | 0, _ => rw [← hj]; exact h.c3
  | 1, _ => rw [← hj]; exact h.c4
  | 2, _ => rw [← hj]; exact h.c5
  | 3, _ => rw [← hj]; exact h.c6
end
def PJ (w0 : World) (H K : Nat → Prop) (w : World) (p q : Nat) (v : Value) (M : BenS) (x : LgS) : Prop :=
  ∃ G, bh.Bn w G q M ∧ PLg w p q v x ∧ (∀ b, cQ p v b → ¬ G b) ∧ Only H w0 w ∧ Grow w0 H (fun b => G b ∨ cQ p v b) ∧ (∀ b, K b → ¬ G b ∧ b < w.heap.size) ∧ TbG w0 H
section
variable {w0 w w' : World} {H K K' : Nat → Prop} {p q : Nat} {v : Value} {M : BenS} {x : LgS}
theorem PJ.log (h : PJ w0 H K w p q v M x) : PLg w p q v x := by obtain ⟨_, _, h, _⟩ := h; exact h
theorem PJ.tab (h : PJ w0 H K w p q v M x) : Tbs w := by obtain ⟨_, _, _, _, h, _, _, hT⟩ := h; exact hT.t.only h hT.off
theorem PJ.lt (h : PJ w0 H K w p q v M x) {b : Nat} (hb : K b) : b < w.heap.size := by obtain ⟨_, _, _, _, _, _, h, _⟩ := h; exact (h b hb).2
theorem PJ.start {G : Nat → Prop} (hb : bh.Bn w G q M) (h : PLg w p q v x) (hd : ∀ b, cQ p v b → ¬ G b) (hT : TbG w (fun b => G b ∨ cQ p v b)) : PJ w (fun b => G b ∨ cQ p v b) (fun _ => False) w p q v M x :=
  ⟨G, hb, h, hd, Only.refl _ _, Grow.same _ _, fun _ e => e.elim, hT⟩
theorem PJ.guard (h : PJ w0 H K w p q v M x) (hb : Below w.heap.size w w') (hK : ∀ b, K' b → K b ∨ (w.heap.size ≤ b ∧ b < w'.heap.size)) : PJ w0 H K' w' p q v M x := by
  obtain ⟨G, h1, h2, h3, h4, h5, h6, h7⟩ := h
  have hlt := bh.lt h1
  have hs := hb.size
  refine ⟨G, bh.below h1 hb, h2.below hb, h3, h4.cK hb, h5, fun b e => ?_, h7⟩
  rcases hK b e with e | ⟨e1, e2⟩
  · obtain ⟨g1, g2⟩ := h6 b e
    exact ⟨g1, by omega⟩
  · exact ⟨fun hg => by have := hlt b hg; omega, e2⟩
theorem PJ.below (h : PJ w0 H K w p q v M x) (hb : Below w.heap.size w w') : PJ w0 H K w' p q v M x := h.guard hb fun b e => .inl e
theorem PJ.drew (h : PJ w0 H K w p q v M x) : PJ w0 H K w.drew p q v M x := h.below (bd (Below.refl _ _))
theorem PJ.less (h : PJ w0 H K w p q v M x) (hK : ∀ b, K' b → K b) : PJ w0 H K' w p q v M x := h.guard (Below.refl _ _) fun b e => .inl (hK b e)
theorem PJ.kept (h : PJ w0 H K w p q v M x) (hb : Below w.heap.size w w') : kept K w w' := fun b e => hb.block b (h.lt e)
theorem PJ.turn {G G' : Nat → Prop} {M' : BenS} (h1 : bh.Bn w G q M) (h2 : PLg w p q v x) (h3 : ∀ b, cQ p v b → ¬ G b) (h4 : Only H w0 w) (h5 : Grow w0 H (fun b => G b ∨ cQ p v b)) (h6 : ∀ b, K b → ¬ G b ∧ b < w.heap.size) (h7 : TbG w0 H)
    (k1 : bh.Bn w' G' q M') (k2 : Only G w w') (k3 : Grow w G G') : PJ w0 H K w' p q v M' x ∧ Proofs.YtcafafdimcecpaaGreatDoor.kept K w w' := by
  have hs := k2.size
  have hs0 := h4.size
  refine ⟨⟨G', k1, h2.only k2 h3, fun b hb hg => ?_, h4.trans k2 fun b hb => h5 b (.inl hb), fun b hb => ?_, fun b hb => ?_, h7⟩, fun b hb => k2.block b (h6 b hb).2 (h6 b hb).1⟩
  · rcases k3 b hg with e | e
    · exact h3 b hb e
    · have := h2.lt b hb; omega
  · rcases hb with hb | hb
    · rcases k3 b hb with e | e
      · exact h5 b (.inl e)
      · exact .inr (by omega)
    · exact h5 b (.inr hb)
  · obtain ⟨g1, g2⟩ := h6 b hb
    refine ⟨fun hg => ?_, by omega⟩
    rcases k3 b hg with e | e
    · exact g1 e
    · omega
theorem PJ.write (d n : Int) (b : Blk) (hr : Room M 1) (h : PJ w0 H K w p q v M x) : Calls Tryz.prog 27 #[.pointer (some ⟨q, 0, none⟩), .int .i64 d, .int .i64 n, blk b] w fun e w' => e = .returned (.int .i64 (wrE6 M d n)) ∧ PJ w0 H K w' p q v (wrS6 M d n b) x ∧ Proofs.YtcafafdimcecpaaGreatDoor.kept K w w' := by
  obtain ⟨G, h1, h2, h3, h4, h5, h6, h7⟩ := h
  exact (bh.write d n b hr h1).mono fun e w' ⟨k0, G', k1, k2, k3⟩ => ⟨k0, PJ.turn h1 h2 h3 h4 h5 h6 h7 k1 k2 k3⟩
theorem PJ.flush (d : Int) (hr : Room M 1) (h : PJ w0 H K w p q v M x) : Calls Tryz.prog 119 #[.pointer (some ⟨q, 0, none⟩), .int .i64 d] w fun e w' => e = .returned (.int .i64 (flE6 M d)) ∧ PJ w0 H K w' p q v (flS6 M d) x ∧ Proofs.YtcafafdimcecpaaGreatDoor.kept K w w' := by
  obtain ⟨G, h1, h2, h3, h4, h5, h6, h7⟩ := h
  exact (bh.flush d hr h1).mono fun e w' ⟨k0, G', k1, k2, k3⟩ => ⟨k0, PJ.turn h1 h2 h3 h4 h5 h6 h7 k1 k2 k3⟩
theorem PJ.read (d n : Int) (h : PJ w0 H K w p q v M x) : Calls Tryz.prog 133 #[.pointer (some ⟨q, 0, none⟩), .int .i64 d, .int .i64 n] w fun e w' => e = .returned (.tuple #[blk (cO M d n), .int .i64 (bW M d n)]) ∧ Below w.heap.size w w' := by
  obtain ⟨G, h1, _⟩ := h
  exact bh.read d n h1
end
theorem PJ.grow {w0 w w3 : World} {H K : Nat → Prop} {p q : Nat} {v v' : Value} {M : BenS} {x x' : LgS} (h : PJ w0 H K w p q v M x) (ho : Only (cQ p v) w w3) (hl : PLg w3 p q v' x') (hv : ∀ b, v'.ownBlock = some b → v.ownBlock = some b ∨ w.heap.size ≤ b) : PJ w0 H (fun _ => False) w3 p q v' M x' := by
  obtain ⟨G, h1, h2, h3, h4, h5, h6, h7⟩ := h
  have hlt := bh.lt h1
  have hs := h4.size
  refine ⟨G, bh.only h1 ho fun b hg e => h3 b e hg, hl, fun b hb' hg => ?_, h4.trans ho fun b e => h5 b (.inr e), fun b hb' => ?_, fun _ e => e.elim, h7⟩
  · rcases hb' with rfl | e
    · exact h3 _ (.inl rfl) hg
    · rcases hv b e with e | e
      · exact h3 b (.inr e) hg
      · have := hlt b hg; omega
  · rcases hb' with hg | rfl | e
    · exact h5 b (.inl hg)
    · exact h5 b (.inr (.inl rfl))
    · rcases hv b e with e | e
      · exact h5 b (.inr (.inr e))
      · exact .inr (by omega)
theorem tol_iff {r t h n : Int} : tolB r t h n = true ↔ mayB r t h = true ∧ 0 ≤ n := by unfold tolB; exact decide_eq_true_iff
theorem rom_iff {r t h n : Int} : romB r t h n = true ↔ n ≤ r - (h - t) ∧ h + n ≤ 4611686018427387904 := by unfold romB; exact decide_eq_true_iff
theorem tak_no {r t h n : Int} (hm : ¬(mayB r t h = true ∧ 0 ≤ n)) : takN r t h n = 0 ∧ takE r t h n = 2 := by
  have : tolB r t h n = false := by unfold tolB; exact decide_eq_false hm
  unfold takN takE; rw [this]; exact ⟨rfl, rfl⟩
theorem tak_full {r t h n : Int} (hm : mayB r t h = true) (h0 : 0 ≤ n) (hr : ¬(n ≤ r - (h - t) ∧ h + n ≤ 4611686018427387904)) : takN r t h n = 0 ∧ takE r t h n = 10 := by
  have e1 : romB r t h n = false := by unfold romB; exact decide_eq_false hr
  unfold takN takE; rw [tol_iff.2 ⟨hm, h0⟩, e1]; exact ⟨rfl, rfl⟩
theorem tak_in {r t h n : Int} (hm : mayB r t h = true) (h0 : 0 ≤ n) (hr : n ≤ r - (h - t) ∧ h + n ≤ 4611686018427387904) : takN r t h n = h + n ∧ takE r t h n = 0 := by
  unfold takN takE; rw [tol_iff.2 ⟨hm, h0⟩, rom_iff.2 hr]; exact ⟨rfl, rfl⟩
set_option maxHeartbeats 1000000 in
theorem ptak (r t h n : Int) (w : World) (ht0 : 0 ≤ t) (ht1 : t ≤ 18446744073709551615) (hh0 : 0 ≤ h) (hh1 : h ≤ 18446744073709551615) (hn : n ≤ 9223372036854775807) : Calls Tryz.prog 125 #[.int .i64 r, .int .u64 t, .int .u64 h, .int .i64 n] w fun e w' => e = .returned (.tuple #[.int .u64 (takN r t h n), .int .i64 (takE r t h n)]) ∧ w = w' := by
  go_enter Tryz.func125, Tryz.ntmps125
  go_wp2_with fail
  refine (pfre r t h w ht0 ht1 hh0 hh1).mono ?_
  rintro e w1 ⟨rfl, rfl⟩
  cases hm : mayB r t h
  · have hs := Lib.hid (tak_no (r := r) (t := t) (h := h) (n := n) (by rw [hm]; simp))
    rw [(fre_no hm).1, (fre_no hm).2]
    clear hm
    go_wp2
    go_ret2
    exact ⟨e9 hs.out, rfl⟩
  · have HM := Lib.hid hm
    obtain ⟨g1, g2, g3, g4, g5⟩ := mayB_iff.1 hm
    rw [(fre_in hm).1, (fre_in hm).2]
    clear hm
    by_cases h0 : 0 ≤ n
    · by_cases hf : n ≤ r - (h - t)
      · by_cases ha : h + n ≤ 4611686018427387904
        · have hs := Lib.hid (tak_in HM.out h0 ⟨hf, ha⟩)
          go_wp2_with fail
          refine (ahead_ok h w hh0 g4).mono ?_
          rintro e w1 ⟨rfl, rfl⟩
          go_wp2
          go_ret2
          exact ⟨e9 ⟨hs.out.1.trans (by omega), hs.out.2⟩, rfl⟩
        · have hs := Lib.hid (tak_full HM.out h0 (fun x => ha x.2))
          go_wp2_with fail
          refine (ahead_ok h w hh0 g4).mono ?_
          rintro e w1 ⟨rfl, rfl⟩
          go_wp2
          go_ret2
          exact ⟨e9 hs.out, rfl⟩
      · have hs := Lib.hid (tak_full HM.out h0 (fun x => hf x.1))
        go_wp2
        go_ret2
        exact ⟨e9 hs.out, rfl⟩
    · have hs := Lib.hid (tak_no (r := r) (t := t) (h := h) (n := n) (fun x => h0 x.2))
      go_wp2
      go_ret2
      exact ⟨e9 hs.out, rfl⟩
theorem zer_take {i : Nat} (h : i < 10) : zerT.take (i + 1) = zerT.take i ++ [.wr (i : Int) al] := by
  rw [List.take_add_one]
  congr 1
  unfold zerT
  rw [List.getElem?_map, List.getElem?_range h]
  rfl
theorem psz_v {n : Int} {k : Nat} (h : sizN n = k) (w : World) : Calls Tryz.prog 115 #[.int .i64 n] w fun e w' => e = .returned (.int .i64 (k : Nat)) ∧ w = w' := by subst h; exact psize n w
theorem seN_leP {w : World} {G : Nat → Prop} {q : Nat} {M : BenS} (d : Int) (hb : bh.Bn w G q M) : 0 ≤ ca M d ∧ ca M d ≤ 512 := by
  have hw := bh.wf hb
  unfold ca
  rcases dD M d with ⟨e, _⟩ | ⟨e, k, rfl, hk⟩
  · rw [if_neg (by omega)]; omega
  · rw [if_pos e, dev_getD, Int.toNat_natCast]
    have := hw.len k hk
    omega
theorem pbmade {w : World} {G : Nat → Prop} {q : Nat} {M : BenS} (hb : bh.Bn w G q M) : Calls Tryz.prog 70 #[.pointer (some ⟨q, 0, none⟩)] w fun e w' => e = .returned (.bool true) ∧ Below w.heap.size w w' := by
  have hone := (bh.wf hb).one
  obtain ⟨v, Fs, ps, _, hb'⟩ := hb
  have HB := Lib.hid (b_devices hb')
  have HL : Hid ((0 : Int) < (M.ds.length : Int)) := Lib.hid (by omega)
  clear hb' hone
  go_enter Tryz.func70, Tryz.ntmps70
  go_wp2_with fail
  refine HB.out.mono ?_
  rintro e w1 ⟨rfl, hb1⟩
  have HB1 := Lib.hid (d8 hb1)
  have hl := HL.out
  clear hb1
  go_wp2_with fail
  go_ret
  exact ⟨bR (decide_eq_true (by have := HL.out; omega)), HB1.out⟩
theorem proom {w : World} {G : Nat → Prop} {q : Nat} {M : BenS} (d : Int) (hb : bh.Bn w G q M) : Calls Tryz.prog 71 #[.pointer (some ⟨q, 0, none⟩), .int .i64 d] w fun e w' => e = .returned (.int .i64 (ca M d - 10)) ∧ Below w.heap.size w w' := by
  have HB := Lib.hid hb
  have hs := seN_leP d hb
  have HW : Hid (IntKind.i64.wrap (ca M d - 10) = ca M d - 10) := Lib.hid (IntWalk.i64_in _ ⟨by omega, by omega⟩)
  clear hb hs
  go_enter Tryz.func71, Tryz.ntmps71
  go_upto_region 1 with fail
  refine wp_region_lit ?_
  refine ag rfl (ah rfl (ev rfl)) ?_
  simp only [Act.put, aa, ae, af]
  refine ag rfl (ah rfl (ev rfl)) ?_
  simp only [Act.put, aa, ae, af]
  refine ao rfl (aq Tryz.call132 rfl (evc (ev rfl) (evc (ev rfl) evn))) ?_
  refine (bh.ez d HB.out).mono ?_
  rintro e w1 ⟨rfl, hb1⟩
  refine ⟨_, rfl, ?_⟩
  simp only [Act.put, aa, ae, af]
  refine ag rfl (exec_sub rfl (ev rfl) evk HW.out) ?_
  simp only [Act.put, aa, ae, af]
  refine ag rfl (ar rfl (ev rfl)) ?_
  simp only [Act.put, aa, ae, af]
  refine wpList_nil ?_
  go_wp2_with fail
  go_ret
  exact ⟨rfl, hb1⟩
section
variable {p q N : Nat} {v : Value} {x : LgS} {M : BenS}
theorem plmade (w : World) (h : PLg w p q v x) : Calls Tryz.prog 56 #[.pointer (some ⟨p, 0, none⟩)] w fun e w' => e = .returned (.bool true) ∧ w = w' := by
  have c0 := h.c0
  clear h
  go_enter Tryz.func56, Tryz.ntmps56
  go_wp2_with fail
  go_ret
  exact ⟨rfl, rfl⟩
theorem plnext (w : World) (h : PLg w p q v x) (hk : LgOk M x N) : Calls Tryz.prog 57 #[.pointer (some ⟨p, 0, none⟩)] w fun e w' => e = .returned (.int .u64 ((x.next : Nat) : Int)) ∧ Below w.heap.size w w' := by
  obtain ⟨A, c, rfl, h1, h2⟩ := h.slice
  have HL := Lib.hid h
  have HN8 : Hid (x.nts.length < 18446744073709551616) := Lib.hid (by have := hk.eig; omega)
  have HNX : Hid (x.fst + x.nts.length < 18446744073709551616) := Lib.hid (by have := hk.nxt; have := hk.lim; unfold LgS.next at *; omega)
  clear h hk h1 h2
  go_enter Tryz.func57, Tryz.ntmps57
  go_upto_region 1 with fail
  refine aE (B := w.heap.size) (by kernel_rfl) ?_
  refine am rfl (fun w' hw => ah rfl (ev rfl)) ?_
  simp only [Act.put, aa, ae, af]
  refine am rfl (fun w' hw => ay rfl (ev rfl)) ?_
  simp only [Act.put, aa, ae, af]
  refine am rfl (fun w' hw => ak rfl (ev rfl) dE) ?_
  simp only [Act.put, aa, ae, af]
  refine am rfl (fun w' hw => ak rfl (ev rfl) faQm2) ?_
  simp only [Act.put, aa, ae, af]
  refine am rfl (fun w' hw => au rfl (ev rfl) (bT (PLg.c5 (HL.out.below hw)))) ?_
  simp only [Act.put, aa, ae, af]
  refine am rfl (fun w' hw => ah rfl (ev rfl)) ?_
  simp only [Act.put, aa, ae, af]
  refine am rfl (fun w' hw => ay rfl (ev rfl)) ?_
  simp only [Act.put, aa, ae, af]
  refine am rfl (fun w' hw => ak rfl (ev rfl) faQl4) ?_
  simp only [Act.put, aa, ae, af]
  refine am rfl (fun w' hw => au rfl (ev rfl) (ldNts (PLg.c7 (HL.out.below hw)))) ?_
  simp only [Act.put, aa, ae, af]
  refine am rfl (fun w' hw => a8 Tryz.underlying86 rfl (ev rfl)) ?_
  simp only [Act.put, aa, ae, af]
  refine am rfl (fun w' hw => exec_cvIU rfl (ev rfl) HN8.out) ?_
  simp only [Act.put, aa, ae, af]
  refine am rfl (fun w' hw => exec_adN rfl (ev rfl) (ev rfl) HNX.out) ?_
  simp only [Act.put, aa, ae, af]
  refine am rfl (fun w' hw => ar rfl (ev rfl)) ?_
  simp only [Act.put, aa, ae, af]
  refine wpQuiet_nil ?_
  intro w2 hw
  go_wp2_with fail
  go_ret
  exact ⟨rfl, hw⟩
theorem plbegin_0 (w : World) (h : PLg w p q v x) : Calls Tryz.prog 58 #[.pointer (some ⟨p, 0, none⟩), .int .i64 0] w fun e w' => e = .returned (.int .u64 ((x.pos : Nat) : Int)) ∧ Below w.heap.size w w' := by
  have c6 := h.c6
  clear h
  go_enter Tryz.func58, Tryz.ntmps58
  go_wp2_with fail
  go_ret
  exact ⟨rfl, Below.refl _ _⟩
theorem plbegin_s (w : World) (i : Nat) (hi : i < x.nts.length) (h : PLg w p q v x) (hk : LgOk M x N) : Calls Tryz.prog 58 #[.pointer (some ⟨p, 0, none⟩), .int .i64 ((i + 1 : Nat) : Int)] w fun e w' => e = .returned (.int .u64 ((x.pos + usd (x.nts.take (i + 1)) : Nat) : Int)) ∧ Below w.heap.size w w' := by
  obtain ⟨A, c, rfl, h1, h2⟩ := h.slice
  obtain ⟨n1, n2, n3, n4⟩ := hk.nts i hi
  have heig := hk.eig
  have hend := hk.end_ hi
  have huse := hk.use
  have hsz := hk.siz
  have hhd := hk.hed
  have hlim := hk.lim
  have htak := dA hi
  obtain ⟨g, off, rfl, hg, hc⟩ := h.row.rd.2 i hi
  obtain ⟨y, hy⟩ : ∃ y, x.nts.getD i aB = y := ⟨_, rfl⟩
  rw [show aT.d = aB from rfl, hy] at hc
  rw [hy] at n1 n2 n3 n4 hend htak
  have HL := Lib.hid h
  have HI := Lib.hid hi
  have HC := Lib.hid hc
  have HZ := Lib.hid (sz_tak (n := y) ⟨n1, n2⟩)
  have htk0 : aN y ≤ 34 := by unfold aN hd; omega
  have HTK : Hid (aN y < 18446744073709551616) := Lib.hid (by omega)
  have HAD : Hid (y.pos + aN y < 18446744073709551616) := Lib.hid (by unfold LgS.head LgS.used at hhd; rw [n3]; omega)
  have HEQ : Hid (x.pos + usd (x.nts.take (i + 1)) = y.pos + aN y) := Lib.hid (by rw [htak, n3]; omega)
  have HNE : Hid ((((i + 1 : Nat) : Int) == (0 : Int)) = false) := Lib.hid (by simp; omega)
  have HSB : Hid (IntKind.i64.wrap (((i + 1 : Nat) : Int) - 1) = (i : Int)) := Lib.hid (by rw [IntWalk.i64_in _ ⟨by omega, by omega⟩]; omega)
  rw [HEQ.out]
  clear h hk h1 h2 htk0 n1 n2 n3 n4 hend huse hsz hhd hlim htak hi hg hc hy heig HEQ
  go_enter Tryz.func58, Tryz.ntmps58
  go_upto_region 1 with fail
  refine wp_region_lit ?_
  refine ag rfl (ah rfl (ev rfl)) ?_
  simp only [Act.put, aa, ae, af]
  refine ag (v := .bool false) rfl (aG false rfl (ev rfl) evk HNE.out) ?_
  simp only [Act.put, aa, ae, af]
  refine wpList_nil ?_
  go_upto_region 3 with fail
  refine wp_region_lit ?_
  refine ag rfl (ah rfl (ev rfl)) ?_
  simp only [Act.put, aa, ae, af]
  refine ag rfl (ay rfl (ev rfl)) ?_
  simp only [Act.put, aa, ae, af]
  refine ag rfl (ak rfl (ev rfl) faQl4) ?_
  simp only [Act.put, aa, ae, af]
  refine ag rfl (au rfl (ev rfl) (ldNts (PLg.c7 HL.out))) ?_
  simp only [Act.put, aa, ae, af]
  refine ag rfl (ah rfl (ev rfl)) ?_
  simp only [Act.put, aa, ae, af]
  refine ag rfl (exec_sub rfl (ev rfl) evk HSB.out) ?_
  simp only [Act.put, aa, ae, af]
  refine ag rfl (aZ (E := aT) rfl (ev rfl) (ev rfl) HI.out) ?_
  simp only [Act.put, aa, ae, af]
  refine ag rfl (a9 (c := y) rfl (ev rfl) HC.out) ?_
  simp only [Act.put, aa, ae, af]
  refine ag rfl (cm rfl) ?_
  simp only [Act.put, aa, ae, af]
  refine aA rfl (dH (c := y) rfl (ev rfl) (ev rfl)) ?_
  simp only [Act.put, aa, ae, af]
  refine wpList_nil ?_
  have HY := Lib.hid (bU.new w y)
  have HBW := Lib.hid ((Below.refl w.heap.size w).alloc (Nat.le_refl _) (.cells (aP y).toArray 70))
  have HLE : Hid (w.heap.size < (w.alloc (.cells (aP y).toArray 70)).heap.size) := Lib.hid (by rw [World.size_alloc]; omega)
  generalize w.alloc (.cells (aP y).toArray 70) = w1 at *
  go_upto_region 4 with fail
  refine aE (B := w1.heap.size) (by kernel_rfl) ?_
  refine am rfl (fun w' hw => ak rfl (ev rfl) faNt1) ?_
  simp only [Act.put, aa, ae, af]
  refine am rfl (fun w' hw => au rfl (ev rfl) (bT (HY.out.below HLE.out hw).cells.2.1)) ?_
  simp only [Act.put, aa, ae, af]
  refine am rfl (fun w' hw => ak rfl (ev rfl) faNt2) ?_
  simp only [Act.put, aa, ae, af]
  refine am rfl (fun w' hw => au rfl (ev rfl) (bY (HY.out.below HLE.out hw).cells.2.2.1)) ?_
  simp only [Act.put, aa, ae, af]
  refine bc rfl (fun _ => aq Tryz.call115 rfl (evc (ev rfl) evn)) (aR (Nat.le_refl _) fun w' hw => (((psz_v (k := aN y) HZ.out w').mono fun e w'' hh => ⟨hh.1, by rw [hh.2]; exact Below.refl _ _⟩))) ?_
  simp only [Act.put, aa, ae, af]
  refine am rfl (fun w' hw => exec_cvIU rfl (ev rfl) HTK.out) ?_
  simp only [Act.put, aa, ae, af]
  refine am rfl (fun w' hw => exec_adN rfl (ev rfl) (ev rfl) HAD.out) ?_
  simp only [Act.put, aa, ae, af]
  refine am rfl (fun w' hw => ar rfl (ev rfl)) ?_
  simp only [Act.put, aa, ae, af]
  refine wpQuiet_nil ?_
  intro w2 hw
  go_wp2_with fail
  go_ret
  exact ⟨rfl, HBW.out.trans (hw.mono (by have := HLE.out; omega))⟩
theorem plbegin (w : World) (i : Nat) (hi : i ≤ x.nts.length) (h : PLg w p q v x) (hk : LgOk M x N) : Calls Tryz.prog 58 #[.pointer (some ⟨p, 0, none⟩), .int .i64 (i : Int)] w fun e w' => e = .returned (.int .u64 ((x.pos + usd (x.nts.take i) : Nat) : Int)) ∧ Below w.heap.size w w' := by
  cases i with
  | zero => exact (plbegin_0 w h).mono fun e w' hh => hh
  | succ i => exact plbegin_s w i hi h hk
theorem plhead (w : World) (h : PLg w p q v x) (hk : LgOk M x N) : Calls Tryz.prog 64 #[.pointer (some ⟨p, 0, none⟩)] w fun e w' => e = .returned (.int .u64 ((x.head : Nat) : Int)) ∧ Below w.heap.size w w' := by
  have HG : Hid (Calls Tryz.prog 58 #[.pointer (some ⟨p, 0, none⟩), .int .i64 (x.nts.length : Int)] w fun e w' => e = .returned (.int .u64 ((x.head : Nat) : Int)) ∧ Below w.heap.size w w') := Lib.hid ((plbegin w x.nts.length (Nat.le_refl _) h hk).mono fun e w' hh => by rw [List.take_length] at hh; exact hh)
  obtain ⟨A, c, rfl, h1, h2⟩ := h.slice
  have HL := Lib.hid h
  clear h hk h1 h2
  go_enter Tryz.func64, Tryz.ntmps64
  go_upto_region 1 with fail
  refine wp_region_lit ?_
  refine ag rfl (ah rfl (ev rfl)) ?_
  simp only [Act.put, aa, ae, af]
  refine ag rfl (ah rfl (ev rfl)) ?_
  simp only [Act.put, aa, ae, af]
  refine ag rfl (ay rfl (ev rfl)) ?_
  simp only [Act.put, aa, ae, af]
  refine ag rfl (ak rfl (ev rfl) faQl4) ?_
  simp only [Act.put, aa, ae, af]
  refine ag rfl (au rfl (ev rfl) (ldNts (PLg.c7 HL.out))) ?_
  simp only [Act.put, aa, ae, af]
  refine ag rfl (a8 Tryz.underlying86 rfl (ev rfl)) ?_
  simp only [Act.put, aa, ae, af]
  refine ao rfl (aq Tryz.call58 rfl (evc (ev rfl) (evc (ev rfl) evn))) ?_
  refine HG.out.mono ?_
  rintro e w1 ⟨rfl, hb⟩
  refine ⟨_, rfl, ?_⟩
  simp only [Act.put, aa, ae, af]
  refine ag rfl (ar rfl (ev rfl)) ?_
  simp only [Act.put, aa, ae, af]
  refine wpList_nil ?_
  go_wp2_with fail
  go_ret
  exact ⟨rfl, hb⟩
theorem plfits (w : World) (y : Nte) (h : PLg w p q v x) (hk : LgOk M x N) (hy : 1 ≤ y.cells ∧ y.cells ≤ 32) : Calls Tryz.prog 66 #[.pointer (some ⟨p, 0, none⟩), nte y] w fun e w' => e = .returned (.bool (decide (aN y ≤ x.free))) ∧ Below w.heap.size w w' := by
  have heig := hk.eig
  have huse := hk.use
  have hsz := hk.siz
  have hhd := hk.hed
  have hlim := hk.lim
  have HZ := Lib.hid (sz_tak hy)
  have htk : aN y ≤ 34 := by unfold aN hd; omega
  have hmay : mayB (x.size : Int) (x.pos : Int) (x.head : Int) = true := mayB_iff.2 ⟨by omega, by omega, by unfold LgS.head; omega, by omega, by unfold LgS.head; omega⟩
  have HTL := Lib.hid htk
  obtain ⟨E, hE⟩ : ∃ E, takE (x.size : Int) (x.pos : Int) (x.head : Int) (aN y : Int) = E := ⟨_, rfl⟩
  have HTE := Lib.hid hE
  have HEQ : Hid ((E == (0 : Int)) = decide (aN y ≤ x.free)) := Lib.hid (by
    have hh : (x.head : Int) = (x.pos : Int) + (x.used : Int) := by unfold LgS.head; omega
    by_cases hf : aN y ≤ x.free
    · rw [← hE, (tak_in hmay (by omega) ⟨by unfold LgS.free at hf; omega, by omega⟩).2, decide_eq_true hf]; rfl
    · rw [← hE, (tak_full hmay (by omega) (fun e => hf (by unfold LgS.free; omega))).2, decide_eq_false hf]; rfl)
  have HBD : Hid (x.pos ≤ 18446744073709551615 ∧ x.head ≤ 18446744073709551615) := Lib.hid ⟨by unfold LgS.head at hhd; omega, by omega⟩
  obtain ⟨h1, h2, h3⟩ := dm w y
  have HY := Lib.hid h1
  have HBW := Lib.hid h2
  have HLE := Lib.hid h3
  have HL := Lib.hid (h.below h2)
  have HK := Lib.hid hk
  clear h hk hy heig huse hsz hhd hlim htk hmay hE h1 h2 h3
  go_enter Tryz.func66, Tryz.ntmps66
  go_wp2_with (first | (refine ag rfl (cM rfl rfl) ?_) | fail)
  generalize w.alloc (.cells (aP y).toArray 70) = w1 at *
  refine aE (B := w1.heap.size) (by kernel_rfl) ?_
  refine am rfl (fun w' hw => ah rfl (ev rfl)) ?_
  simp only [Act.put, aa, ae, af]
  refine am rfl (fun w' hw => ay rfl (ev rfl)) ?_
  simp only [Act.put, aa, ae, af]
  refine am rfl (fun w' hw => ak rfl (ev rfl) dE) ?_
  simp only [Act.put, aa, ae, af]
  refine am rfl (fun w' hw => ak rfl (ev rfl) faQm1) ?_
  simp only [Act.put, aa, ae, af]
  refine am rfl (fun w' hw => au rfl (ev rfl) (bY (PLg.c4 (HL.out.below hw)))) ?_
  simp only [Act.put, aa, ae, af]
  refine am rfl (fun w' hw => ah rfl (ev rfl)) ?_
  simp only [Act.put, aa, ae, af]
  refine am rfl (fun w' hw => ay rfl (ev rfl)) ?_
  simp only [Act.put, aa, ae, af]
  refine am rfl (fun w' hw => ak rfl (ev rfl) dE) ?_
  simp only [Act.put, aa, ae, af]
  refine am rfl (fun w' hw => ak rfl (ev rfl) faQm3) ?_
  simp only [Act.put, aa, ae, af]
  refine am rfl (fun w' hw => au rfl (ev rfl) (bT (PLg.c6 (HL.out.below hw)))) ?_
  simp only [Act.put, aa, ae, af]
  refine am rfl (fun w' hw => ah rfl (ev rfl)) ?_
  simp only [Act.put, aa, ae, af]
  refine bc rfl (fun _ => aq Tryz.call64 rfl (evc (ev rfl) evn)) (aR (Nat.le_refl _) fun w' hw => (plhead w' (HL.out.below hw) HK.out)) ?_
  simp only [Act.put, aa, ae, af]
  refine am rfl (fun w' hw => ak rfl (ev rfl) faNt2) ?_
  simp only [Act.put, aa, ae, af]
  refine am rfl (fun w' hw => au rfl (ev rfl) (bY (HY.out.below HLE.out hw).cells.2.2.1)) ?_
  simp only [Act.put, aa, ae, af]
  refine bc rfl (fun _ => aq Tryz.call115 rfl (evc (ev rfl) evn)) (aR (Nat.le_refl _) fun w' hw => ((psz_v (k := aN y) HZ.out w').mono fun e w'' hh => ⟨hh.1, by rw [hh.2]; exact Below.refl _ _⟩)) ?_
  simp only [Act.put, aa, ae, af]
  refine bc rfl (fun _ => aq Tryz.call125 rfl (evc (ev rfl) (evc (ev rfl) (evc (ev rfl) (evc (ev rfl) evn))))) (aR (Nat.le_refl _) fun w' hw => ((ptak (x.size : Int) (x.pos : Int) (x.head : Int) (aN y : Int) w' (by omega) (by have := HBD.out.1; omega) (by omega) (by have := HBD.out.2; omega) (by have := HTL.out; omega)).mono fun e w'' hh => ⟨hh.1, by rw [hh.2]; exact Below.refl _ _⟩)) ?_
  simp only [Act.put, aa, ae, af]
  refine am rfl (fun w' hw => ah rfl (ev rfl)) ?_
  simp only [Act.put, aa, ae, af]
  refine am rfl (fun w' hw => aC rfl (ev rfl) rfl) ?_
  simp only [Act.put, aa, ae, af]
  refine am rfl (fun w' hw => aC rfl (ev rfl) rfl) ?_
  simp only [Act.put, aa, ae, af]
  refine am rfl (fun w' hw => ar rfl (ev rfl)) ?_
  simp only [Act.put, aa, ae, af]
  refine am rfl (fun w' hw => ar rfl (ev rfl)) ?_
  simp only [Act.put, aa, ae, af]
  refine wpQuiet_nil ?_
  intro w2 hw
  rw [HTE.out]
  have heq := HEQ.out
  go_wp2_with fail
  go_ret
  exact ⟨rfl, HBW.out.trans (hw.mono (by have := HLE.out; omega))⟩
theorem plfits_b {y : Nte} {t : Bool} (w : World) (h : PLg w p q v x) (hk : LgOk M x N) (hy : 1 ≤ y.cells ∧ y.cells ≤ 32) (ht : decide (aN y ≤ x.free) = t) : Calls Tryz.prog 66 #[.pointer (some ⟨p, 0, none⟩), nte y] w fun e w' => e = .returned (.bool t) ∧ Below w.heap.size w w' := by subst ht; exact plfits w y h hk hy
theorem plaw_0 {y : Nte} (w : World) (h : PLg w p q v x) (hk : LgOk M x N) (hy : 1 ≤ y.cells ∧ y.cells ≤ 32) (h0 : ((y.seq : Int) == (x.next : Int)) = false) : Calls Tryz.prog 136 #[.pointer (some ⟨p, 0, none⟩), nte y] w fun e w' => e = .returned (.bool false) ∧ Below w.heap.size w w' := by
  obtain ⟨k1, k2, k3⟩ := dm w y
  have HY := Lib.hid k1
  have HBW := Lib.hid k2
  have HLE := Lib.hid k3
  have HL := Lib.hid (h.below k2)
  have HK := Lib.hid hk
  have HCL := Lib.hid hy
  have H0 := Lib.hid h0
  clear h hk hy k1 k2 k3 h0
  go_enter Tryz.func136, Tryz.ntmps136
  go_wp2_with (first | (refine ag rfl (cM rfl rfl) ?_) | fail)
  generalize w.alloc (.cells (aP y).toArray 70) = w1 at *
  refine aE (B := w1.heap.size) (by kernel_rfl) ?_
  refine am rfl (fun w' hw => ak rfl (ev rfl) faNt0) ?_
  simp only [Act.put, aa, ae, af]
  refine am rfl (fun w' hw => au rfl (ev rfl) (bT (HY.out.below HLE.out hw).cells.1)) ?_
  simp only [Act.put, aa, ae, af]
  refine am rfl (fun w' hw => ah rfl (ev rfl)) ?_
  simp only [Act.put, aa, ae, af]
  refine bc rfl (fun _ => aq Tryz.call57 rfl (evc (ev rfl) evn)) (aR (Nat.le_refl _) fun w' hw => (plnext w' (HL.out.below hw) HK.out)) ?_
  simp only [Act.put, aa, ae, af]
  refine am (v := .bool false) rfl (fun w' hw => aG false rfl (ev rfl) (ev rfl) H0.out) ?_
  simp only [Act.put, aa, ae, af]
  refine fo 5 (v := .bool false) rfl (fun w' hw => ah rfl (ev rfl)) (by kernel_rfl) ?_
  simp only [br, List.take_succ_cons, List.take_zero, List.drop_succ_cons, List.drop_zero, Act.put, List.setIfInBounds_toArray, List.set_cons_succ, List.set_cons_zero]
  refine am (v := .bool false) rfl (fun w' hw => aQ rfl (ev rfl) evk) ?_
  simp only [Act.put, aa, ae, af]
  refine fo 3 (v := .bool false) rfl (fun w' hw => ah rfl (ev rfl)) (by kernel_rfl) ?_
  simp only [br, List.take_succ_cons, List.take_zero, List.drop_succ_cons, List.drop_zero, Act.put, List.setIfInBounds_toArray, List.set_cons_succ, List.set_cons_zero]
  refine am (v := .bool false) rfl (fun w' hw => aQ rfl (ev rfl) evk) ?_
  simp only [Act.put, aa, ae, af]
  refine am (v := .bool false) rfl (fun w' hw => ar rfl (ev rfl)) ?_
  simp only [Act.put, aa, ae, af]
  refine wpQuiet_nil ?_
  intro w2 hw
  go_wp2_with fail
  go_ret
  exact ⟨rfl, HBW.out.trans (hw.mono (by have := HLE.out; omega))⟩
theorem plaw_1 {y : Nte} (w : World) (h : PLg w p q v x) (hk : LgOk M x N) (hy : 1 ≤ y.cells ∧ y.cells ≤ 32) (h0 : ((y.seq : Int) == (x.next : Int)) = true) (h1 : ((y.pos : Int) == (x.head : Int)) = false) : Calls Tryz.prog 136 #[.pointer (some ⟨p, 0, none⟩), nte y] w fun e w' => e = .returned (.bool false) ∧ Below w.heap.size w w' := by
  obtain ⟨k1, k2, k3⟩ := dm w y
  have HY := Lib.hid k1
  have HBW := Lib.hid k2
  have HLE := Lib.hid k3
  have HL := Lib.hid (h.below k2)
  have HK := Lib.hid hk
  have HCL := Lib.hid hy
  have H0 := Lib.hid h0
  have H1 := Lib.hid h1
  clear h hk hy k1 k2 k3 h0 h1
  go_enter Tryz.func136, Tryz.ntmps136
  go_wp2_with (first | (refine ag rfl (cM rfl rfl) ?_) | fail)
  generalize w.alloc (.cells (aP y).toArray 70) = w1 at *
  refine aE (B := w1.heap.size) (by kernel_rfl) ?_
  refine am rfl (fun w' hw => ak rfl (ev rfl) faNt0) ?_
  simp only [Act.put, aa, ae, af]
  refine am rfl (fun w' hw => au rfl (ev rfl) (bT (HY.out.below HLE.out hw).cells.1)) ?_
  simp only [Act.put, aa, ae, af]
  refine am rfl (fun w' hw => ah rfl (ev rfl)) ?_
  simp only [Act.put, aa, ae, af]
  refine bc rfl (fun _ => aq Tryz.call57 rfl (evc (ev rfl) evn)) (aR (Nat.le_refl _) fun w' hw => (plnext w' (HL.out.below hw) HK.out)) ?_
  simp only [Act.put, aa, ae, af]
  refine am (v := .bool true) rfl (fun w' hw => aG true rfl (ev rfl) (ev rfl) H0.out) ?_
  simp only [Act.put, aa, ae, af]
  refine am (v := .bool true) rfl (fun w' hw => ah rfl (ev rfl)) ?_
  simp only [Act.put, aa, ae, af]
  refine am (aj rfl rfl rfl rfl) (fun w' hw => ak rfl (ev rfl) faNt1) ?_
  simp only [Act.put, aa, ae, af]
  refine am (aj rfl rfl rfl rfl) (fun w' hw => au rfl (ev rfl) (bT (HY.out.below HLE.out hw).cells.2.1)) ?_
  simp only [Act.put, aa, ae, af]
  refine am (aj rfl rfl rfl rfl) (fun w' hw => ah rfl (ev rfl)) ?_
  simp only [Act.put, aa, ae, af]
  refine bc (aj rfl rfl rfl rfl) (fun _ => aq Tryz.call64 rfl (evc (ev rfl) evn)) (aR (Nat.le_refl _) fun w' hw => (plhead w' (HL.out.below hw) HK.out)) ?_
  simp only [Act.put, aa, ae, af]
  refine am (v := .bool false) (aj rfl rfl rfl rfl) (fun w' hw => aG false rfl (ev rfl) (ev rfl) H1.out) ?_
  simp only [Act.put, aa, ae, af]
  refine am (v := .bool false) rfl (fun w' hw => aM rfl (ev rfl) (ev rfl)) ?_
  simp only [Act.put, aa, ae, af]
  refine fo 3 (v := .bool false) rfl (fun w' hw => ah rfl (ev rfl)) (by kernel_rfl) ?_
  simp only [br, List.take_succ_cons, List.take_zero, List.drop_succ_cons, List.drop_zero, Act.put, List.setIfInBounds_toArray, List.set_cons_succ, List.set_cons_zero]
  refine am (v := .bool false) rfl (fun w' hw => aQ rfl (ev rfl) evk) ?_
  simp only [Act.put, aa, ae, af]
  refine am (v := .bool false) rfl (fun w' hw => ar rfl (ev rfl)) ?_
  simp only [Act.put, aa, ae, af]
  refine wpQuiet_nil ?_
  intro w2 hw
  go_wp2_with fail
  go_ret
  exact ⟨rfl, HBW.out.trans (hw.mono (by have := HLE.out; omega))⟩
theorem plaw_2 {y : Nte} (w : World) (h : PLg w p q v x) (hk : LgOk M x N) (hy : 1 ≤ y.cells ∧ y.cells ≤ 32) (h0 : ((y.seq : Int) == (x.next : Int)) = true) (h1 : ((y.pos : Int) == (x.head : Int)) = true) (h2 : decide (aN y ≤ x.free) = false) : Calls Tryz.prog 136 #[.pointer (some ⟨p, 0, none⟩), nte y] w fun e w' => e = .returned (.bool false) ∧ Below w.heap.size w w' := by
  obtain ⟨k1, k2, k3⟩ := dm w y
  have HY := Lib.hid k1
  have HBW := Lib.hid k2
  have HLE := Lib.hid k3
  have HL := Lib.hid (h.below k2)
  have HK := Lib.hid hk
  have HCL := Lib.hid hy
  have H0 := Lib.hid h0
  have H1 := Lib.hid h1
  have H2 := Lib.hid h2
  clear h hk hy k1 k2 k3 h0 h1 h2
  go_enter Tryz.func136, Tryz.ntmps136
  go_wp2_with (first | (refine ag rfl (cM rfl rfl) ?_) | fail)
  generalize w.alloc (.cells (aP y).toArray 70) = w1 at *
  refine aE (B := w1.heap.size) (by kernel_rfl) ?_
  refine am rfl (fun w' hw => ak rfl (ev rfl) faNt0) ?_
  simp only [Act.put, aa, ae, af]
  refine am rfl (fun w' hw => au rfl (ev rfl) (bT (HY.out.below HLE.out hw).cells.1)) ?_
  simp only [Act.put, aa, ae, af]
  refine am rfl (fun w' hw => ah rfl (ev rfl)) ?_
  simp only [Act.put, aa, ae, af]
  refine bc rfl (fun _ => aq Tryz.call57 rfl (evc (ev rfl) evn)) (aR (Nat.le_refl _) fun w' hw => (plnext w' (HL.out.below hw) HK.out)) ?_
  simp only [Act.put, aa, ae, af]
  refine am (v := .bool true) rfl (fun w' hw => aG true rfl (ev rfl) (ev rfl) H0.out) ?_
  simp only [Act.put, aa, ae, af]
  refine am (v := .bool true) rfl (fun w' hw => ah rfl (ev rfl)) ?_
  simp only [Act.put, aa, ae, af]
  refine am (aj rfl rfl rfl rfl) (fun w' hw => ak rfl (ev rfl) faNt1) ?_
  simp only [Act.put, aa, ae, af]
  refine am (aj rfl rfl rfl rfl) (fun w' hw => au rfl (ev rfl) (bT (HY.out.below HLE.out hw).cells.2.1)) ?_
  simp only [Act.put, aa, ae, af]
  refine am (aj rfl rfl rfl rfl) (fun w' hw => ah rfl (ev rfl)) ?_
  simp only [Act.put, aa, ae, af]
  refine bc (aj rfl rfl rfl rfl) (fun _ => aq Tryz.call64 rfl (evc (ev rfl) evn)) (aR (Nat.le_refl _) fun w' hw => (plhead w' (HL.out.below hw) HK.out)) ?_
  simp only [Act.put, aa, ae, af]
  refine am (v := .bool true) (aj rfl rfl rfl rfl) (fun w' hw => aG true rfl (ev rfl) (ev rfl) H1.out) ?_
  simp only [Act.put, aa, ae, af]
  refine am (v := .bool true) rfl (fun w' hw => aM rfl (ev rfl) (ev rfl)) ?_
  simp only [Act.put, aa, ae, af]
  refine am (v := .bool true) rfl (fun w' hw => ah rfl (ev rfl)) ?_
  simp only [Act.put, aa, ae, af]
  refine am (aj rfl rfl rfl rfl) (fun w' hw => ah rfl (ev rfl)) ?_
  simp only [Act.put, aa, ae, af]
  refine am (aj rfl rfl rfl rfl) (fun w' hw => a9 rfl (ev rfl) (HY.out.below HLE.out hw).range) ?_
  simp only [Act.put, aa, ae, af]
  refine bc (aj rfl rfl rfl rfl) (fun _ => aq Tryz.call66 rfl (evc (ev rfl) (evc (ev rfl) evn))) (aR (Nat.le_refl _) fun w' hw => (plfits_b w' (HL.out.below hw) HK.out HCL.out H2.out)) ?_
  simp only [Act.put, aa, ae, af]
  refine am (v := .bool false) rfl (fun w' hw => aM rfl (ev rfl) (ev rfl)) ?_
  simp only [Act.put, aa, ae, af]
  refine am (v := .bool false) rfl (fun w' hw => ar rfl (ev rfl)) ?_
  simp only [Act.put, aa, ae, af]
  refine wpQuiet_nil ?_
  intro w2 hw
  go_wp2_with fail
  go_ret
  exact ⟨rfl, HBW.out.trans (hw.mono (by have := HLE.out; omega))⟩
theorem plaw_3 {y : Nte} (w : World) (h : PLg w p q v x) (hk : LgOk M x N) (hy : 1 ≤ y.cells ∧ y.cells ≤ 32) (h0 : ((y.seq : Int) == (x.next : Int)) = true) (h1 : ((y.pos : Int) == (x.head : Int)) = true) (h2 : decide (aN y ≤ x.free) = true) : Calls Tryz.prog 136 #[.pointer (some ⟨p, 0, none⟩), nte y] w fun e w' => e = .returned (.bool true) ∧ Below w.heap.size w w' := by
  obtain ⟨k1, k2, k3⟩ := dm w y
  have HY := Lib.hid k1
  have HBW := Lib.hid k2
  have HLE := Lib.hid k3
  have HL := Lib.hid (h.below k2)
  have HK := Lib.hid hk
  have HCL := Lib.hid hy
  have H0 := Lib.hid h0
  have H1 := Lib.hid h1
  have H2 := Lib.hid h2
  clear h hk hy k1 k2 k3 h0 h1 h2
  go_enter Tryz.func136, Tryz.ntmps136
  go_wp2_with (first | (refine ag rfl (cM rfl rfl) ?_) | fail)
  generalize w.alloc (.cells (aP y).toArray 70) = w1 at *
  refine aE (B := w1.heap.size) (by kernel_rfl) ?_
  refine am rfl (fun w' hw => ak rfl (ev rfl) faNt0) ?_
  simp only [Act.put, aa, ae, af]
  refine am rfl (fun w' hw => au rfl (ev rfl) (bT (HY.out.below HLE.out hw).cells.1)) ?_
  simp only [Act.put, aa, ae, af]
  refine am rfl (fun w' hw => ah rfl (ev rfl)) ?_
  simp only [Act.put, aa, ae, af]
  refine bc rfl (fun _ => aq Tryz.call57 rfl (evc (ev rfl) evn)) (aR (Nat.le_refl _) fun w' hw => (plnext w' (HL.out.below hw) HK.out)) ?_
  simp only [Act.put, aa, ae, af]
  refine am (v := .bool true) rfl (fun w' hw => aG true rfl (ev rfl) (ev rfl) H0.out) ?_
  simp only [Act.put, aa, ae, af]
  refine am (v := .bool true) rfl (fun w' hw => ah rfl (ev rfl)) ?_
  simp only [Act.put, aa, ae, af]
  refine am (aj rfl rfl rfl rfl) (fun w' hw => ak rfl (ev rfl) faNt1) ?_
  simp only [Act.put, aa, ae, af]
  refine am (aj rfl rfl rfl rfl) (fun w' hw => au rfl (ev rfl) (bT (HY.out.below HLE.out hw).cells.2.1)) ?_
  simp only [Act.put, aa, ae, af]
  refine am (aj rfl rfl rfl rfl) (fun w' hw => ah rfl (ev rfl)) ?_
  simp only [Act.put, aa, ae, af]
  refine bc (aj rfl rfl rfl rfl) (fun _ => aq Tryz.call64 rfl (evc (ev rfl) evn)) (aR (Nat.le_refl _) fun w' hw => (plhead w' (HL.out.below hw) HK.out)) ?_
  simp only [Act.put, aa, ae, af]
  refine am (v := .bool true) (aj rfl rfl rfl rfl) (fun w' hw => aG true rfl (ev rfl) (ev rfl) H1.out) ?_
  simp only [Act.put, aa, ae, af]
  refine am (v := .bool true) rfl (fun w' hw => aM rfl (ev rfl) (ev rfl)) ?_
  simp only [Act.put, aa, ae, af]
  refine am (v := .bool true) rfl (fun w' hw => ah rfl (ev rfl)) ?_
  simp only [Act.put, aa, ae, af]
  refine am (aj rfl rfl rfl rfl) (fun w' hw => ah rfl (ev rfl)) ?_
  simp only [Act.put, aa, ae, af]
  refine am (aj rfl rfl rfl rfl) (fun w' hw => a9 rfl (ev rfl) (HY.out.below HLE.out hw).range) ?_
  simp only [Act.put, aa, ae, af]
  refine bc (aj rfl rfl rfl rfl) (fun _ => aq Tryz.call66 rfl (evc (ev rfl) (evc (ev rfl) evn))) (aR (Nat.le_refl _) fun w' hw => (plfits_b w' (HL.out.below hw) HK.out HCL.out H2.out)) ?_
  simp only [Act.put, aa, ae, af]
  refine am (v := .bool true) rfl (fun w' hw => aM rfl (ev rfl) (ev rfl)) ?_
  simp only [Act.put, aa, ae, af]
  refine am (v := .bool true) rfl (fun w' hw => ar rfl (ev rfl)) ?_
  simp only [Act.put, aa, ae, af]
  refine wpQuiet_nil ?_
  intro w2 hw
  go_wp2_with fail
  go_ret
  exact ⟨rfl, HBW.out.trans (hw.mono (by have := HLE.out; omega))⟩
def awtB (x : LgS) (y : Nte) : Bool := decide (y.seq = x.next ∧ y.pos = x.head ∧ aN y ≤ x.free)
theorem plawaited {y : Nte} {t : Bool} (w : World) (h : PLg w p q v x) (hk : LgOk M x N) (hy : 1 ≤ y.cells ∧ y.cells ≤ 32) (ht : awtB x y = t) : Calls Tryz.prog 136 #[.pointer (some ⟨p, 0, none⟩), nte y] w fun e w' => e = .returned (.bool t) ∧ Below w.heap.size w w' := by
  subst ht
  unfold awtB
  by_cases h0 : y.seq = x.next
  · by_cases h1 : y.pos = x.head
    · by_cases h2 : aN y ≤ x.free
      · rw [decide_eq_true ⟨h0, h1, h2⟩]
        exact plaw_3 w h hk hy (by simp [h0]) (by simp [h1]) (decide_eq_true h2)
      · rw [decide_eq_false (fun e => h2 e.2.2)]
        exact plaw_2 w h hk hy (by simp [h0]) (by simp [h1]) (decide_eq_false h2)
    · rw [decide_eq_false (fun e => h1 e.2.1)]
      exact plaw_1 w h hk hy (by simp [h0]) (by simp; omega)
  · rw [decide_eq_false (fun e => h0 e.1)]
    exact plaw_0 w h hk hy (by simp; omega)
theorem pllive (w : World) (h : PLg w p q v x) (hk : LgOk M x N) : Calls Tryz.prog 23 #[.pointer (some ⟨p, 0, none⟩)] w fun e w' => e = .returned (.tuple #[.int .u64 ((x.fst : Nat) : Int), .int .u64 ((x.next : Nat) : Int)]) ∧ Below w.heap.size w w' := by
  have HL := Lib.hid h
  have HK := Lib.hid hk
  clear h hk
  go_enter Tryz.func23, Tryz.ntmps23
  go_upto_region 1 with fail
  refine wp_region_lit ?_
  refine ag rfl (ah rfl (ev rfl)) ?_
  simp only [Act.put, aa, ae, af]
  refine ao rfl (aq Tryz.call56 rfl (evc (ev rfl) evn)) ?_
  refine (plmade _ HL.out).mono ?_
  rintro e w1 ⟨rfl, rfl⟩
  refine ⟨_, rfl, ?_⟩
  simp only [Act.put, aa, ae, af]
  refine ag (v := .bool false) rfl (aX true rfl (ev rfl)) ?_
  simp only [Act.put, aa, ae, af]
  refine wpList_nil ?_
  go_upto_region 3 with fail
  refine aE (B := w.heap.size) (by kernel_rfl) ?_
  refine am rfl (fun w' hw => ah rfl (ev rfl)) ?_
  simp only [Act.put, aa, ae, af]
  refine am rfl (fun w' hw => ay rfl (ev rfl)) ?_
  simp only [Act.put, aa, ae, af]
  refine am rfl (fun w' hw => ak rfl (ev rfl) dE) ?_
  simp only [Act.put, aa, ae, af]
  refine am rfl (fun w' hw => ak rfl (ev rfl) faQm2) ?_
  simp only [Act.put, aa, ae, af]
  refine am rfl (fun w' hw => au rfl (ev rfl) (bT (PLg.c5 (HL.out.below hw)))) ?_
  simp only [Act.put, aa, ae, af]
  refine am rfl (fun w' hw => ah rfl (ev rfl)) ?_
  simp only [Act.put, aa, ae, af]
  refine bc rfl (fun _ => aq Tryz.call57 rfl (evc (ev rfl) evn)) (aR (Nat.le_refl _) fun w' hw => (plnext w' (HL.out.below hw) HK.out)) ?_
  simp only [Act.put, aa, ae, af]
  refine am rfl (fun w' hw => ar rfl (ev rfl)) ?_
  simp only [Act.put, aa, ae, af]
  refine am rfl (fun w' hw => ar rfl (ev rfl)) ?_
  simp only [Act.put, aa, ae, af]
  refine wpQuiet_nil ?_
  intro w2 hw
  go_wp2_with fail
  go_ret2
  exact ⟨rfl, hw⟩
theorem plfree (w : World) (h : PLg w p q v x) (hk : LgOk M x N) : Calls Tryz.prog 31 #[.pointer (some ⟨p, 0, none⟩)] w fun e w' => e = .returned (.int .i64 ((x.free : Nat) : Int)) ∧ Below w.heap.size w w' := by
  have HL := Lib.hid h
  have HK := Lib.hid hk
  have huse := hk.use
  have hsz := hk.siz
  have hhd := hk.hed
  have hlim := hk.lim
  have hmay : mayB (x.size : Int) (x.pos : Int) (x.head : Int) = true := mayB_iff.2 ⟨by omega, by omega, by unfold LgS.head; omega, by omega, by unfold LgS.head; omega⟩
  have HF := Lib.hid (fre_in hmay)
  have HFE : Hid ((x.size : Int) - ((x.head : Int) - (x.pos : Int)) = ((x.free : Nat) : Int)) := Lib.hid (by unfold LgS.free LgS.head; omega)
  have HBD : Hid (x.pos ≤ 18446744073709551615 ∧ x.head ≤ 18446744073709551615) := Lib.hid ⟨by unfold LgS.head at hhd; omega, by omega⟩
  clear h hk huse hsz hhd hlim hmay
  go_enter Tryz.func31, Tryz.ntmps31
  go_upto_region 1 with fail
  refine wp_region_lit ?_
  refine ag rfl (ah rfl (ev rfl)) ?_
  simp only [Act.put, aa, ae, af]
  refine ao rfl (aq Tryz.call56 rfl (evc (ev rfl) evn)) ?_
  refine (plmade _ HL.out).mono ?_
  rintro e w1 ⟨rfl, rfl⟩
  refine ⟨_, rfl, ?_⟩
  simp only [Act.put, aa, ae, af]
  refine ag (v := .bool false) rfl (aX true rfl (ev rfl)) ?_
  simp only [Act.put, aa, ae, af]
  refine wpList_nil ?_
  go_upto_region 3 with fail
  refine aE (B := w.heap.size) (by kernel_rfl) ?_
  refine am rfl (fun w' hw => ah rfl (ev rfl)) ?_
  simp only [Act.put, aa, ae, af]
  refine am rfl (fun w' hw => ay rfl (ev rfl)) ?_
  simp only [Act.put, aa, ae, af]
  refine am rfl (fun w' hw => ak rfl (ev rfl) dE) ?_
  simp only [Act.put, aa, ae, af]
  refine am rfl (fun w' hw => ak rfl (ev rfl) faQm1) ?_
  simp only [Act.put, aa, ae, af]
  refine am rfl (fun w' hw => au rfl (ev rfl) (bY (PLg.c4 (HL.out.below hw)))) ?_
  simp only [Act.put, aa, ae, af]
  refine am rfl (fun w' hw => ah rfl (ev rfl)) ?_
  simp only [Act.put, aa, ae, af]
  refine am rfl (fun w' hw => ay rfl (ev rfl)) ?_
  simp only [Act.put, aa, ae, af]
  refine am rfl (fun w' hw => ak rfl (ev rfl) dE) ?_
  simp only [Act.put, aa, ae, af]
  refine am rfl (fun w' hw => ak rfl (ev rfl) faQm3) ?_
  simp only [Act.put, aa, ae, af]
  refine am rfl (fun w' hw => au rfl (ev rfl) (bT (PLg.c6 (HL.out.below hw)))) ?_
  simp only [Act.put, aa, ae, af]
  refine am rfl (fun w' hw => ah rfl (ev rfl)) ?_
  simp only [Act.put, aa, ae, af]
  refine bc rfl (fun _ => aq Tryz.call64 rfl (evc (ev rfl) evn)) (aR (Nat.le_refl _) fun w' hw => (plhead w' (HL.out.below hw) HK.out)) ?_
  simp only [Act.put, aa, ae, af]
  refine bc rfl (fun _ => aq Tryz.call97 rfl (evc (ev rfl) (evc (ev rfl) (evc (ev rfl) evn)))) (aR (Nat.le_refl _) fun w' hw => ((pfre (x.size : Int) (x.pos : Int) (x.head : Int) w' (by omega) (by have := HBD.out.1; omega) (by omega) (by have := HBD.out.2; omega)).mono fun e w'' hh => ⟨hh.1, by rw [hh.2]; exact Below.refl _ _⟩)) ?_
  simp only [Act.put, aa, ae, af]
  refine am rfl (fun w' hw => ah rfl (ev rfl)) ?_
  simp only [Act.put, aa, ae, af]
  refine am rfl (fun w' hw => aC rfl (ev rfl) rfl) ?_
  simp only [Act.put, aa, ae, af]
  refine am rfl (fun w' hw => aC rfl (ev rfl) rfl) ?_
  simp only [Act.put, aa, ae, af]
  refine am rfl (fun w' hw => ar rfl (ev rfl)) ?_
  simp only [Act.put, aa, ae, af]
  refine am rfl (fun w' hw => ar rfl (ev rfl)) ?_
  simp only [Act.put, aa, ae, af]
  refine wpQuiet_nil ?_
  intro w2 hw
  rw [HF.out.1, HF.out.2, HFE.out]
  go_wp2_with fail
  go_ret
  exact ⟨rfl, hw⟩
theorem plid (w : World) (h : PLg w p q v x) : Calls Tryz.prog 36 #[.pointer (some ⟨p, 0, none⟩)] w fun e w' => e = .returned (.int .u64 ((x.own : Nat) : Int)) ∧ Below w.heap.size w w' := by
  have HL := Lib.hid h
  clear h
  go_enter Tryz.func36, Tryz.ntmps36
  go_upto_region 1 with fail
  refine wp_region_lit ?_
  refine ag rfl (ah rfl (ev rfl)) ?_
  simp only [Act.put, aa, ae, af]
  refine ao rfl (aq Tryz.call56 rfl (evc (ev rfl) evn)) ?_
  refine (plmade _ HL.out).mono ?_
  rintro e w1 ⟨rfl, rfl⟩
  refine ⟨_, rfl, ?_⟩
  simp only [Act.put, aa, ae, af]
  refine ag (v := .bool false) rfl (aX true rfl (ev rfl)) ?_
  simp only [Act.put, aa, ae, af]
  refine wpList_nil ?_
  have c := HL.out.c3
  go_wp2_with fail
  go_ret
  exact ⟨rfl, Below.refl _ _⟩
theorem plring (w : World) (h : PLg w p q v x) : Calls Tryz.prog 32 #[.pointer (some ⟨p, 0, none⟩)] w fun e w' => e = .returned (.int .i64 ((x.size : Nat) : Int)) ∧ Below w.heap.size w w' := by
  have HL := Lib.hid h
  clear h
  go_enter Tryz.func32, Tryz.ntmps32
  go_upto_region 1 with fail
  refine wp_region_lit ?_
  refine ag rfl (ah rfl (ev rfl)) ?_
  simp only [Act.put, aa, ae, af]
  refine ao rfl (aq Tryz.call56 rfl (evc (ev rfl) evn)) ?_
  refine (plmade _ HL.out).mono ?_
  rintro e w1 ⟨rfl, rfl⟩
  refine ⟨_, rfl, ?_⟩
  simp only [Act.put, aa, ae, af]
  refine ag (v := .bool false) rfl (aX true rfl (ev rfl)) ?_
  simp only [Act.put, aa, ae, af]
  refine wpList_nil ?_
  have c := HL.out.c4
  go_wp2_with fail
  go_ret
  exact ⟨rfl, Below.refl _ _⟩
end
structure Fv where
  f : FuncId
  fst : List Value
  cap : List Value
  ok : ∀ (args : Array Value) (w : World), (callFunc f args).run Tryz.prog w = .ok (.enter f args) w
def Fv.val (s : Fv) : Value := .func (.func s.f) s.fst.toArray s.cap.toArray
def FnE : Elt Fv where
  s := 110
  t := 108
  n := 1
  by_ := 8
  cel s := [s.val]
  d := ⟨61, [], [], Tryz.call61⟩
  z := .nilFunc
  pos := by omega
  small := by omega
  len _ := rfl
  one s v hv := by simp at hv; subst hv; rfl
  und := Tryz.underlying110
  info := by kernel_rfl
  zc := rfl
theorem RdE.fn {w : World} {B n : Nat} {A : Option Addr} {l : List Fv} (h : RdE FnE w B A n l) {k : Nat} (hk : k < n) : ∃ b off, A = some ⟨b, off, none⟩ ∧ b < B ∧ w.cell? ⟨b, off + k, none⟩ = some (l.getD k FnE.d).val := by
  obtain ⟨b, off, e, hb, hc⟩ := h.2 k hk
  refine ⟨b, off, e, hb, ?_⟩
  have h0 := hc 0 _ rfl
  rwa [show off + k * FnE.n + 0 = off + k from by show off + k * 1 + 0 = _; omega] at h0
section
variable {ρ : Operand → Value} {o : Oper} {x : Operand} {w : World} {s : Fv}
theorem ldFn {ad : Addr} (h : w.cell? ad = some s.val) : (Instr.loadAt 108 (.pointer (some ad))).run Tryz.prog w = .ok s.val w := by unfold Fv.val at *; simp [go_sem, h]
theorem exec_callV {a : Act} {ats : Array TypeId} (ho : o.op = .call { callee := .value x, args := #[], argTypes := ats }) (hx : a.eval x = s.val) : (execOp a.eval o).run Tryz.prog w = .ok (.enter s.f (s.fst ++ s.cap).toArray) w := by
  unfold Fv.val at hx
  unfold execOp
  simp [ho, resolve, Deferred.ofValue, invoke, hx, s.ok]
theorem exec_idxF {b off n c j : Nat} {y : Operand} (ho : o.op = .indexAddr 110 x y) (hx : ρ x = .slice (some ⟨b, off, none⟩) n c) (hy : ρ y = .int .i64 (j : Int)) (hj : j < n) : (execOp ρ o).run Tryz.prog w = .ok (.value (.pointer (some ⟨b, off + j, none⟩))) w := by
  have := aZ (E := FnE) (w := w) ho hx hy hj
  rwa [show off + j * FnE.n = off + j from by show off + j * 1 = _; omega] at this
theorem exec_lenF {A : Option Addr} {n c : Nat} (ho : o.op = .call { callee := .builtin .len, args := #[x], argTypes := #[110] }) (hx : ρ x = .slice A n c) : (execOp ρ o).run Tryz.prog w = .ok (.value (.int .i64 (n : Int))) w := a8 Tryz.underlying110 ho hx
end
def Chn (K : Nat → Prop) (Q : Int → World → Prop) : List Fv → World → Prop
  | [], w => ∀ w', Below w.heap.size w w' → Q 0 w'
  | s :: l, w => ∀ w1, Below w.heap.size w w1 → Calls Tryz.prog s.f (s.fst ++ s.cap).toArray w1 fun e w2 => kept K w1 w2 ∧ ∃ E, e = .returned (.int .i64 E) ∧ ((E = 0 ∧ Chn K Q l w2) ∨ (E ≠ 0 ∧ ∀ w3, Below w2.heap.size w2 w3 → Q E w3))
theorem RdE.kept_ {α : Type} {E : Elt α} {w w' : World} {B B' n : Nat} {A : Option Addr} {l : List α} (h : RdE E w B A n l) (hk : ∀ b off, A = some ⟨b, off, none⟩ → w'.heap[b]? = w.heap[b]?) (hB : w'.heap.size ≤ B') : RdE E w' B' A n l :=
  ⟨h.1, fun k hn => by
    obtain ⟨b, off, e, hb, hc⟩ := h.2 k hn
    have e2 := hk b off e
    have hr : w'.rangeAt b (off + k * E.n) (E.cel (l.getD k E.d)) := rng_kept e2 hc
    have h0 := E.pos
    have hl := E.len (l.getD k E.d)
    have := hr 0 _ (List.getElem?_eq_getElem (by omega))
    exact ⟨b, off, e, Nat.lt_of_lt_of_le (lt_of_cell this) hB, hr⟩⟩
set_option maxHeartbeats 1600000 in
theorem ptaken (A : Option Addr) (n c N : Nat) (l : List Fv) (w : World) (K : Nat → Prop) (Q : Int → World → Prop) (hr : RdE FnE w N A n l) (hN : N ≤ w.heap.size) (hn : n ≤ 1000000) (hK : ∀ b off, A = some ⟨b, off, none⟩ → K b) (h : Chn K Q l w) :
    Calls Tryz.prog 59 #[.slice A n c] w fun e w' => ∃ E, e = .returned (.int .i64 E) ∧ Q E w' := by
  have HK := Lib.hid hK
  have HC := Lib.hid h
  have HR := Lib.hid (hr.more hN)
  clear hK h hr hN
  go_enter Tryz.func59, Tryz.ntmps59
  go_upto_region 1 with fail
  refine wp_region_lit ?_
  refine ag rfl (ah rfl (ev rfl)) ?_
  simp only [Act.put, aa, ae, af]
  refine ag rfl (exec_lenF rfl (ev rfl)) ?_
  simp only [Act.put, aa, ae, af]
  refine ag rfl (ah rfl evk) ?_
  simp only [Act.put, aa, ae, af]
  refine wpList_nil ?_
  go_wp2_with fail
  go_loopw [8] (fun i wr => ∃ k : Nat, k ≤ n ∧ i = .int .i64 k ∧ RdE FnE wr wr.heap.size A n l ∧ Chn K Q (l.drop k) wr) (fun i _ => n - (intOf i).toNat)
  case atStart => exact ⟨0, Nat.zero_le _, rfl, HR.out, HC.out⟩
  case round =>
    clear HC HR
    obtain ⟨k, hk, rfl, hrd, hch⟩ := hrel
    by_cases hlt : k < n
    · obtain ⟨b, off, hA, hb, hc⟩ := hrd.fn hlt
      have hl := hrd.1
      have hdr : l.drop k = l.getD k FnE.d :: l.drop (k + 1) := by
        rw [List.drop_eq_getElem_cons (by omega), List.getD, List.getElem?_eq_getElem (by omega)]
        rfl
      rw [hdr] at hch
      obtain ⟨s, hs⟩ : ∃ s, l.getD k FnE.d = s := ⟨_, rfl⟩
      rw [hs] at hch hc
      have HKB := Lib.hid (HK.out b off hA)
      have HKA := HK
      have HAA := Lib.hid hA
      subst hA
      have HS := Lib.hid hc
      have HCH := Lib.hid hch
      have HRD := Lib.hid hrd
      clear hc hch hrd hdr hs hl hb
      go_upto_region 3 with fail
      refine wp_region_lit ?_
      refine ag rfl (exec_idxF rfl (ev rfl) (ev rfl) hlt) ?_
      simp only [Act.put, aa, ae, af]
      refine ag rfl (au rfl (ev rfl) (ldFn HS.out)) ?_
      simp only [Act.put, aa, ae, af]
      refine ag rfl (ar rfl (ev rfl)) ?_
      simp only [Act.put, aa, ae, af]
      refine wpList_nil ?_
      go_upto_region 4 with fail
      refine wp_region_lit ?_
      refine ag rfl (ah rfl (ev rfl)) ?_
      simp only [Act.put, aa, ae, af]
      refine ao rfl (exec_callV rfl (ev rfl)) ?_
      refine (HCH.out _ (Below.refl _ _)).mono ?_
      rintro e w2 ⟨hkp, E, rfl, ⟨rfl, hnx⟩ | ⟨hne, hq⟩⟩
      · have HRD2 := Lib.hid (HRD.out.kept_ (w' := w2) (fun b' off' e => hkp b' (HKA.out b' off' e)) (Nat.le_refl _))
        have HNX := Lib.hid hnx
        clear hkp hnx
        refine ⟨_, rfl, ?_⟩
        simp only [Act.put, aa, ae, af]
        refine ag rfl (ar rfl (ev rfl)) ?_
        simp only [Act.put, aa, ae, af]
        refine wpList_nil ?_
        go_wp2_with fail
        go_roundw
        case rel => exact ⟨k + 1, by omega, by go_num, HRD2.out, HNX.out⟩
        case measure => simp [intOf]; omega
      · have hn2 : (E != 0) = true := by simpa using hne
        have HQ := Lib.hid hq
        clear hkp hq hne
        refine ⟨_, rfl, ?_⟩
        simp only [Act.put, aa, ae, af]
        refine ag rfl (ar rfl (ev rfl)) ?_
        simp only [Act.put, aa, ae, af]
        refine wpList_nil ?_
        go_wp2_with fail
        go_ret
        exact ⟨E, rfl, HQ.out _ (by first | exact Below.refl _ _ | exact bd (Below.refl _ _))⟩
    · have hkn : k = n := by omega
      subst hkn
      rw [List.drop_of_length_le (by have := hrd.1; omega)] at hch
      have HCH := Lib.hid hch
      clear hch hrd
      go_wp2_with fail
      go_ret
      exact ⟨0, rfl, HCH.out _ (by first | exact Below.refl _ _ | exact bd (Below.refl _ _))⟩
end Go.Proofs.YtcafafdimcecpaaGreatDoor
