import Derived.Test.YtnliphgjcaippaaGreatDoorHnaf
import Derived.Test.YtnliphgjcaippaaGreatDoorHnaa
import Derived.Test.YtnliphgjcaippaaGreatDoorHnab
import Derived.Test.YtnliphgjcaippaaGreatDoorHnae
import Derived.Laws.CopyOwn
import Derived.OrdersHeld
import Derived.Test.YtnliphgjcaippaaGreatDoorHnZ
namespace Go.Proofs.YtnliphgjcaippaaGreatDoor
open Go.RowKit
set_option linter.unusedVariables false
set_option maxRecDepth 100000
section
variable {w w' : World}
set_option maxHeartbeats 2000000 in
theorem c_new {A : Option Addr} {n c : Nat} {ks : List Int} (hl : RdE IntE w w.heap.size A n ks) (hnc : n ≤ c) (hc : c ≤ maxLen) :
    Calls Tryz.prog 7 #[.slice A n c] w (db cM w ks) := by
  have hlen : ks.length = n := hl.1
  unfold maxLen at hc
  by_cases h1 : n < 1
  · have HN := Lib.hid (show ¬ newOk ks from fun h => by have := h.1; omega)
    have h0 : n = 0 := by omega
    subst h0
    clear hl hlen h1
    go_enter Tryz.func7, Tryz.ntmps7
    go_wp2
    go_ret2
    exact db.no (Below.refl _ _) HN.out rfl
  by_cases h2 : 17 < n
  · have HN := Lib.hid (show ¬ newOk ks from fun h => by have := h.2.1; omega)
    have h1' : ¬((n : Int) < 1) := by omega
    have h2' : ((n : Int) > 17) := by omega
    clear hl hlen h1 h2
    go_enter Tryz.func7, Tryz.ntmps7
    go_wp2
    go_ret2
    exact db.no (Below.refl _ _) HN.out rfl
  have h1' : ¬((n : Int) < 1) := by omega
  have h2' : ¬((n : Int) > 17) := by omega
  have h3' : ¬(17 < (n : Int)) := by omega
  have HL := Lib.hid hl
  have HLEN := Lib.hid hlen
  have HMK := Lib.hid (show Making cM w (w.alloc (.cells #[.slice none 0 0, .int .i64 0, .bool false, .int .i64 0] 84)) (.slice none 0 0) (fun _ _ => False) [] [] 0 false 0 from
    ⟨heap_alloc_new w _, aT.nil _ _, ⟨rfl, fun i hi => absurd hi (Nat.not_lt_zero i), fun i j hi => absurd hi (Nat.not_lt_zero i)⟩, fun i hi => absurd hi (Nat.not_lt_zero i), (Below.refl _ w).alloc (Nat.le_refl _) _⟩)
  clear hl hlen
  go_enter Tryz.func7, Tryz.ntmps7
  go_wp2_with fail
  generalize w.alloc (.cells #[.slice none 0 0, .int .i64 0, .bool false, .int .i64 0] 84) = w0 at *
  clear h1' h2' h3'
  go_loopw [5] (fun i wr => ∃ (j : Nat) (v : Value) (Fs : Nat → Nat → Prop) (ps : List Nat), j ≤ n ∧ i = .int .i64 j ∧ Making cM w wr v Fs ps ((ks.take j).map newD) 0 false 0 ∧ ∀ q, q < j → 1 ≤ ks.getD q 0 ∧ ks.getD q 0 ≤ 512) (fun i _ => n - (intOf i).toNat)
  case atStart => exact ⟨0, _, _, _, Nat.zero_le _, rfl, HMK.out, fun q hq => absurd hq (Nat.not_lt_zero q)⟩
  case round =>
    obtain ⟨j, v, Fs, ps, hj, rfl, hmk, hall⟩ := hrel
    have HALL := Lib.hid hall
    clear hall HMK
    by_cases hlt : j < n
    · have hlj : (j : Int) < (n : Int) := by omega
      obtain ⟨bA, oA, rfl, hbA, hcA⟩ := (HL.out.below hmk.below).int hlt
      have HM := Lib.hid hmk
      obtain ⟨AS, cS, rfl, hs1, hs2⟩ := hmk.row.form
      unfold maxLen at hs2
      have hpl : ps.length = j := by have := hmk.devs.len; rw [List.length_map, List.length_take] at this; have := HLEN.out; omega
      have HPL := Lib.hid hpl
      obtain ⟨z, hz⟩ : ∃ z, ks.getD j 0 = z := ⟨_, rfl⟩
      rw [hz] at hcA
      have HZ := Lib.hid hz
      clear hmk hz hpl
      by_cases hok : 1 ≤ z ∧ z ≤ 512
      · obtain ⟨k, rfl⟩ : ∃ k : Nat, z = k := ⟨z.toNat, by omega⟩
        have hk1 : 1 ≤ k := by omega
        have hk2 : k ≤ 512 := by omega
        clear hok
        go_wp2_with fail
        refine (rv_new k wr hk1 hk2).mono ?_
        rintro e w1 ⟨p', F', rfl, hd1, hb1, hF1⟩
        have hat1 := aj HM.out.at_ hb1
        obtain ⟨c0, c1, c2, c3⟩ := r4cells hat1
        have hrow1 := HM.out.row.below hb1
        have hrow2 := hrow1.below ((Below.refl _ w1).alloc (Nat.le_refl _) (.cells (cM.E.cel p').toArray cM.E.t))
        have HR := Lib.hid hrow2
        have HNEW := Lib.hid (rdE_new (E := cM.E) (l := [p']) w1 (cM.E.cel p').toArray cM.E.t (by rw [de]; simp [bH]))
        have HSZ := Lib.hid (show w.heap.size ≤ (w1.alloc (.cells (cM.E.cel p').toArray cM.E.t)).heap.size by rw [World.size_alloc]; have := HM.out.below.size; have := hb1.size; omega)
        have HD1 := Lib.hid hd1
        have HB1 := Lib.hid hb1
        have HF1 := Lib.hid hF1
        have HAT := Lib.hid hat1
        have HPS := Lib.hid (show ps.length + 1 ≤ 34359738368 by have := HPL.out; omega)
        clear hd1 hb1 hF1 hat1 hrow1 hrow2
        have hal : w.heap.size < w1.heap.size := aF HAT.out
        go_wp2_with (first | (refine ag rfl (exec_mk1E (E := cM.E) (a := p') rfl rfl rfl (by decide)) ?_) | (at_builtin; refine wpList_appE_own cM.E rfl _ _ rfl w.heap.size _ _ _ _ ps [p'] _ rfl rfl HR.out HNEW.out HSZ.out HPS.out ?_) | fail)
        intro v' w3 hm3 hg3 ho3
        have hxv : v'.ownBlock ≠ some w.heap.size := fun e => by
          rcases ho3 _ e with e' | e'
          · exact HM.out.row.not_at HM.out.at_ cM.ne e'
          · omega
        have HNX := Lib.hid (HM.out.next (fun _ _ => rfl) HB1.out HF1.out (d := newD k) HD1.out hm3 hg3 ho3)
        have hvx : (Value.slice AS ps.length cS).ownBlock ≠ some w.heap.size := HM.out.row.not_at HM.out.at_ cM.ne
        have hat3 : w3.heap[w.heap.size]? = some _ := (hg3.block w.heap.size (by rw [World.size_alloc]; omega) (fun e => hvx e.symm)).trans (aX HAT.out _)
        obtain ⟨AV, cV, rfl, _, _⟩ := hm3.form
        obtain ⟨d0, d1, d2, d3⟩ := r4cells hat3
        have f0 := frozen_of_row w3 w.heap.size 0 _ _ hat3
        clear hm3 hg3 ho3 hat3 c0 c1 c2 c3
        go_wp2_with fail
        go_roundw
        case rel =>
          refine ⟨j + 1, .slice AV (ps.length + 1) cV, upF Fs (List.map newD (List.take j ks)).length F', ps ++ [p'], by omega, by go_num, ?_, fun q hq => ?_⟩
          · rw [take_map_succ (by have := HLEN.out; omega), HZ.out]
            have h6 := HNX.out
            rw [show (ps ++ [p']).length = ps.length + 1 from by simp] at h6
            exact h6
          · by_cases e : q = j
            · subst e; rw [HZ.out]; omega
            · exact HALL.out q (by omega)
        case measure => simp [intOf]; omega
      · have HB := Lib.hid HM.out.below
        have HN := Lib.hid (show ¬ newOk ks from fun h => hok (by have := h.2.2 z (by rw [← HZ.out]; exact getD_mem (by have := HLEN.out; omega)); exact this))
        go_wp2_with fail
        refine (r_new_no z wr hok).mono ?_
        rintro e w1 ⟨rfl, rfl⟩
        have HB1 := Lib.hid HB.out
        clear hok
        go_wp2_with fail
        go_ret2
        exact db.no HB1.out HN.out rfl
    · have hjn : j = n := by omega
      subst hjn
      have hlj : ¬((j : Int) < (j : Int)) := by omega
      have HM := Lib.hid hmk
      clear hmk
      go_wp2_with fail
      go_ret2
      have h5 := HM.out
      have hLL := HLEN.out
      rw [← hLL, List.take_length] at h5
      obtain ⟨g1, g2, g3⟩ := h5.done (by rw [List.length_map]; omega) (by rw [List.length_map]; omega)
      refine ⟨g3, .inl ⟨⟨by omega, by omega, fun k hk => ?_⟩, _, _, _, _, rfl, g1, g2⟩⟩
      obtain ⟨i, hi, rfl⟩ := List.getElem_of_mem hk
      have := HALL.out i (by omega)
      rwa [List.getD_eq_getElem?_getD, List.getElem?_eq_getElem hi] at this
end
def RB (w : World) (F : Nat → Prop) (p : Nat) (M : BenS) : Prop := InB cM w F p M ∧ M.Wf
theorem wf_new {ks : List Int} (h : newOk ks) : (newS6 ks).Wf := by
  refine ⟨by rw [newS6_ds, List.length_map]; exact h.1, by rw [newS6_ds, List.length_map]; exact h.2.1, fun i hi => ?_⟩
  rw [newS6_ds, List.length_map] at hi
  have : ((newS6 ks).ds.getD i bi) = newD (ks.getD i 0) := by
    rw [newS6_ds, List.getD, List.getD, List.getElem?_map, List.getElem?_eq_getElem hi]; rfl
  rw [this]
  have h2 := h.2.2 _ (getD_mem (x := 0) hi)
  show 1 ≤ (List.replicate _ _).length ∧ (List.replicate _ _).length ≤ 512
  rw [List.length_replicate]
  omega
structure BenQ where
  Bn : World → (Nat → Prop) → Nat → BenS → Prop
  lt : ∀ {w F p M}, Bn w F p M → ∀ b, F b → b < w.heap.size
  only : ∀ {w w' F G p M}, Bn w F p M → Only G w w' → (∀ b, F b → ¬ G b) → Bn w' F p M
  wf : ∀ {w F p M}, Bn w F p M → M.Wf
  sure : ∀ {w F p M} (d n : Int), Bn w F p M → Calls Tryz.prog 45 #[.pointer (some ⟨p, 0, none⟩), .int .i64 d, .int .i64 n] w fun e w' => e = .returned (.tuple #[blk (suB6 M d n), .int .i64 (suE6 M d n)]) ∧ Below w.heap.size w w'
  devices : ∀ {w F p M}, Bn w F p M → Calls Tryz.prog 39 #[.pointer (some ⟨p, 0, none⟩)] w fun e w' => e = .returned (.int .i64 (M.ds.length : Int)) ∧ Below w.heap.size w w'
  cT : ∀ {w F p M} (d : Int), Bn w F p M → Calls Tryz.prog 40 #[.pointer (some ⟨p, 0, none⟩), .int .i64 d] w fun e w' => e = .returned (.int .i64 (seN6 M d)) ∧ Below w.heap.size w w'
  bK : ∀ {w F p M}, Bn w F p M → Calls Tryz.prog 43 #[.pointer (some ⟨p, 0, none⟩)] w fun e w' => e = .returned (.bool M.bK) ∧ Below w.heap.size w w'
  steps : ∀ {w F p M}, Bn w F p M → Calls Tryz.prog 44 #[.pointer (some ⟨p, 0, none⟩)] w fun e w' => e = .returned (.int .i64 (M.steps : Int)) ∧ Below w.heap.size w w'
  new : ∀ {w A n c ks}, RdE IntE w w.heap.size A n ks → n ≤ c → c ≤ maxLen → Calls Tryz.prog 7 #[.slice A n c] w (NewB Bn w ks)
theorem BenQ.below (R : BenQ) {w w' : World} {F : Nat → Prop} {p : Nat} {M : BenS} (h : R.Bn w F p M) (k : Below w.heap.size w w') : R.Bn w' F p M := R.only h (Only.of_below (fun _ => False) k) fun _ _ e => e
def cd : BenQ where
  Bn := RB
  lt := fun h => h.1.lt
  only := fun h ho hn => ⟨h.1.only ho hn, h.2⟩
  wf := fun h => h.2
  sure := fun d n ⟨⟨_, _, _, _, h⟩, _⟩ => c_sure d n h
  devices := fun ⟨⟨_, _, _, _, h⟩, _⟩ => (c_devices h).mono fun e w' ⟨h1, h2⟩ => ⟨h1, by subst h2; exact Below.refl _ _⟩
  cT := fun d ⟨⟨_, _, _, _, h⟩, _⟩ => (c_sectors d h).mono fun e w' ⟨h1, h2⟩ => ⟨h1, by subst h2; exact Below.refl _ _⟩
  bK := fun ⟨⟨_, _, _, _, h⟩, _⟩ => (c_dark h).mono fun e w' ⟨h1, h2⟩ => ⟨h1, by subst h2; exact Below.refl _ _⟩
  steps := fun ⟨⟨_, _, _, _, h⟩, _⟩ => (c_steps h).mono fun e w' ⟨h1, h2⟩ => ⟨h1, by subst h2; exact Below.refl _ _⟩
  new := fun h1 h2 h3 => (c_new h1 h2 h3).mono fun e w' h => by
    obtain ⟨g1, g | g⟩ := h
    · obtain ⟨g0, p, v, Fs, ps, g2, g3, g4⟩ := g
      exact ⟨g1, .inl ⟨g0, p, _, g2, ⟨⟨v, Fs, ps, rfl, g3⟩, wf_new g0⟩, g4⟩⟩
    · exact ⟨g1, .inr g⟩
section
variable {ρ : Operand → Value} {o : Oper} {x y : Operand} {w : World} {t : TypeId} {old cs : Array Value}
theorem exec_fillT (hz : (Tryz.prog.info? t).map (·.size) = some cs.size) (he : old.size = cs.size) (h1 : cs.toList.all Value.oneCell' = true) (ho : o.op = .store t x y) (hx : ρ x = .pointer (some ⟨w.heap.size, 0, none⟩)) (hy : ρ y = .agg cs) :
    (execOp ρ o).run Tryz.prog (w.alloc (.cells old t)) = .ok .skip (w.alloc (.cells cs t)) := by
  have h := run_storeAt_new (P := Tryz.prog) w t old cs hz he (by simpa using h1)
  unfold execOp
  simp only [ho, hx, hy, Sem.run_bind, h, Result.andThen_ok, Sem.run_pure]
end
def arr (l : List UInt8) : Value := .agg (vals l).toArray
section
variable {ρ : Operand → Value} {o : Oper} {x y : Operand} {w : World} {b off : Nat} {t : TypeId} {cs ds : List Value} {d : TypeDesc}
theorem bm (hu : Tryz.prog.underlying t = some d) (hd : d.isRow = true) (hz : (Tryz.prog.info? t).map (·.size) = some cs.length) (ho : o.op = .load t x) (hx : ρ x = .pointer (some ⟨b, off, none⟩)) (hc : w.rangeAt b off cs) :
    (execOp ρ o).run Tryz.prog w = .ok (.value (.agg cs.toArray)) w := au ho hx (run_loadAt_mid w b off t cs d hc hu hd hz)
theorem bN (ho : o.op = .box t x) (hx : ρ x = .agg cs.toArray) : (execOp ρ o).run Tryz.prog w = .ok (.value (.pointer (some ⟨w.heap.size, 0, none⟩))) (w.alloc (.cells cs.toArray t)) := by
  unfold execOp
  simp [ho, hx, Instr.box, newVar, newRow, Value.cells]
theorem run_zeroT {v : Value} (h : (Tryz.prog.info? t).map (fun i => i.zero) = some (some v)) (w : World) : (zeroValue t).run Tryz.prog w = .ok v w := by
  cases hq : Tryz.prog.info? t with
  | none => rw [hq] at h; cases h
  | some i =>
    rw [hq] at h
    simp only [Option.map_some, Option.some.injEq] at h
    simp [zeroValue, typeInfo, hq, h]
theorem cP (h : (Tryz.prog.info? t).map (fun i => i.zero) = some (some (.agg cs.toArray))) (ho : o.op = .alloc t) : (execOp ρ o).run Tryz.prog w = .ok (.value (.pointer (some ⟨w.heap.size, 0, none⟩))) (w.alloc (.cells cs.toArray t)) := by
  have hz := run_zeroT h w
  unfold execOp
  simp [ho, Instr.alloc, hz, newVar, newRow, Value.cells]
theorem exec_putT (hz : (Tryz.prog.info? t).map (·.size) = some cs.length) (h1 : ∀ v ∈ cs, v.oneCell' = true) (ho : o.op = .store t x y) (hx : ρ x = .pointer (some ⟨b, off, none⟩)) (hy : ρ y = .agg cs.toArray) (ht : w.there b off cs.length) :
    (execOp ρ o).run Tryz.prog w = .ok .skip (w.setCells b off cs) := by
  have h := run_storeAt_mid (P := Tryz.prog) w b off t cs.toArray (by simpa using ht) (by simpa using hz) (all_oneCell_toArray h1)
  refine exec_st ho hx hy ?_
  simpa using h
theorem exec_filT (hz : (Tryz.prog.info? t).map (·.size) = some cs.length) (he : ds.length = cs.length) (h1 : ∀ v ∈ cs, v.oneCell' = true) (ho : o.op = .store t x y) (hx : ρ x = .pointer (some ⟨w.heap.size, 0, none⟩)) (hy : ρ y = .agg cs.toArray) :
    (execOp ρ o).run Tryz.prog (w.alloc (.cells ds.toArray t)) = .ok .skip (w.alloc (.cells cs.toArray t)) :=
  exec_fillT (by simpa using hz) (by simpa using he) (by simpa using h1) ho hx hy
theorem dm {v : Value} (ho : o.op = .build t #[]) (h : (Instr.build t #[]).run Tryz.prog w = .ok v w) : (execOp ρ o).run Tryz.prog w = .ok (.value v) w := by
  unfold execOp
  simp only [ho, List.map_toArray, List.map_nil, Sem.run_bind, h, Result.andThen_ok, Sem.run_pure]
theorem exec_eqT {r : TypeId} {xs ys : Array Value} {c : Bool} (hg : Tryz.prog.eqGuardType Tryz.prog.depth t = false) (he : (Op.equalIn 10000 t (.agg xs) (.agg ys)).run Tryz.prog w = .ok c w) (ho : o.op = .binOp .eql t x y r) (hx : ρ x = .agg xs) (hy : ρ y = .agg ys) :
    (execOp ρ o).run Tryz.prog w = .ok (.value (.bool c)) w := by
  have h := run_eql_struct (P := Tryz.prog) w t xs ys
  rw [he] at h
  unfold execOp
  simp only [ho, hx, hy, Sem.run_bind, run_eqGuard_agg w .eql t x y xs ys hg, Result.andThen_ok]
  rw [h]
  simp
theorem exec_neT {r : TypeId} {xs ys : Array Value} {c : Bool} (hg : Tryz.prog.eqGuardType Tryz.prog.depth t = false) (he : (Op.equalIn 10000 t (.agg xs) (.agg ys)).run Tryz.prog w = .ok c w) (ho : o.op = .binOp .neq t x y r) (hx : ρ x = .agg xs) (hy : ρ y = .agg ys) :
    (execOp ρ o).run Tryz.prog w = .ok (.value (.bool (!c))) w := by
  have h := run_neq_struct (P := Tryz.prog) w t xs ys
  rw [he] at h
  unfold execOp
  simp only [ho, hx, hy, Sem.run_bind, run_eqGuard_agg w .neq t x y xs ys hg, Result.andThen_ok]
  rw [h]
  simp
end
section
variable {ρ : Operand → Value} {o : Oper} {x y : Operand} {w : World} {t r : TypeId} {k : IntKind} {a b : Int}
theorem cD (c : Bool) (ho : o.op = .binOp .gtr t x y r) (hx : ρ x = .int k a) (hy : ρ y = .int k b) (h : decide (b < a) = c) : (execOp ρ o).run Tryz.prog w = .ok (.value (.bool c)) w := by
  unfold execOp
  simp [ho, hx, hy, eqGuard, binOp, Op.intCmp, h]
theorem bP (c : Bool) (ho : o.op = .binOp .geq t x y r) (hx : ρ x = .int k a) (hy : ρ y = .int k b) (h : decide (b ≤ a) = c) : (execOp ρ o).run Tryz.prog w = .ok (.value (.bool c)) w := by
  unfold execOp
  simp [ho, hx, hy, eqGuard, binOp, Op.intCmp, h]
theorem dy (c : Bool) (ho : o.op = .binOp .leq t x y r) (hx : ρ x = .int k a) (hy : ρ y = .int k b) (h : decide (a ≤ b) = c) : (execOp ρ o).run Tryz.prog w = .ok (.value (.bool c)) w := by
  unfold execOp
  simp [ho, hx, hy, eqGuard, binOp, Op.intCmp, h]
theorem bJ (c : Bool) (ho : o.op = .binOp .lss t x y r) (hx : ρ x = .int k a) (hy : ρ y = .int k b) (h : decide (a < b) = c) : (execOp ρ o).run Tryz.prog w = .ok (.value (.bool c)) w := by
  unfold execOp
  simp [ho, hx, hy, eqGuard, binOp, Op.intCmp, h]
theorem ldU8 {ad : Addr} {n : Int} (h : w.cell? ad = some (.int .u8 n)) : (Instr.loadAt 5 (.pointer (some ad))).run Tryz.prog w = .ok (.int .u8 n) w := by simp [go_sem, h]
end
theorem bq {w : World} {ad : Addr} {k : Int} (h : w.cell? ad = some (.int .i64 k)) : (Instr.loadAt 3 (.pointer (some ad))).run Tryz.prog w = .ok (.int .i64 k) w := by simp [go_sem, h]
theorem ldU64 {w : World} {ad : Addr} {k : Int} (h : w.cell? ad = some (.int .u64 k)) : (Instr.loadAt 23 (.pointer (some ad))).run Tryz.prog w = .ok (.int .u64 k) w := by simp [go_sem, h]
theorem run_eqArr {t : TypeId} {n : Nat} (hu : Tryz.prog.underlying t = some (.array n 5)) (w : World) (a b : List UInt8) (ha : a.length = n) (hb : b.length = n) (d : Nat) : (Op.equalIn (d + 2) t (arr a) (arr b)).run Tryz.prog w = .ok (decide (a = b)) w := by
  have he : ∀ x y : Int, (Op.equalIn (d + 1) 5 (.int .u8 x) (.int .u8 y)).run Tryz.prog w = .ok (x == y) w := fun x y => run_equalIn_int w d 5 .u8 .u8 x y Tryz.underlying5
  have hp : ∀ (c : List UInt8) (i : Nat), i < c.length → (part 5 (vals c).toArray (i * 1)).run Tryz.prog w = .ok (.int .u8 (bt c i)) w := fun c i hi => by
    have := vals_at hi
    simp [part, this]
  show (Op.equalIn ((d + 1) + 1) t (arr a) (arr b)).run Tryz.prog w = .ok (decide (a = b)) w
  generalize d + 1 = e at *
  have key : ∀ (l : List Nat), (∀ i ∈ l, i < n) →
      ((forIn l ((none : Option Bool), ()) fun i r => do
        let x ← part 5 (vals a).toArray (i * 1)
        let y ← part 5 (vals b).toArray (i * 1)
        let z ← Op.equalIn e 5 x y
        if (!z) = true then pure (ForInStep.done (some false, ())) else pure (ForInStep.yield (none, ())) : Sem _)).run Tryz.prog w =
      .ok (if l.all (fun i => bt a i == bt b i) then (none, ()) else (some false, ())) w := by
    intro l
    induction l with
    | nil => intro _; simp
    | cons i l ih =>
      intro hl
      have hi := hl i (by simp)
      simp only [List.forIn_cons, Sem.run_bind, hp a i (by omega), hp b i (by omega), Result.andThen_ok, he]
      by_cases h : bt a i = bt b i
      · have hb : (bt a i == bt b i) = true := by simpa using h
        simp only [hb, Bool.not_true, Bool.false_eq_true, if_false, Sem.run_pure, Result.andThen_ok, List.all_cons, Bool.true_and]
        exact ih fun j hj => hl j (by simp [hj])
      · have hb : (bt a i == bt b i) = false := by simpa using h
        simp [hb]
  have hall : ((List.range' 0 n).all fun i => bt a i == bt b i) = decide (a = b) := by
    rw [Bool.eq_iff_iff, List.all_eq_true, decide_eq_true_iff]
    constructor
    · intro h
      exact eq_of_bt (by omega) fun j hj => by simpa using h j (by simp [List.mem_range']; omega)
    · rintro rfl i _
      simp
  have hk := key (List.range' 0 n) (fun i hi => by simp [List.mem_range'] at hi; omega)
  rw [hall] at hk
  simp only [Op.equalIn, arr, Sem.run_bind, run_underlying hu, Result.andThen_ok, Tryz.sizeOf5, Std.Legacy.Range.forIn_eq_forIn_range']
  simp only [Std.Legacy.Range.size, Nat.sub_zero, Nat.add_sub_cancel, Nat.div_one]
  rw [hk]
  by_cases h : a = b
  · simp [h]
  · simp [h]
theorem aL {w : World} {b : Nat} {t : TypeId} {cs : List Value} (h : w.heap[b]? = some (.cells cs.toArray t (0, 0))) : w.rangeAt b 0 cs := fun j v hj => by
  rw [cell_of_row w b (0 + j) _ t (0, 0) h, Nat.zero_add]
  simpa using hj
theorem du {w : World} {b o k : Nat} {cs ds es fs : List Value} (h : w.rangeAt b o cs) (e : cs = ds ++ (es ++ fs)) (hk : ds.length = k) : w.rangeAt b (o + k) es := fun j v hj => by
  subst e hk
  have := h (ds.length + j) v (by
    rw [List.getElem?_append_right (by omega), Nat.add_sub_cancel_left, List.getElem?_append_left (List.getElem?_eq_some_iff.1 hj).1]
    exact hj)
  rwa [← Nat.add_assoc] at this
theorem cE {w : World} {b : Nat} {t : TypeId} {cs : List Value} (h : w.heap[b]? = some (.cells cs.toArray t (0, 0))) {o n : Nat} (hn : o + n ≤ cs.length) : w.there b o n := fun j hj => by
  rw [cell_of_row w b (o + j) _ t (0, 0) h, frozen_of_row w b (o + j) _ t h]
  exact ⟨by simp; omega, rfl⟩
theorem res_tri {fn : Func} {p q u : Tmp} {t : TypeId} {cs : List Value} {d : TypeDesc} (h : fn.results = #[.tmp p, .cell q t, .tmp u]) (tmps : Array Value) (w : World) (b : Nat) (hq : tmps.getD q undef = .pointer (some ⟨b, 0, none⟩)) (hr : w.rangeAt b 0 cs) (hu : Tryz.prog.underlying t = some d) (hd : d.isRow = true) (hz : (Tryz.prog.info? t).map (·.size) = some cs.length) :
    (results fn tmps).run Tryz.prog w = .ok (.tuple #[tmps.getD p undef, .agg cs.toArray, tmps.getD u undef]) w := by
  have hl : (loadVar t ⟨b, 0, none⟩).run Tryz.prog w = .ok (.agg cs.toArray) w := run_loadVar_mid (P := Tryz.prog) w b 0 t cs d hr hu hd hz
  have hq' : tmps[q]?.getD undef = .pointer (some ⟨b, 0, none⟩) := by simpa using hq
  simp [results, h, hq', asAddr, hl]
theorem res_rng {fn : Func} {p : Tmp} {t : TypeId} {cs : List Value} {d : TypeDesc} (h0 : fn.results = #[.cell p t]) (tmps : Array Value) (w : World) (b : Nat) (hp : tmps.getD p undef = .pointer (some ⟨b, 0, none⟩)) (hr : w.rangeAt b 0 cs) (hu : Tryz.prog.underlying t = some d) (hd : d.isRow = true) (hz : (Tryz.prog.info? t).map (·.size) = some cs.length) :
    (results fn tmps).run Tryz.prog w = .ok (.agg cs.toArray) w := by
  have hl : (loadVar t ⟨b, 0, none⟩).run Tryz.prog w = .ok (.agg cs.toArray) w := run_loadVar_mid (P := Tryz.prog) w b 0 t cs d hr hu hd hz
  have hp' : tmps[p]?.getD undef = .pointer (some ⟨b, 0, none⟩) := by simpa using hp
  simp [results, h0, hp', asAddr, hl]
theorem size_setCells (w : World) (b o : Nat) (vs : List Value) : (w.setCells b o vs).heap.size = w.heap.size := (dt b vs o w).1
theorem cell1 {w : World} {b : Nat} {t : TypeId} {x : Value} (h : w.heap[b]? = some (.cells #[x] t (0, 0))) : w.cell? ⟨b, 0, none⟩ = some x ∧ w.frozen? ⟨b, 0, none⟩ = false :=
  ⟨by rw [cell_of_row w b 0 _ t (0, 0) h]; rfl, frozen_of_row w b 0 _ t h⟩
theorem set1 {w : World} {b : Nat} {t : TypeId} {x : Value} (h : w.heap[b]? = some (.cells #[x] t (0, 0))) (y : Value) : (w.setCell ⟨b, 0, none⟩ y).heap[b]? = some (.cells #[y] t (0, 0)) := by
  have := heap_setCell_same w b 0 #[x] t y h
  simpa using this
theorem grown_set (w : World) (b o : Nat) (y : Value) : w.grownBy (w.setCell ⟨b, o, none⟩ y) (some b) :=
  ⟨rfl, rfl, rfl, by simp [World.setCell], fun k hk hne => heap_setCell_other w ⟨b, o, none⟩ k y (fun e => hne (by rw [e]))⟩
theorem bp {w w' : World} {b k : Nat} {o : Obj} (h : w.heap[b]? = some o) (hg : w.grownBy w' (some k)) (hne : b ≠ k) : w'.heap[b]? = some o := (hg.block b (aF h) (fun e => hne (by injection e))).trans h
def celG (x : Ros) : List Value := [.int .i64 x.m, .int .i64 x.s, .int .i64 x.r]
def aD (x : Ros) : List Value := .int .i64 x.m :: .int .i64 x.s :: .int .i64 x.r :: (vals x.st.toList ++ [.int .i64 x.cur, .bool x.gone])
def ros (x : Ros) : Value := .agg (aD x).toArray
def geo (x : Ros) : Value := .agg (celG x).toArray
theorem aQ (x : Ros) : (aD x).length = 21 := by simp [aD, aO]
theorem celR_one (x : Ros) : ∀ v ∈ aD x, v.oneCell' = true := by
  intro v hv
  simp only [aD, List.mem_cons, List.mem_append, List.not_mem_nil, or_false] at hv
  rcases hv with rfl | rfl | rfl | hv | rfl | rfl
  · rfl
  · rfl
  · rfl
  · exact vals_one _ v hv
  · rfl
  · rfl
theorem sizeR : (Tryz.prog.info? 28).map (·.size) = some 21 := by kernel_rfl
theorem sizeG : (Tryz.prog.info? 25).map (·.size) = some 3 := by kernel_rfl
theorem size16 : (Tryz.prog.info? 26).map (·.size) = some 16 := by kernel_rfl
theorem zeroR_info : (Tryz.prog.info? 28).map (fun i => i.zero) = some (some (ros a4)) := by kernel_rfl
theorem zero16_info : (Tryz.prog.info? 26).map (fun i => i.zero) = some (some (arr (List.replicate 16 0))) := by kernel_rfl
section
variable {ρ : Operand → Value} {o : Oper} {x y : Operand} {w : World} {b off : Nat}
theorem aM {c : Ros} (ho : o.op = .load 28 x) (hx : ρ x = .pointer (some ⟨b, off, none⟩)) (hc : w.rangeAt b off (aD c)) : (execOp ρ o).run Tryz.prog w = .ok (.value (ros c)) w :=
  bm Tryz.underlying28 rfl (by rw [aQ]; exact sizeR) ho hx hc
theorem cz {c : Ros} (ho : o.op = .load 25 x) (hx : ρ x = .pointer (some ⟨b, off, none⟩)) (hc : w.rangeAt b off (celG c)) : (execOp ρ o).run Tryz.prog w = .ok (.value (geo c)) w :=
  bm Tryz.underlying25 rfl sizeG ho hx hc
theorem cw {l : List UInt8} (hl : l.length = 16) (ho : o.op = .load 26 x) (hx : ρ x = .pointer (some ⟨b, off, none⟩)) (hc : w.rangeAt b off (vals l)) : (execOp ρ o).run Tryz.prog w = .ok (.value (arr l)) w :=
  bm Tryz.underlying26 rfl (by rw [aO, hl]; exact size16) ho hx hc
theorem aE {c : Ros} (ho : o.op = .box 28 x) (hx : ρ x = ros c) : (execOp ρ o).run Tryz.prog w = .ok (.value (.pointer (some ⟨w.heap.size, 0, none⟩))) (w.alloc (.cells (aD c).toArray 28)) := bN ho hx
theorem bL (ho : o.op = .alloc 28) : (execOp ρ o).run Tryz.prog w = .ok (.value (.pointer (some ⟨w.heap.size, 0, none⟩))) (w.alloc (.cells (aD a4).toArray 28)) := cP zeroR_info ho
theorem exec_alloc16 (ho : o.op = .alloc 26) : (execOp ρ o).run Tryz.prog w = .ok (.value (.pointer (some ⟨w.heap.size, 0, none⟩))) (w.alloc (.cells (vals (List.replicate 16 0)).toArray 26)) := cP zero16_info ho
theorem exec_fillR {c d : Ros} (ho : o.op = .store 28 x y) (hx : ρ x = .pointer (some ⟨w.heap.size, 0, none⟩)) (hy : ρ y = ros c) : (execOp ρ o).run Tryz.prog (w.alloc (.cells (aD d).toArray 28)) = .ok .skip (w.alloc (.cells (aD c).toArray 28)) :=
  exec_filT (by rw [aQ]; exact sizeR) (by rw [aQ, aQ]) (celR_one c) ho hx hy
end
theorem celR_eq (x : Ros) : aD x = celG x ++ (vals x.st.toList ++ [.int .i64 x.cur, .bool x.gone]) := rfl
section
variable {ρ : Operand → Value} {o : Oper} {x y : Operand} {w : World} {t : TypeId}
theorem guard16 : Tryz.prog.eqGuardType Tryz.prog.depth 26 = false := by kernel_rfl
theorem exec_eq16 {a b : List UInt8} (c : Bool) (ha : a.length = 16) (hb : b.length = 16) (ho : o.op = .binOp .eql 26 x y t) (hx : ρ x = arr a) (hy : ρ y = arr b) (h : decide (a = b) = c) : (execOp ρ o).run Tryz.prog w = .ok (.value (.bool c)) w := by
  subst h; exact exec_eqT guard16 (run_eqArr Tryz.underlying26 w a b ha hb 9998) ho hx hy
theorem cJ {l : List UInt8} {j : Nat} (hl : l.length = 16) (hj : j < 16) (ho : o.op = .index 26 x y) (hx : ρ x = arr l) (hy : ρ y = .int .i64 (j : Int)) : (execOp ρ o).run Tryz.prog w = .ok (.value (.int .u8 (bt l j))) w := by
  have hp : (part 5 (vals l).toArray (j * 1)).run Tryz.prog w = .ok (.int .u8 (bt l j)) w := by
    have := vals_at (l := l) (j := j) (by omega)
    simp [part, this]
  have h : (Instr.index 26 (arr l) (.int .i64 (j : Int))).run Tryz.prog w = .ok (.int .u8 (bt l j)) w := by
    have e : (0 ≤ (j : Int) ∧ (j : Int) < 16) := by omega
    unfold arr
    simp [Instr.index, asIntOf, run_underlying Tryz.underlying26, Tryz.sizeOf5, hj]
    simpa using hp
  unfold execOp
  simp only [ho, hx, hy, Sem.run_bind, h, Result.andThen_ok, Sem.run_pure]
end
def a7 (w : World) (b : Nat) (x : Ros) : Prop := w.heap[b]? = some (.cells (aD x).toArray 28 (0, 0))
section
variable {w w' : World} {b : Nat} {x : Ros}
theorem a7.range (h : a7 w b x) : w.rangeAt b 0 (aD x) := aL h
theorem a7.geo (h : a7 w b x) : w.rangeAt b 0 (celG x) := du (cs := aD x) (ds := []) (k := 0) h.range rfl rfl
theorem a7.sts (h : a7 w b x) : w.rangeAt b 3 (vals x.st.toList) := by
  have := du (k := 3) h.range (celR_eq x) rfl
  rwa [Nat.zero_add] at this
theorem a7.cells (h : a7 w b x) : w.cell? ⟨b, 0, none⟩ = some (.int .i64 x.m) ∧ w.cell? ⟨b, 1, none⟩ = some (.int .i64 x.s) ∧ w.cell? ⟨b, 2, none⟩ = some (.int .i64 x.r) ∧ w.cell? ⟨b, 19, none⟩ = some (.int .i64 x.cur) ∧ w.cell? ⟨b, 20, none⟩ = some (.bool x.gone) := by
  have hr := du (k := 19) (ds := celG x ++ vals x.st.toList) (es := [.int .i64 x.cur, .bool x.gone]) (fs := []) h.range (by simp [celR_eq]) (by simp [celG, aO])
  exact ⟨h.range 0 _ rfl, h.range 1 _ rfl, h.range 2 _ rfl, hr 0 _ rfl, hr 1 _ rfl⟩
theorem a7.sta (h : a7 w b x) {j : Nat} (hj : j < 16) : w.cell? ⟨b, 3 + j, none⟩ = some (.int .u8 (sta x j)) := h.sts j _ (vals_at (by simpa using hj))
theorem a7.below {B : Nat} (h : a7 w b x) (hB : b < B) (hb : Below B w w') : a7 w' b x := blk_keep2 h hB hb
theorem a7.new (w : World) (x : Ros) : a7 (w.alloc (.cells (aD x).toArray 28)) w.heap.size x := heap_alloc_new w _
theorem a7.past (h : a7 w b x) (o : Obj) : a7 (w.alloc o) b x := aX h o
theorem a7.rd (h : a7 w b x) {m : Nat} (hm : m ≤ 16) : Rd w w.heap.size (some ⟨b, 3, none⟩) m (x.st.toList.take m) :=
  ⟨by simp; omega, fun k hk => ⟨b, 3, rfl, aF h, by
    rw [h.sta (j := k) (by omega)]
    unfold Proofs.YtnliphgjcaippaaGreatDoor.sta bt
    simp [List.getD, List.getElem?_take_of_lt hk]⟩⟩
end
theorem bV (w : World) (x : Ros) : a7 (w.alloc (.cells (aD x).toArray 28)) w.heap.size x ∧ Below w.heap.size w (w.alloc (.cells (aD x).toArray 28)) ∧ w.heap.size < (w.alloc (.cells (aD x).toArray 28)).heap.size :=
  ⟨a7.new w x, (Below.refl w.heap.size w).alloc (Nat.le_refl _) _, by simp only [World.size_alloc]; omega⟩
section
variable {w : World} {b off : Nat}
theorem faR0 : (Instr.fieldAt 28 (.pointer (some ⟨b, 0, none⟩)) 0).run Tryz.prog w = .ok (.pointer (some ⟨b, 0, none⟩)) w := by kernel_rfl
theorem faR1 : (Instr.fieldAt 28 (.pointer (some ⟨b, 0, none⟩)) 1).run Tryz.prog w = .ok (.pointer (some ⟨b, 3, none⟩)) w := by kernel_rfl
theorem faG0 : (Instr.fieldAt 25 (.pointer (some ⟨b, 0, none⟩)) 0).run Tryz.prog w = .ok (.pointer (some ⟨b, 0, none⟩)) w := by kernel_rfl
theorem ix16 {g off j : Nat} (hj : j < 16) : (Instr.indexAt 26 (.pointer (some ⟨g, off, none⟩)) (.int .i64 (j : Int))).run Tryz.prog w = .ok (.pointer (some ⟨g, off + j, none⟩)) w := by
  have e : (0 ≤ (j : Int) ∧ (j : Int) < 16) := by omega
  simp [Instr.indexAt, Instr.sureAddr, asIntOf, run_underlying Tryz.underlying26, Tryz.sizeOf5, Addr.add_mid, e, hj]
theorem faR2 {b : Nat} : (Instr.fieldAt 28 (.pointer (some ⟨b, 0, none⟩)) 2).run Tryz.prog w = .ok (.pointer (some ⟨b, 19, none⟩)) w := by kernel_rfl
theorem faG1 {b : Nat} : (Instr.fieldAt 25 (.pointer (some ⟨b, 0, none⟩)) 1).run Tryz.prog w = .ok (.pointer (some ⟨b, 1, none⟩)) w := by kernel_rfl
end
theorem splice_vals (l x : List UInt8) (off : Nat) : splice (vals l) off (vals x) = vals (splice l off x) := by
  unfold splice vals
  simp [List.map_take, List.map_drop]
def bF (w : World) (g : Nat) (t : TypeId) (l : List UInt8) : Prop := w.heap[g]? = some (.cells (vals l).toArray t (0, 0))
section
variable {w w' : World} {g : Nat} {t : TypeId} {l : List UInt8}
theorem bF.lt (h : bF w g t l) : g < w.heap.size := (Array.getElem?_eq_some_iff.1 h).1
theorem bF.below {B : Nat} (h : bF w g t l) (hB : g < B) (hb : Below B w w') : bF w' g t l := (hb.block g hB).trans h
theorem bF.grown {k : Nat} (h : bF w g t l) (hk : g ≠ k) (hb : w.grownBy w' (some k)) : bF w' g t l := (hb.block g h.lt (fun e => hk (by injection e))).trans h
theorem bF.draw (h : bF w g t l) : bF w.drew g t l := h
theorem bF.past (h : bF w g t l) (o : Obj) : bF (w.alloc o) g t l := aX h o
theorem bF.cell (h : bF w g t l) {j : Nat} (hj : j < l.length) : w.cell? ⟨g, j, none⟩ = some (.int .u8 (bt l j)) := by
  rw [cell_of_row w g j _ t (0, 0) h, List.getElem?_toArray, vals_at hj]
theorem bF.rd (h : bF w g t l) {p k : Nat} (hp : p + k ≤ l.length) : Rd w w.heap.size (some ⟨g, p, none⟩) k (piece l p k) :=
  ⟨cq hp, fun j hj => ⟨g, p, rfl, h.lt, by rw [h.cell (by omega), bt_piece hj]⟩⟩
theorem bF.range (h : bF w g t l) (hl : l.length = 64) : w.rangeAt g 0 (cel (ofL l)) := fun j v hj => by
  have hlt : j < 64 := by have := (List.getElem?_eq_some_iff.1 hj).1; rwa [ax] at this
  rw [Nat.zero_add, h.cell (by omega), ← hj, cel_at _ hlt, ofL_byt _ hlt]
theorem bF.new (w : World) (l : List UInt8) (t : TypeId) : bF (w.alloc (.cells (vals l).toArray t)) w.heap.size t l := heap_alloc_new w _
theorem bF.blk (w : World) (b : Blk) (t : TypeId) : bF (w.alloc (.cells (cel b).toArray t)) w.heap.size t b.toList := heap_alloc_new w _
theorem bF.row (h : bF w g t l) : w.rowIs g t l.length (fun j => .int .u8 (bt l j)) :=
  ⟨_, h, by simp [aO], fun j hj => by rw [List.getElem?_toArray, vals_at hj]⟩
end
theorem cQ {w : World} {ops : Array Oper} {rest : List Oper} {o : Oper} {a : Act} {Q : Exit → Act → World → Prop} (hgd : o.guard = none) (d s : Operand)
    (ho : o.op = .call { callee := .builtin .copy, args := #[d, s], argTypes := #[100, 100] }) (g off n c m c' N : Nat) (A : Option Addr) (t : TypeId) (l x : List UInt8)
    (hd : a.eval d = .slice (some ⟨g, off, none⟩) n c) (hs : a.eval s = .slice A m c') (hS : bF w g t l) (hr : Rd w N A m x) (hmn : m ≤ n) (hfit : off + m ≤ l.length)
    (h : ∀ w', bF w' g t (splice l off x) → w.grownBy w' (some g) → wpList Tryz.prog ops Q rest (a.put o.dst (goInt m)) w') : wpList Tryz.prog ops Q (o :: rest) a w := by
  have hx := hr.1
  rcases A with _ | ad
  · have h0 : m = 0 := by
      rcases Nat.eq_zero_or_pos m with h | h
      · exact h
      · obtain ⟨b, off, e, _⟩ := hr.2 0 h
        cases e
    subst h0
    obtain rfl : x = [] := List.eq_nil_of_length_eq_zero hx
    refine wpList_copy_nothing hgd d s _ _ ho 5 Tryz.underlying100 (by kernel_rfl) _ _ _ _ _ _ hd hs (Nat.zero_min _) ?_
    exact h w (by simpa [splice] using hS) (World.grownBy.refl w _)
  · have hcl : (vals x).length = m := by rw [aO, hx]
    refine wpList_copy_own hgd d s _ _ ho 5 Tryz.underlying100 (by kernel_rfl) g off n c ad m c' hd hs _ t hS (vals x) (by rw [hcl]; exact (Nat.min_eq_left hmn).symm) (fun j v hj => ?_) (by simp [hcl, aO]; omega) (vals_one x) ?_
    · have hlt : j < m := by have := (List.getElem?_eq_some_iff.1 hj).1; omega
      obtain ⟨b, o2, e, _, hc⟩ := hr.2 j hlt
      injection e with e
      subst e
      rw [Addr.add_mid, hc, ← hj, vals_at (by omega)]
    · have hrow := setRow_heap w g (vals l).toArray ((vals l).toArray.toList.take off ++ (vals x ++ (vals l).toArray.toList.drop (off + (vals x).length))).toArray t (0, 0) hS
      have e : (vals l).toArray.toList.take off ++ (vals x ++ (vals l).toArray.toList.drop (off + (vals x).length)) = vals (splice l off x) := by
        rw [← splice_vals]
        rfl
      rw [hcl]
      rw [hcl] at hrow e
      refine h _ ?_ ⟨rfl, rfl, rfl, by simp [World.setRow], fun k hk hne => setRow_other w g k _ (fun e => hne (by rw [e]))⟩
      unfold bF
      rw [e] at hrow ⊢
      exact hrow
theorem max_u32 : IntKind.u32.max = 4294967295 := by decide
theorem neg_bits (r : Nat) (h : r < 4294967296) : bits .xor .u32 IntKind.u32.max (r : Int) = ((neg r : Nat) : Int) := by
  rw [max_u32]
  exact u32_xor_nat 4294967295 r (by omega) h
theorem run_snoc (r : Nat) (l : List UInt8) {k : Nat} (h : k < l.length) : tak (run r (l.take k)) l[k].toNat = run r (l.take (k + 1)) := by
  rw [List.take_succ_eq_append_getElem h, run_append]
  rfl
set_option maxHeartbeats 400000 in
theorem more_any (s : Nat) (A : Option Addr) (n c N : Nat) (b : List UInt8) (w : World) (T : Tab w) (hs : s < 4294967296) (hb : Rd w N A n b) (hn : n ≤ maxLen) :
    Calls Tryz.prog 153 #[.int .u32 s, .slice A n c] w fun e w' => e = .returned (.int .u32 (more s b)) ∧ w = w' := by
  have hnb := neg_bits s hs
  have hnl := neg_lt hs
  have hlen := hb.1
  unfold maxLen at hn
  have HL := Lib.hid hlen
  clear hlen
  go_enter Tryz.func153, Tryz.ntmps153
  go_wp2
  clear hnb
  have HM : Hid (more s b = neg (run (neg s) b)) := Lib.hid rfl
  generalize neg s = r0 at *
  go_loop [5, 12] (fun x i => ∃ j : Nat, j ≤ n ∧ i = .int .i64 j ∧ x = .int .u32 (run r0 (b.take j))) (fun _ i => n - (intOf i).toNat)
  case atStart => exact ⟨0, by omega, rfl, rfl⟩
  case round =>
    obtain ⟨j, hj, rfl, rfl⟩ := hrel
    by_cases hlt : j < n
    · obtain ⟨bA, oA, rfl, hA, cA⟩ := hb.2 j hlt
      have hjl : j < b.length := by have := HL.out; omega
      rw [cN hjl] at cA
      have HS := Lib.hid (run_snoc r0 b hjl)
      have hu := UInt8.toNat_lt b[j]
      generalize b[j].toNat = u at *
      have hrl := run_lt hnl (b.take j)
      go_wp2_with fail
      refine (take_any (run r0 (b.take j)) u _ T hrl hu).mono ?_
      rintro e w' ⟨rfl, rfl⟩
      go_wp2
      go_round
      case rel => exact ⟨j + 1, by omega, by go_num, by rw [HS.out]⟩
      case measure => simp [intOf]; omega
    · have h : j = n := by omega
      subst h
      have ht : b.take j = b := List.take_of_length_le (Nat.le_of_eq HL.out)
      rw [ht]
      have hrl := run_lt hnl b
      have hnb := neg_bits (run r0 b) hrl
      clear ht
      go_wp2
      go_ret
      exact ⟨bU (by first | rw [HM.out] | rw [HM.out, hnb]), rfl⟩
theorem of_any (A : Option Addr) (n c N : Nat) (b : List UInt8) (w : World) (T : Tab w) (hb : Rd w N A n b) (hn : n ≤ maxLen) :
    Calls Tryz.prog 141 #[.slice A n c] w fun e w' => e = .returned (.int .u32 (more 0 b)) ∧ w = w' := by
  go_enter Tryz.func141, Tryz.ntmps141
  go_wp2_with fail
  refine (more_any 0 A n c N b _ T (by omega) hb hn).mono ?_
  rintro e w' ⟨rfl, rfl⟩
  go_wp2
  go_ret
  exact ⟨rfl, rfl⟩
section
variable {ρ : Operand → Value} {o : Oper} {x y z u : Operand} {w : World} {t : TypeId} {p q a b c : Value}
theorem dH (ho : o.op = .slice t x (some y) (some z) (some u)) (hx : ρ x = p) (hy : ρ y = a) (hz : ρ z = b) (hu : ρ u = c) (h : (Instr.sliceAt t p (some a) (some b) (some c)).run Tryz.prog w = .ok q w) : (execOp ρ o).run Tryz.prog w = .ok (.value q) w := by
  unfold execOp
  simp only [ho, hx, hy, hz, hu, Option.map_some, Sem.run_bind, h, Result.andThen_ok, Sem.run_pure]
end
section
variable (g : Nat) (w : World)
theorem cut_gen {i j k : Nat} (h1 : i ≤ j) (h2 : j ≤ k) (h3 : k ≤ 64) (h4 : i < k) : (Instr.sliceAt 58 (.pointer (some ⟨g, 0, none⟩)) (some (.int .i64 (i : Int))) (some (.int .i64 (j : Int))) (some (.int .i64 (k : Int)))).run Tryz.prog w = .ok (.slice (some ⟨g, i, none⟩) (j - i) (k - i)) w := by
  have e1 : (0 ≤ (k : Int) ∧ (k : Int) ≤ 64) := by omega
  have e2 : (0 ≤ (j : Int) ∧ (j : Int) ≤ (k : Int)) := by omega
  have e3 : (0 ≤ (i : Int) ∧ (i : Int) ≤ (j : Int)) := by omega
  have e4 : k ≠ i := by omega
  simp [Instr.sliceAt, Instr.sliceBounds, Instr.sliceBound, Instr.sureAddr, asIntOf, run_underlying undB, Tryz.sizeOf5, Addr.add_mid, e1, e2, e3, e4, h1, h2, h3]
theorem cut_a : (Instr.sliceAt 58 (.pointer (some ⟨g, 0, none⟩)) (some (.int .i64 0)) (some (.int .i64 8)) (some (.int .i64 8))).run Tryz.prog w = .ok (.slice (some ⟨g, 0, none⟩) 8 8) w := cut_gen g w (i := 0) (j := 8) (k := 8) (by omega) (by omega) (by omega) (by omega)
theorem cut_b : (Instr.sliceAt 58 (.pointer (some ⟨g, 0, none⟩)) (some (.int .i64 8)) (some (.int .i64 52)) (some (.int .i64 52))).run Tryz.prog w = .ok (.slice (some ⟨g, 8, none⟩) 44 44) w := cut_gen g w (i := 8) (j := 52) (k := 52) (by omega) (by omega) (by omega) (by omega)
theorem cut_c : (Instr.sliceAt 58 (.pointer (some ⟨g, 0, none⟩)) (some (.int .i64 52)) (some (.int .i64 56)) (some (.int .i64 56))).run Tryz.prog w = .ok (.slice (some ⟨g, 52, none⟩) 4 4) w := cut_gen g w (i := 52) (j := 56) (k := 56) (by omega) (by omega) (by omega) (by omega)
theorem cut_d : (Instr.sliceAt 58 (.pointer (some ⟨g, 0, none⟩)) (some (.int .i64 56)) (some (.int .i64 64)) (some (.int .i64 64))).run Tryz.prog w = .ok (.slice (some ⟨g, 56, none⟩) 8 8) w := cut_gen g w (i := 56) (j := 64) (k := 64) (by omega) (by omega) (by omega) (by omega)
theorem cut_e : (Instr.sliceAt 58 (.pointer (some ⟨g, 0, none⟩)) (some (.int .i64 0)) (some (.int .i64 52)) (some (.int .i64 52))).run Tryz.prog w = .ok (.slice (some ⟨g, 0, none⟩) 52 52) w := cut_gen g w (i := 0) (j := 52) (k := 52) (by omega) (by omega) (by omega) (by omega)
end
section
variable {ρ : Operand → Value} {o : Oper} {x y : Operand} {w : World} {t : TypeId} {old cs : Array Value}
theorem exec_fillD (hz : (Tryz.prog.info? t).map (·.size) = some cs.size) (he : old.size = cs.size) (h1 : cs.toList.all Value.oneCell' = true) (ho : o.op = .store t x y) (hx : ρ x = .pointer (some ⟨w.heap.size, 0, none⟩)) (hy : ρ y = .agg cs) :
    (execOp ρ o).run Tryz.prog (w.alloc (.cells old t)).drew = .ok .skip (w.alloc (.cells cs t)).drew := exec_fillT (w := w.drew) hz he h1 ho hx hy
end
theorem exec_bld5 {ρ : Operand → Value} {o : Oper} {w : World} {t : TypeId} {v : Value} {x0 x1 x2 x3 x4 : Operand} {y0 y1 y2 y3 y4 : Value} (ho : o.op = .build t #[(0, x0), (1, x1), (2, x2), (3, x3), (4, x4)]) (h0 : ρ x0 = y0) (h1 : ρ x1 = y1) (h2 : ρ x2 = y2) (h3 : ρ x3 = y3) (h4 : ρ x4 = y4)
    (h : (Instr.build t #[(0, y0), (1, y1), (2, y2), (3, y3), (4, y4)]).run Tryz.prog w = .ok v w) : (execOp ρ o).run Tryz.prog w = .ok (.value v) w := by
  subst h0 h1 h2 h3 h4
  unfold execOp
  simp only [ho, List.map_toArray, List.map_cons, List.map_nil, Sem.run_bind, h, Result.andThen_ok, Sem.run_pure]
theorem res_row {fn : Func} {p : Tmp} {t : TypeId} {cs : Array Value} {d : TypeDesc} (h0 : fn.results = #[.cell p t]) (tmps : Array Value) (w : World) (b : Nat) (hp : tmps.getD p undef = .pointer (some ⟨b, 0, none⟩)) (h : w.heap[b]? = some (.cells cs t (0, 0))) (hu : Tryz.prog.underlying t = some d) (hd : d.isRow = true) (hz : (Tryz.prog.info? t).map (·.size) = some cs.size) :
    (results fn tmps).run Tryz.prog w = .ok (.agg cs) w := by
  have hr : w.rangeAt b 0 cs.toList := fun j v hj => by
    rw [cell_of_row w b (0 + j) cs t (0, 0) h, Nat.zero_add]
    simpa using hj
  have hl : (loadVar t ⟨b, 0, none⟩).run Tryz.prog w = .ok (.agg cs) w := by
    have := run_loadVar_mid (P := Tryz.prog) w b 0 t cs.toList d hr hu hd (by simpa using hz)
    simpa using this
  have hp' : tmps[p]?.getD undef = .pointer (some ⟨b, 0, none⟩) := by simpa using hp
  simp [results, h0, hp', asAddr, hl]
theorem grown_of_below {w w' : World} {row : Option Nat} (hb : Below w.heap.size w w') : w.grownBy w' row := ⟨hb.os, hb.tape, hb.output, hb.size, fun k hk _ => hb.block k hk⟩
def dl (g : Nat) : Array Value := #[.slice (some ⟨g, 0, none⟩) 8 8, .slice (some ⟨g, 8, none⟩) 44 44, .slice (some ⟨g, 52, none⟩) 4 4, .slice (some ⟨g, 56, none⟩) 8 8, .slice (some ⟨g, 0, none⟩) 52 52]
theorem parts5 (g : Nat) (w : World) : (Instr.build 171 #[(0, .slice (some ⟨g, 0, none⟩) 8 8), (1, .slice (some ⟨g, 8, none⟩) 44 44), (2, .slice (some ⟨g, 52, none⟩) 4 4), (3, .slice (some ⟨g, 56, none⟩) 8 8), (4, .slice (some ⟨g, 0, none⟩) 52 52)]).run Tryz.prog w = .ok (.agg (dl g)) w := by kernel_rfl
set_option maxHeartbeats 1000000 in
theorem cut_any (g : Nat) (w : World) : Calls Tryz.prog 139 #[.pointer (some ⟨g, 0, none⟩)] w fun e w' => e = .returned (.agg #[.slice (some ⟨g, 0, none⟩) 8 8, .slice (some ⟨g, 8, none⟩) 44 44, .slice (some ⟨g, 52, none⟩) 4 4, .slice (some ⟨g, 56, none⟩) 8 8, .slice (some ⟨g, 0, none⟩) 52 52]) ∧ Below w.heap.size w w' := by
  go_enter Tryz.func139, Tryz.ntmps139
  go_wp2_with fail
  refine wp_region_still_tail 15 (by kernel_rfl) (by kernel_rfl) ?_
  simp only [List.take_succ_cons, List.take_zero, List.drop_succ_cons, List.drop_zero]
  refine aI rfl (ai rfl (ev rfl)) ?_
  simp only [Act.put, aa, ac, ae]
  refine aI rfl (bg rfl (ev rfl)) ?_
  simp only [Act.put, aa, ac, ae]
  refine aI rfl (dH rfl (ev rfl) evk evk evk (cut_a g _)) ?_
  simp only [Act.put, aa, ac, ae]
  refine aI rfl (ai rfl (ev rfl)) ?_
  simp only [Act.put, aa, ac, ae]
  refine aI rfl (bg rfl (ev rfl)) ?_
  simp only [Act.put, aa, ac, ae]
  refine aI rfl (dH rfl (ev rfl) evk evk evk (cut_b g _)) ?_
  simp only [Act.put, aa, ac, ae]
  refine aI rfl (ai rfl (ev rfl)) ?_
  simp only [Act.put, aa, ac, ae]
  refine aI rfl (bg rfl (ev rfl)) ?_
  simp only [Act.put, aa, ac, ae]
  refine aI rfl (dH rfl (ev rfl) evk evk evk (cut_c g _)) ?_
  simp only [Act.put, aa, ac, ae]
  refine aI rfl (ai rfl (ev rfl)) ?_
  simp only [Act.put, aa, ac, ae]
  refine aI rfl (bg rfl (ev rfl)) ?_
  simp only [Act.put, aa, ac, ae]
  refine aI rfl (dH rfl (ev rfl) evk evk evk (cut_d g _)) ?_
  simp only [Act.put, aa, ac, ae]
  refine aI rfl (ai rfl (ev rfl)) ?_
  simp only [Act.put, aa, ac, ae]
  refine aI rfl (bg rfl (ev rfl)) ?_
  simp only [Act.put, aa, ac, ae]
  refine aI rfl (dH rfl (ev rfl) evk evk evk (cut_e g _)) ?_
  simp only [Act.put, aa, ac, ae]
  refine wpStill_nil ?_
  change wpList _ _ _ _ _ (World.drew _)
  refine ag rfl (exec_bld5 (v := .agg (dl g)) rfl (ev rfl) (ev rfl) (ev rfl) (ev rfl) (ev rfl) (parts5 g _)) ?_
  simp only [Act.put, aa, ac, ae]
  refine aU rfl (exec_fillD (w := w) (cs := dl g) ?s1 ?s2 ?s3 rfl (ev rfl) (ev rfl)) ?_
  case s1 => kernel_rfl
  case s2 => rfl
  case s3 => rfl
  refine wpList_nil ?_
  go_wp2_with fail
  refine bodyPost_ret (res_row (cs := dl g) (t := 171) rfl _ _ w.heap.size rfl ?h1 Tryz.underlying171 rfl ?h2) rfl ⟨rfl, ?h3⟩
  case h1 => exact heap_alloc_new w.drew _
  case h2 => kernel_rfl
  case h3 => exact bd ((Below.refl _ w).alloc (Nat.le_refl _) _)
theorem piece_all {b : List UInt8} {n : Nat} (h : b.length = n) : piece b 0 n = b := by
  subst h
  simp [piece]
set_option maxHeartbeats 400000 in
theorem dw (A : Option Addr) (n c N : Nat) (b : List UInt8) (w : World) (hb : Rd w N A n b) (h1 : 1 ≤ n) (h2 : n ≤ 8) :
    Calls Tryz.prog 159 #[.slice A n c] w fun e w' => e = .returned (.int .u64 (val 8 b)) ∧ w = w' := by
  have hp := piece_all hb.1
  have HP := Lib.hid hp
  clear hp
  go_enter Tryz.func159, Tryz.ntmps159
  go_wp2_with fail
  refine (get_ok A n c N b 0 n _ hb (by unfold maxLen; omega) h1 h2 (by omega)).mono ?_
  rintro e w' ⟨rfl, rfl⟩
  rw [HP.out]
  go_wp2
  go_ret
  exact ⟨rfl, rfl⟩
set_option maxHeartbeats 400000 in
theorem lay_any (g off k n : Nat) (t : TypeId) (l : List UInt8) (w : World) (hs : bF w g t l) (h1 : 1 ≤ k) (h2 : k ≤ 8) (ho : off + k ≤ l.length) (hn : n < 256 ^ k) :
    Calls Tryz.prog 140 #[.slice (some ⟨g, off, none⟩) k k, .int .u64 n] w fun e w' => e = .returned (.tuple #[]) ∧ bF w' g t (splice l off (aN 8 k n)) ∧ w.grownBy w' (some g) := by
  have HS := Lib.hid hs
  have HL := Lib.hid (av 8 k n)
  clear hs
  go_enter Tryz.func140, Tryz.ntmps140
  go_wp2_with fail
  refine (put_ok n k w h1 h2 hn).mono ?_
  rintro e w1 ⟨v, rfl, hv, hb⟩
  obtain ⟨A, c, rfl, hrd, _, _⟩ := hv.made.open_ HL.out
  have HR := Lib.hid hrd
  have HS1 := Lib.hid (HS.out.below HS.out.lt hb)
  have HB := Lib.hid hb
  clear hv hrd hb
  go_wp2_with (with_reducible refine cQ rfl _ _ rfl g off k k k c _ A t l (aN 8 k n) rfl rfl HS1.out HR.out (Nat.le_refl _) ho ?_)
  intro w2 hr2 hg2
  have HR2 := Lib.hid hr2
  have HG2 := Lib.hid hg2
  clear hr2 hg2
  go_wp2
  go_end0
  exact ⟨rfl, HR2.out, (grown_of_below HB.out).trans HG2.out⟩
theorem bt_pad {b : List UInt8} {j : Nat} : bt (padL b) j = if j < b.length then bt b j else 0 := by
  unfold padL
  split
  · rename_i h; exact cR h
  · rename_i h; rw [cU (by omega), bt_noughts]
theorem bt_head {n : Nat} {b : List UInt8} {j : Nat} : bt (cK n b) j = if j < 8 then bt (aN 8 8 n) j else if j < 8 + b.length then bt b (j - 8) else 0 := by
  unfold cK
  split
  · rename_i h; exact cR (by rw [av]; exact h)
  · rename_i h
    rw [cU (by rw [av]; omega), av, bt_pad]
    by_cases h2 : j < 8 + b.length
    · rw [if_pos (by omega), if_pos h2]
    · rw [if_neg (by omega), if_neg h2]
theorem bt_seal {n : Nat} {b : List UInt8} {j : Nat} (hb : b.length ≤ 44) : bt (cm n b) j = if j < 52 then bt (cK n b) j else if j < 56 then bt (aN 8 4 (more 0 (cK n b))) (j - 52) else bt (aN 8 8 n) (j - 56) := by
  have h52 := cX n hb
  unfold cm
  split
  · rename_i h; exact cR (by omega)
  · rename_i h
    rw [cU (by omega), h52]
    split
    · rename_i h2; exact cR (by rw [av]; omega)
    · rename_i h2; rw [cU (by rw [av]; omega), av, show j - 52 - 4 = j - 56 from by omega]
def noSum (n : Nat) (b : List UInt8) : List UInt8 := splice (splice (splice ar.toList 0 (aN 8 8 n)) 56 (aN 8 8 n)) 8 b
theorem noSum_1 (n : Nat) : (splice ar.toList 0 (aN 8 8 n)).length = 64 := by rw [length_splice _ _ _ (by simp [av])]; simp
theorem noSum_2 (n : Nat) : (splice (splice ar.toList 0 (aN 8 8 n)) 56 (aN 8 8 n)).length = 64 := by rw [length_splice _ _ _ (by rw [noSum_1, av]; omega), noSum_1]
section
variable {n : Nat} {b : List UInt8} (hb : b.length ≤ 44)
include hb
theorem dD : (noSum n b).length = 64 := by unfold noSum; rw [length_splice _ _ _ (by rw [noSum_2]; omega), noSum_2]
theorem bt_noSum {j : Nat} : bt (noSum n b) j = if 8 ≤ j ∧ j < 8 + b.length then bt b (j - 8) else if 56 ≤ j ∧ j < 64 then bt (aN 8 8 n) (j - 56) else if j < 8 then bt (aN 8 8 n) j else 0 := by
  unfold noSum
  have hz : bt ar.toList j = 0 := by
    have : ar.toList = List.replicate 64 0 := by decide
    rw [this, bt_noughts]
  rw [bt_splice (by rw [noSum_2]; omega), bt_splice (by rw [noSum_1, av]; omega), bt_splice (by simp [av]), av, hz]
  congr 2
  by_cases h : j < 8
  · rw [if_pos (by omega), if_pos h, Nat.sub_zero]
  · rw [if_neg (by omega), if_neg h]
theorem noSum_head : piece (noSum n b) 0 52 = cK n b := by
  refine eq_of_bt (by rw [cq (by rw [dD hb]; omega), cX n hb]) fun j hj => ?_
  rw [cq (by rw [dD hb]; omega)] at hj
  rw [bt_piece hj, Nat.zero_add, bt_noSum hb, bt_head]
  by_cases h8 : j < 8
  · rw [if_neg (by omega), if_neg (by omega), if_pos h8, if_pos h8]
  · by_cases h2 : j < 8 + b.length
    · rw [if_pos (by omega), if_neg h8, if_pos h2]
    · rw [if_neg (by omega), if_neg (by omega), if_neg h8, if_neg h8, if_neg h2]
theorem noSum_seal : splice (noSum n b) 52 (aN 8 4 (more 0 (cK n b))) = cm n b := by
  have h64 := dD (n := n) hb
  refine eq_of_bt (by rw [length_splice _ _ _ (by rw [h64, av]; omega), h64, sealL_length n hb]) fun j hj => ?_
  rw [length_splice _ _ _ (by rw [h64, av]; omega), h64] at hj
  rw [bt_splice (by rw [h64, av]; omega), bt_seal hb, av, bt_noSum hb, bt_head]
  by_cases h52 : j < 52
  · rw [if_neg (by omega), if_pos h52]
    by_cases h8 : j < 8
    · rw [if_neg (by omega), if_neg (by omega), if_pos h8, if_pos h8]
    · by_cases h2 : j < 8 + b.length
      · rw [if_pos (by omega), if_neg h8, if_pos h2]
      · rw [if_neg (by omega), if_neg (by omega), if_neg h8, if_neg h8, if_neg h2]
  · by_cases h56 : j < 56
    · rw [if_pos (by omega), if_neg h52, if_pos h56]
    · rw [if_neg (by omega), if_neg h52, if_neg h56, if_neg (by omega), if_pos (by omega)]
end
theorem cells5 {w : World} {b : Nat} {t : TypeId} {x y z u v : Value} (h : w.heap[b]? = some (.cells #[x, y, z, u, v] t (0, 0))) : w.cell? ⟨b, 0, none⟩ = some x ∧ w.cell? ⟨b, 1, none⟩ = some y ∧ w.cell? ⟨b, 2, none⟩ = some z ∧ w.cell? ⟨b, 3, none⟩ = some u ∧ w.cell? ⟨b, 4, none⟩ = some v := by
  refine ⟨?_, ?_, ?_, ?_, ?_⟩
  · rw [cell_of_row w b 0 _ t (0, 0) h]; rfl
  · rw [cell_of_row w b 1 _ t (0, 0) h]; rfl
  · rw [cell_of_row w b 2 _ t (0, 0) h]; rfl
  · rw [cell_of_row w b 3 _ t (0, 0) h]; rfl
  · rw [cell_of_row w b 4 _ t (0, 0) h]; rfl
def PartsAt (w : World) (p g : Nat) : Prop := w.heap[p]? = some (.cells (dl g) 171 (0, 0))
theorem PartsAt.cells {w : World} {p g : Nat} (h : PartsAt w p g) : w.cell? ⟨p, 0, none⟩ = some (.slice (some ⟨g, 0, none⟩) 8 8) ∧ w.cell? ⟨p, 1, none⟩ = some (.slice (some ⟨g, 8, none⟩) 44 44) ∧ w.cell? ⟨p, 2, none⟩ = some (.slice (some ⟨g, 52, none⟩) 4 4) ∧ w.cell? ⟨p, 3, none⟩ = some (.slice (some ⟨g, 56, none⟩) 8 8) ∧ w.cell? ⟨p, 4, none⟩ = some (.slice (some ⟨g, 0, none⟩) 52 52) := cells5 h
theorem PartsAt.grown {w w' : World} {p g k : Nat} (h : PartsAt w p g) (hk : p ≠ k) (hb : w.grownBy w' (some k)) : PartsAt w' p g := (hb.block p (aF h) (fun e => hk (by injection e))).trans h
theorem PartsAt.below {w w' : World} {p g B : Nat} (h : PartsAt w p g) (hB : p < B) (hb : Below B w w') : PartsAt w' p g := blk_keep2 h hB hb
structure PutW (B : Nat) (w w' : World) (r g p : Nat) (l : List UInt8) : Prop where
  res : bF w' r 58 ar.toList
  row : bF w' g 58 l
  par : PartsAt w' p g
  bel : Below B w w'
  r0 : B ≤ r
  g0 : B ≤ g
  rg : r ≠ g
  pg : p ≠ g
theorem PutW.turn {B : Nat} {w w1 w2 : World} {r g p : Nat} {l l' : List UInt8} (h : PutW B w w1 r g p l) (hr : bF w2 g 58 l') (hg : w1.grownBy w2 (some g)) (hB : B ≤ w.heap.size) : PutW B w w2 r g p l' :=
  ⟨h.res.grown h.rg hg, hr, h.par.grown h.pg hg, h.bel.grown hg (Nat.le_trans hB h.bel.size) (fun k hk => by injection hk with e; have := h.g0; omega), h.r0, h.g0, h.rg, h.pg⟩
theorem PutW.draw {B : Nat} {w w1 : World} {r g p : Nat} {l : List UInt8} (h : PutW B w w1 r g p l) : PutW B w w1.drew r g p l := ⟨h.res, h.row, h.par, bd h.bel, h.r0, h.g0, h.rg, h.pg⟩
section
variable {ρ : Operand → Value} {o : Oper} {x y z : Operand} {w : World} {t : TypeId} {n : Nat} {a : Value} {ad : Addr} {A : Option Addr} {m c : Nat}
theorem exec_cv32 (ho : o.op = .convert 47 23 x) (hx : ρ x = .int .u32 (n : Int)) (hn : n < 4294967296) : (execOp ρ o).run Tryz.prog w = .ok (.value (.int .u64 (n : Int))) w := by
  have h : IntKind.u64.wrap (n : Int) = (n : Int) := IntWalk.u64_in _ ⟨by omega, by omega⟩
  have hc : (convert 47 23 (.int .u32 (n : Int))).run Tryz.prog w = .ok (.int .u64 (n : Int)) w := by simp [convert, go_sem, h]
  unfold execOp
  simp only [ho, hx, Sem.run_bind, hc, Result.andThen_ok, Sem.run_pure]
theorem ldS (h : w.cell? ad = some (.slice A m c)) : (Instr.loadAt 100 (.pointer (some ad))).run Tryz.prog w = .ok (.slice A m c) w := by simp [go_sem, h]
theorem faP2 {b : Nat} : (Instr.fieldAt 171 (.pointer (some ⟨b, 0, none⟩)) 2).run Tryz.prog w = .ok (.pointer (some ⟨b, 2, none⟩)) w := by kernel_rfl
theorem faP4 {b : Nat} : (Instr.fieldAt 171 (.pointer (some ⟨b, 0, none⟩)) 4).run Tryz.prog w = .ok (.pointer (some ⟨b, 4, none⟩)) w := by kernel_rfl
end
set_option maxHeartbeats 1000000 in
theorem put_arg (m c : Nat) (A : Option Addr) (b : List UInt8) (w : World) (hb : b.length = m) :
    Calls Tryz.prog 130 #[.int .u64 0, .slice A m c] w fun e w' => e = .returned (.tuple #[blk (putB 0 b), .int .i64 (putE 0 b : Nat)]) ∧ Below w.heap.size w w' := by
  have hA := (Below.refl w.heap.size w).alloc (Nat.le_refl _) (.cells (cel ar).toArray 58)
  have HT := Lib.hid (df w ar 58)
  have HA := Lib.hid hA
  clear hA
  rw [show putB 0 b = ar from rfl, show putE 0 b = 2 from rfl]
  go_enter Tryz.func130, Tryz.ntmps130
  go_wp2_with (first | (refine ag rfl (aV rfl) ?_) | (refine ag rfl (cf (c := ar) (parts := []) rfl rfl) ?_) | (refine aU rfl (bf rfl rfl rfl HT.out) ?_))
  refine bodyPost_ret (bS rfl _ _ _ rfl (World.rangeAt_setCells_same _ _ _ _ (by rw [ax]; exact HT.out))) rfl ⟨rfl, below_setCells HA.out (Nat.le_refl _) _⟩
set_option maxHeartbeats 1000000 in
theorem put_long (n m c : Nat) (A : Option Addr) (b : List UInt8) (w : World) (hb : b.length = m) (h0 : 0 < n) (hm : 44 < m) (hm2 : m ≤ maxLen) :
    Calls Tryz.prog 130 #[.int .u64 n, .slice A m c] w fun e w' => e = .returned (.tuple #[blk (putB n b), .int .i64 (putE n b : Nat)]) ∧ Below w.heap.size w w' := by
  have hA := (Below.refl w.heap.size w).alloc (Nat.le_refl _) (.cells (cel ar).toArray 58)
  have HT := Lib.hid (df w ar 58)
  have HA := Lib.hid hA
  have hE : putE n b = 3 := by unfold putE; rw [if_neg (by omega), if_pos (by omega)]
  have hB : putB n b = ar := by unfold putB; rw [hE]; rfl
  rw [hE, hB]
  unfold maxLen at hm2
  clear hA hE hB hb
  have hz : ((n : Int) == 0) = false := by simp; omega
  go_enter Tryz.func130, Tryz.ntmps130
  go_wp2_with (first | (refine ag rfl (aV rfl) ?_) | (refine ag rfl (cf (c := ar) (parts := []) rfl rfl) ?_) | (refine aU rfl (bf rfl rfl rfl HT.out) ?_))
  refine bodyPost_ret (bS rfl _ _ _ rfl (World.rangeAt_setCells_same _ _ _ _ (by rw [ax]; exact HT.out))) rfl ⟨rfl, below_setCells HA.out (Nat.le_refl _) _⟩
theorem splice_pad {a x : List UInt8} (h : a.length + x.length ≤ 44) : splice (padL a) a.length x = padL (a ++ x) := by
  unfold splice padL
  rw [List.take_append_of_le_length (Nat.le_refl _), List.take_length, List.drop_append]
  rw [List.drop_of_length_le (by omega), List.nil_append, List.drop_replicate, List.append_assoc, List.length_append]
  congr 3
  omega
def z44 : List UInt8 := List.replicate 44 0
theorem z44_length : z44.length = 44 := rfl
end Go.Proofs.YtnliphgjcaippaaGreatDoor
