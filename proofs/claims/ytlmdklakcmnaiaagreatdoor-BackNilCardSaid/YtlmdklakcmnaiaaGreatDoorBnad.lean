import Derived.Test.YtlmdklakcmnaiaaGreatDoorBnac
import Derived.Deep.DeepCutAuto
namespace Go.Proofs.YtlmdklakcmnaiaaGreatDoor
set_option maxHeartbeats 8000000
open Go.Proofs.Tryz
open Go.RowKit
set_option linter.unusedVariables false
set_option maxRecDepth 100000
def Rv (w : World) (F : Nat -> Prop) (p : Nat) (S : List Blk) (L : List (Int × Blk)) (g : Bool) : Prop := ∃ vS vL, F = foot p vS vL /\ vx w p vS vL S L g /\ Fit S L
section
variable {w w' : World} {F G : Nat -> Prop} {p : Nat} {S : List Blk} {L : List (Int × Blk)} {g : Bool}
theorem Rv.lt (h : Rv w F p S L g) : ∀ b, F b -> b < w.heap.size := by
 obtain ⟨vS, vL, rfl, h, _⟩ := h;exact h.lt
theorem Rv.only (h : Rv w F p S L g) (k : Only G w w') (hn : ∀ b, F b -> ¬ G b) : Rv w' F p S L g := by
 obtain ⟨vS, vL, rfl, h, hF⟩ := h;exact ⟨vS, vL, rfl, h.only k hn, hF⟩
end
section
variable {w : World} {F : Nat -> Prop} {p : Nat} {S : List Blk} {L : List (Int × Blk)} {g : Bool}
theorem agl (k : Nat) (w : World) (h1 : 1 <= k) (h2 : k <= 512) : Calls prog 39 #[.int .i64 k] w fun e w' => ∃ p F, e = .returned (.tuple #[.pointer (some ⟨p, 0, none⟩), .int .i64 0]) /\ Rv w' F p (List.replicate k aI) [] false /\ Below w.heap.size w w' /\ ∀ b, F b -> w.heap.size <= b := by
 refine (adf k w h1 h2).mono ?_;rintro e w' ⟨p, vS, he, hr, hb, hf⟩;exact ⟨p, _, he, ⟨vS, _, rfl, hr, Fit.nil _⟩, hb, hf⟩
end
def fw : ig where
 K := ⟨Rv, Rv.lt, Rv.only⟩
 s := 96
 t := 99
 und := underlying96
 info := by kernel_rfl
 o := 98
 cs := fun v left co steps => #[v, .int .i64 left, .bool co, .int .i64 steps]
 ne := by decide
theorem rR {w : World} {b : Nat} {t : TypeId} {x y z u : Value} (h : w.heap[b]? = some (.cells #[x, y, z, u] t (0, 0))) : w.cell? ⟨b, 0, none⟩ = some x /\ w.cell? ⟨b, 1, none⟩ = some y /\ w.cell? ⟨b, 2, none⟩ = some z /\ w.cell? ⟨b, 3, none⟩ = some u := by
 refine ⟨?_, ?_, ?_, ?_⟩
 ·rw [cell_of_row w b 0 _ t (0, 0) h]; rfl
 ·rw [cell_of_row w b 1 _ t (0, 0) h]; rfl
 ·rw [cell_of_row w b 2 _ t (0, 0) h]; rfl
 ·rw [cell_of_row w b 3 _ t (0, 0) h]; rfl
theorem aa8 {w : World} {F : Nat -> Prop} {p : Nat} {S : List Blk} {L : List (Int × Blk)} {g : Bool} (h : Rv w F p S L g) : ∃ A c, w.cell? ⟨p, 0, none⟩ = some (.slice A S.length c) /\ w.cell? ⟨p, 2, none⟩ = some (.bool g) := by
 obtain ⟨vS, vL, rfl, h, _⟩ := h;obtain ⟨c0, c1, c2⟩ := cells3 h.at_;obtain ⟨A, c, rfl, _, _⟩ := h.S_.form;exact ⟨A, c, c0, c2⟩
section
variable {w w' : World} {p : Nat} {v : Value} {Fs : Nat -> Nat -> Prop} {ps : List Nat} {M : aV}
theorem bQ.sw (h : bQ fw w p v Fs ps M) : w.cell? ⟨p, 0, none⟩ = some v /\ w.cell? ⟨p, 1, none⟩ = some (.int .i64 M.left) /\ w.cell? ⟨p, 2, none⟩ = some (.bool M.co) /\ w.cell? ⟨p, 3, none⟩ = some (.int .i64 M.steps) := rR h.at_
theorem aaa (h : bQ fw w p v Fs ps M) :
  Calls prog 45 #[.pointer (some ⟨p, 0, none⟩)] w fun e w' => e = .returned (.int .i64 (M.ds.length : Int)) /\ w = w' := by
 obtain ⟨g, c, rfl, _, _⟩ := h.slice;obtain ⟨c0, c1, c2, c3⟩ := h.sw;go_enter func45, ntmps45;go_wp2;go_ret;exact ⟨rfl, rfl⟩
theorem abA (h : bQ fw w p v Fs ps M) {d : Int} (hd : ¬(0 <= d /\ d < M.ds.length)) :
  Calls prog 82 #[.pointer (some ⟨p, 0, none⟩), .int .i64 d] w fun e w' => e = .returned (.bool false) /\ w = w' := by
 obtain ⟨g, c, rfl, _, _⟩ := h.slice;obtain ⟨c0, c1, c2, c3⟩ := h.sw;clear h;by_cases h0 : 0 <= d
 ·have h1 : ¬(d < (M.ds.length : Int)) := by omega
  clear hd;go_enter func82, ntmps82;go_wp2;go_ret;exact ⟨rfl, rfl⟩
 ·clear hd;go_enter func82, ntmps82;go_wp2;go_ret;exact ⟨rfl, rfl⟩
theorem aaA (h : bQ fw w p v Fs ps M) {k : Nat} (hk : k < M.ds.length) :
  Calls prog 82 #[.pointer (some ⟨p, 0, none⟩), .int .i64 k] w fun e w' => e = .returned (.bool true) /\ w = w' := by
 obtain ⟨g, c, rfl, _, _⟩ := h.slice;obtain ⟨c0, c1, c2, c3⟩ := h.sw;clear h;go_enter func82, ntmps82;go_wp2;go_ret;exact ⟨rfl, rfl⟩
theorem zV (d : Int) (h : bQ fw w p v Fs ps M) :
  Calls prog 46 #[.pointer (some ⟨p, 0, none⟩), .int .i64 d] w fun e w' => e = .returned (.int .i64 (ia M d)) /\ w = w' := by
 rcases lN M d with ⟨e, ho⟩ | ⟨e, k, rfl, hk⟩
 ·have HS : Hid (ia M d = 0) := ae (by unfold ia; rw [if_neg (by omega)]);have HO := ae (abA h ho);clear e h ho;go_enter func46, ntmps46;go_wp2_with fail;refine HO.out.mono ?_;rintro e w1 ⟨rfl, rfl⟩;go_wp2_with fail;go_ret;exact ⟨dk HS.out.symm, rfl⟩
 ·obtain ⟨x, hx⟩ : ∃ x, M.ds.getD k bI = x := ⟨_, rfl⟩;have hat := h.devs.at_ k hk;rw [hx] at hat
  have HS : Hid (ia M (k : Int) = (x.S.length : Int)) := ae (by unfold ia; rw [if_pos e, M.nO, hx]);have HO := ae (aaA h hk);obtain ⟨g, c, rfl, _, _⟩ := h.slice;obtain ⟨c0, c1, c2, c3⟩ := h.sw;have ck := h.cell hk;obtain ⟨AS, cS, d0, d2⟩ := aa8 hat
  clear e h hat hx;generalize ps.getD k 0 = q at *;go_enter func46, ntmps46;go_wp2_with fail;refine HO.out.mono ?_;rintro e w1 ⟨rfl, rfl⟩;go_wp2_with fail;go_ret;exact ⟨dk HS.out.symm, rfl⟩
end
section
variable {w w' : World}
theorem ah0 {A : Option Addr} {n c : Nat} {ks : List Int} (hl : RdE bN w w.heap.size A n ks) (hnc : n <= c) (hc : c <= maxLen) :
  Calls prog 15 #[.slice A n c] w (fj fw w ks) := by
 have hlen : ks.length = n := hl.1;unfold maxLen at hc;by_cases h1 : n < 1
 ·have HN := ae (show ¬ i8 ks from fun h => by have := h.1; omega);have h0 : n = 0 := by omega
  subst h0;clear hl hlen h1;go_enter func15, ntmps15;go_wp2;go_ret2;exact fj.no ak HN rfl
 by_cases h2 : 17 < n
 ·have HN := ae (show ¬ i8 ks from fun h => by have := h.2.1; omega);have h1' : ¬((n : Int) < 1) := by omega
  have h2' : ((n : Int) > 17) := by omega
  clear hl hlen h1 h2;go_enter func15, ntmps15;go_wp2;go_ret2;exact fj.no ak HN rfl
 have h1' : ¬((n : Int) < 1) := by omega
 have h2' : ¬((n : Int) > 17) := by omega
 have h3' : ¬(17 < (n : Int)) := by omega
 have HL := ae hl;have HLEN := ae hlen;have HMK := ae (show Making fw w (w.alloc (.cells #[.slice none 0 0, .int .i64 0, .bool false, .int .i64 0] 98)) (.slice none 0 0) (fun _ _ => False) [] [] 0 false 0 from
  ⟨heap_alloc_new w _, aO.nil _ _, ⟨rfl, fun i hi => absurd hi (Nat.not_lt_zero i), fun i j hi => absurd hi (Nat.not_lt_zero i)⟩, fun i hi => absurd hi (Nat.not_lt_zero i), (Below.refl _ w).alloc aj _⟩)
 clear hl hlen;go_enter func15, ntmps15;go_wp2_with fail;generalize w.alloc (.cells #[.slice none 0 0, .int .i64 0, .bool false, .int .i64 0] 98) = w0 at *;clear h1' h2' h3'
 go_loopw [5] (fun i wr => ∃ (j : Nat) (v : Value) (Fs : Nat -> Nat -> Prop) (ps : List Nat), j <= n /\ i = .int .i64 j /\ Making fw w wr v Fs ps ((ks.take j).map nV) 0 false 0 /\ ∀ q, q < j -> 1 <= ks.getD q 0 /\ ks.getD q 0 <= 512) (fun i _ => n - (intOf i).toNat)
 case atStart => exact ⟨0, _, _, _, Nat.zero_le _, rfl, HMK, fun q hq => absurd hq (Nat.not_lt_zero q)⟩
 case round =>
  obtain ⟨j, v, Fs, ps, hj, rfl, hmk, hall⟩ := hrel;have HALL := ae hall;clear hall HMK;by_cases hlt : j < n
  ·have hlj : (j : Int) < (n : Int) := by omega
   obtain ⟨bA, oA, rfl, hbA, hcA⟩ := (HL.out.below hmk.below).int hlt;have HM := ae hmk;obtain ⟨AS, cS, rfl, hs1, hs2⟩ := hmk.row.form;unfold maxLen at hs2;have hpl : ps.length = j := by have := hmk.devs.len; rw [List.length_map, List.length_take] at this; have := HLEN.out; omega
   have HPL := ae hpl;obtain ⟨z, hz⟩ : ∃ z, ks.getD j 0 = z := ⟨_, rfl⟩;rw [hz] at hcA;have HZ := ae hz;clear hmk hz hpl;by_cases hok : 1 <= z /\ z <= 512
   ·obtain ⟨k, rfl⟩ : ∃ k : Nat, z = k := ⟨z.toNat, by omega⟩;have hk1 : 1 <= k := by omega
    have hk2 : k <= 512 := by omega
    clear hok;go_wp2_with fail;refine (agl k wr hk1 hk2).mono ?_;rintro e w1 ⟨p', F', rfl, hd1, hb1, hF1⟩;have hat1 := aB HM.out.at_ hb1;obtain ⟨c0, c1, c2, c3⟩ := rR hat1;have hrow1 := HM.out.row.below hb1;have hrow2 := hrow1.below ((Below.refl _ w1).alloc aj (.cells (fw.E.cel p').toArray fw.E.t));have HR := ae hrow2;have HNEW := ae (fI (E := fw.E) (l := [p']) w1 (fw.E.cel p').toArray fw.E.t (by rw [eD]; simp [cu]));have HSZ := ae (show w.heap.size <= (w1.alloc (.cells (fw.E.cel p').toArray fw.E.t)).heap.size by rw [World.size_alloc]; have := HM.out.below.size; have := hb1.size; omega);have HD1 := ae hd1;have HB1 := ae hb1;have HF1 := ae hF1;have HAT := ae hat1;have HPS := ae (show ps.length + 1 <= 34359738368 by have := HPL.out; omega);clear hd1 hb1 hF1 hat1 hrow1 hrow2;have hal : w.heap.size < w1.heap.size := aT HAT;go_wp2_with (first | (refine ay rfl (el (E := fw.E) (a := p') rfl rfl rfl (by decide)) ?_) | (at_builtin; refine jF fw.E rfl _ _ rfl w.heap.size _ _ _ _ ps [p'] _ rfl rfl HR HNEW HSZ HPS ?_) | fail);intro v' w3 hm3 hg3 ho3;have hxv : v'.ownBlock ≠ some w.heap.size := fun e => by
     rcases ho3 _ e with e' | e'
     ·exact HM.out.row.eZ HM.out.at_ fw.ne e'
     ·omega
    have HNX := ae (HM.out.next (fun _ _ => rfl) HB1 HF1 (d := nV k) HD1 hm3 hg3 ho3);have hvx : (Value.slice AS ps.length cS).ownBlock ≠ some w.heap.size := HM.out.row.eZ HM.out.at_ fw.ne;have hat3 : w3.heap[w.heap.size]? = some _ := (hg3.block w.heap.size (by rw [World.size_alloc]; omega) (fun e => hvx e.symm)).trans (br HAT _);obtain ⟨AV, cV, rfl, _, _⟩ := hm3.form;obtain ⟨d0, d1, d2, d3⟩ := rR hat3;have f0 := frozen_of_row w3 w.heap.size 0 _ _ hat3;clear hm3 hg3 ho3 hat3 c0 c1 c2 c3;go_wp2_with fail;go_roundw
    case rel =>
     refine ⟨j + 1, .slice AV (ps.length + 1) cV, upF Fs (List.map nV (List.take j ks)).length F', ps ++ [p'], by omega, by go_num, ?_, fun q hq => ?_⟩
     ·rw [kJ (by have := HLEN.out; omega), HZ.out];have h6 := HNX.out;rw [show (ps ++ [p']).length = ps.length + 1 from by simp] at h6;exact h6
     ·by_cases e : q = j
      ·subst e; rw [HZ.out]; omega
      ·exact HALL.out q (by omega)
    case measure => simp [intOf]; omega
   ·have HB := ae HM.out.below;have HN := ae (show ¬ i8 ks from fun h => hok (by have := h.2.2 z (by rw [<- HZ.out]; exact kf (by have := HLEN.out; omega)); exact this));go_wp2_with fail;refine (abq z wr hok).mono ?_;rintro e w1 ⟨rfl, rfl⟩;have HB1 := ae HB;clear hok;go_wp2_with fail;go_ret2;exact fj.no HB1 HN rfl
  ·have hjn : j = n := by omega
   subst hjn;have hlj : ¬((j : Int) < (j : Int)) := by omega
   have HM := ae hmk;clear hmk;go_wp2_with fail;go_ret2;have h5 := HM.out;have hLL := HLEN.out;rw [<- hLL, List.take_length] at h5;obtain ⟨g1, g2, g3⟩ := h5.done (by rw [List.length_map]; omega) (by rw [List.length_map]; omega);refine ⟨g3, .inl ⟨⟨by omega, by omega, fun k hk => ?_⟩, _, _, _, _, rfl, g1, g2⟩⟩;obtain ⟨i, hi, rfl⟩ := List.getElem_of_mem hk;have := HALL.out i (by omega);rwa [List.getD_eq_getElem?_getD, List.getElem?_eq_getElem hi] at this
end
def RB (w : World) (F : Nat -> Prop) (p : Nat) (M : aV) : Prop := InB fw w F p M /\ M.Wf
theorem ahw {ks : List Int} (h : i8 ks) : (fe ks).Wf := by
 refine ⟨by rw [i5, List.length_map]; exact h.1, by rw [i5, List.length_map]; exact h.2.1, fun i hi => ?_⟩;rw [i5, List.length_map] at hi;have : ((fe ks).ds.getD i bI) = nV (ks.getD i 0) := by
  rw [i5, List.getD, List.getD, List.getElem?_map, List.getElem?_eq_getElem hi]; rfl
 rw [this];have h2 := h.2.2 _ (kf (x := 0) hi)
 show 1 <= (List.replicate _ _).length /\ (List.replicate _ _).length <= 512
 rw [List.length_replicate];omega
structure aga where
 Bn : World -> (Nat -> Prop) -> Nat -> aV -> Prop
 lt : ∀ {w F p M}, Bn w F p M -> ∀ b, F b -> b < w.heap.size
 only : ∀ {w w' F G p M}, Bn w F p M -> Only G w w' -> (∀ b, F b -> ¬ G b) -> Bn w' F p M
 wf : ∀ {w F p M}, Bn w F p M -> M.Wf
 devices : ∀ {w F p M}, Bn w F p M -> Calls prog 45 #[.pointer (some ⟨p, 0, none⟩)] w fun e w' => e = .returned (.int .i64 (M.ds.length : Int)) /\ Below w.heap.size w w'
 fG : ∀ {w F p M} (d : Int), Bn w F p M -> Calls prog 46 #[.pointer (some ⟨p, 0, none⟩), .int .i64 d] w fun e w' => e = .returned (.int .i64 (ia M d)) /\ Below w.heap.size w w'
 new : ∀ {w A n c ks}, RdE bN w w.heap.size A n ks -> n <= c -> c <= maxLen -> Calls prog 15 #[.slice A n c] w (ahu Bn w ks)
theorem aga.below (R : aga) {w w' : World} {F : Nat -> Prop} {p : Nat} {M : aV} (h : R.Bn w F p M) (k : Below w.heap.size w w') : R.Bn w' F p M := R.only h (Only.of_below (fun _ => False) k) fun _ _ e => e
def dD : aga where
 Bn := RB
 lt := fun h => h.1.lt
 only := fun h ho hn => ⟨h.1.only ho hn, h.2⟩
 wf := fun h => h.2
 devices := fun ⟨⟨_, _, _, _, h⟩, _⟩ => (aaa h).mono fun e w' ⟨h1, h2⟩ => ⟨h1, by subst h2; exact ak⟩
 fG := fun d ⟨⟨_, _, _, _, h⟩, _⟩ => (zV d h).mono fun e w' ⟨h1, h2⟩ => ⟨h1, by subst h2; exact ak⟩
 new := fun h1 h2 h3 => (ah0 h1 h2 h3).mono fun e w' h => by
  obtain ⟨g1, g | g⟩ := h
  ·obtain ⟨g0, p, v, Fs, ps, g2, g3, g4⟩ := g;exact ⟨g1, .inl ⟨g0, p, _, g2, ⟨⟨v, Fs, ps, rfl, g3⟩, ahw g0⟩, g4⟩⟩
  ·exact ⟨g1, .inr g⟩
section
variable {ρ : Operand -> Value} {o : Oper} {x y : Operand} {w : World} {t : TypeId} {old cs : Array Value}
theorem kY (hz : (prog.info? t).map (·.size) = some cs.size) (he : old.size = cs.size) (h1 : cs.toList.all Value.oneCell' = true) (ho : o.op = .store t x y) (hx : ρ x = .pointer (some ⟨w.heap.size, 0, none⟩)) (hy : ρ y = .agg cs) :
  (execOp ρ o).run prog (w.alloc (.cells old t)) = .ok .skip (w.alloc (.cells cs t)) := by
 have h := run_storeAt_new (P := prog) w t old cs hz he (by simpa using h1);unfold execOp;simp only [ho, hx, hy, Sem.run_bind, h, Result.andThen_ok, Sem.run_pure]
end
def arr (l : List UInt8) : Value := .agg (vals l).toArray
section
variable {ρ : Operand -> Value} {o : Oper} {x y : Operand} {w : World} {b off : Nat} {t : TypeId} {cs ds : List Value} {d : TypeDesc}
theorem cj (hu : prog.underlying t = some d) (hd : d.isRow = true) (hz : (prog.info? t).map (·.size) = some cs.length) (ho : o.op = .load t x) (hx : ρ x = .pointer (some ⟨b, off, none⟩)) (hc : w.rangeAt b off cs) :
  (execOp ρ o).run prog w = .ok (.value (.agg cs.toArray)) w := aC ho hx (run_loadAt_mid w b off t cs d hc hu hd hz)
theorem cw (ho : o.op = .box t x) (hx : ρ x = .agg cs.toArray) : (execOp ρ o).run prog w = .ok (.value (.pointer (some ⟨w.heap.size, 0, none⟩))) (w.alloc (.cells cs.toArray t)) := by
 unfold execOp;simp [ho, hx, Instr.box, newVar, newRow, Value.cells]
theorem fQ {v : Value} (h : (prog.info? t).map (fun i => i.zero) = some (some v)) (w : World) : (zeroValue t).run prog w = .ok v w := by
 cases hq : prog.info? t with
 |none => rw [hq] at h; cases h
 |some i =>
  rw [hq] at h;simp only [Option.map_some, Option.some.injEq] at h;simp [zeroValue, typeInfo, hq, h]
theorem c9 (h : (prog.info? t).map (fun i => i.zero) = some (some (.agg cs.toArray))) (ho : o.op = .alloc t) : (execOp ρ o).run prog w = .ok (.value (.pointer (some ⟨w.heap.size, 0, none⟩))) (w.alloc (.cells cs.toArray t)) := by
 have hz := fQ h w;unfold execOp;simp [ho, Instr.alloc, hz, newVar, newRow, Value.cells]
theorem fR (hz : (prog.info? t).map (·.size) = some cs.length) (h1 : ∀ v ∈ cs, v.oneCell' = true) (ho : o.op = .store t x y) (hx : ρ x = .pointer (some ⟨b, off, none⟩)) (hy : ρ y = .agg cs.toArray) (ht : w.there b off cs.length) :
  (execOp ρ o).run prog w = .ok .skip (w.setCells b off cs) := by
 have h := run_storeAt_mid (P := prog) w b off t cs.toArray (by simpa using ht) (by simpa using hz) (all_oneCell_toArray h1);refine c7 ho hx hy ?_
 simpa using h
theorem fx (hz : (prog.info? t).map (·.size) = some cs.length) (he : ds.length = cs.length) (h1 : ∀ v ∈ cs, v.oneCell' = true) (ho : o.op = .store t x y) (hx : ρ x = .pointer (some ⟨w.heap.size, 0, none⟩)) (hy : ρ y = .agg cs.toArray) :
  (execOp ρ o).run prog (w.alloc (.cells ds.toArray t)) = .ok .skip (w.alloc (.cells cs.toArray t)) :=
 kY (by simpa using hz) (by simpa using he) (by simpa using h1) ho hx hy
theorem i4 {v : Value} (ho : o.op = .build t #[]) (h : (Instr.build t #[]).run prog w = .ok v w) : (execOp ρ o).run prog w = .ok (.value v) w := by
 unfold execOp;simp only [ho, List.map_toArray, List.map_nil, Sem.run_bind, h, Result.andThen_ok, Sem.run_pure]
theorem acF {r : TypeId} {xs ys : Array Value} {c : Bool} (hg : prog.eqGuardType prog.depth t = false) (he : (Op.equalIn 10000 t (.agg xs) (.agg ys)).run prog w = .ok c w) (ho : o.op = .binOp .eql t x y r) (hx : ρ x = .agg xs) (hy : ρ y = .agg ys) :
  (execOp ρ o).run prog w = .ok (.value (.bool c)) w := by
 have h := run_eql_struct (P := prog) w t xs ys;rw [he] at h;unfold execOp;simp only [ho, hx, hy, Sem.run_bind, run_eqGuard_agg w .eql t x y xs ys hg, Result.andThen_ok];rw [h];simp
theorem acW {r : TypeId} {xs ys : Array Value} {c : Bool} (hg : prog.eqGuardType prog.depth t = false) (he : (Op.equalIn 10000 t (.agg xs) (.agg ys)).run prog w = .ok c w) (ho : o.op = .binOp .neq t x y r) (hx : ρ x = .agg xs) (hy : ρ y = .agg ys) :
  (execOp ρ o).run prog w = .ok (.value (.bool (!c))) w := by
 have h := run_neq_struct (P := prog) w t xs ys;rw [he] at h;unfold execOp;simp only [ho, hx, hy, Sem.run_bind, run_eqGuard_agg w .neq t x y xs ys hg, Result.andThen_ok];rw [h];simp
end
section
variable {ρ : Operand -> Value} {o : Oper} {x y : Operand} {w : World} {t r : TypeId} {k : IntKind} {a b : Int}
theorem dC (c : Bool) (ho : o.op = .binOp .gtr t x y r) (hx : ρ x = .int k a) (hy : ρ y = .int k b) (h : decide (b < a) = c) : (execOp ρ o).run prog w = .ok (.value (.bool c)) w := by
 unfold execOp;simp [ho, hx, hy, eqGuard, binOp, Op.intCmp, h]
theorem dv (c : Bool) (ho : o.op = .binOp .geq t x y r) (hx : ρ x = .int k a) (hy : ρ y = .int k b) (h : decide (b <= a) = c) : (execOp ρ o).run prog w = .ok (.value (.bool c)) w := by
 unfold execOp;simp [ho, hx, hy, eqGuard, binOp, Op.intCmp, h]
theorem lP (c : Bool) (ho : o.op = .binOp .leq t x y r) (hx : ρ x = .int k a) (hy : ρ y = .int k b) (h : decide (a <= b) = c) : (execOp ρ o).run prog w = .ok (.value (.bool c)) w := by
 unfold execOp;simp [ho, hx, hy, eqGuard, binOp, Op.intCmp, h]
theorem aZ (c : Bool) (ho : o.op = .binOp .lss t x y r) (hx : ρ x = .int k a) (hy : ρ y = .int k b) (h : decide (a < b) = c) : (execOp ρ o).run prog w = .ok (.value (.bool c)) w := by
 unfold execOp;simp [ho, hx, hy, eqGuard, binOp, Op.intCmp, h]
theorem qg {ad : Addr} {n : Int} (h : w.cell? ad = some (.int .u8 n)) : (Instr.loadAt 5 (.pointer (some ad))).run prog w = .ok (.int .u8 n) w := by simp [go_sem, h]
end
theorem bY {w : World} {ad : Addr} {k : Int} (h : w.cell? ad = some (.int .i64 k)) : (Instr.loadAt 3 (.pointer (some ad))).run prog w = .ok (.int .i64 k) w := by simp [go_sem, h]
theorem lT {w : World} {ad : Addr} {k : Int} (h : w.cell? ad = some (.int .u64 k)) : (Instr.loadAt 34 (.pointer (some ad))).run prog w = .ok (.int .u64 k) w := by simp [go_sem, h]
theorem qK {t : TypeId} {n : Nat} (hu : prog.underlying t = some (.array n 5)) (w : World) (a b : List UInt8) (ha : a.length = n) (hb : b.length = n) (d : Nat) : (Op.equalIn (d + 2) t (arr a) (arr b)).run prog w = .ok (decide (a = b)) w := by
 have he : ∀ x y : Int, (Op.equalIn (d + 1) 5 (.int .u8 x) (.int .u8 y)).run prog w = .ok (x == y) w := fun x y => run_equalIn_int w d 5 .u8 .u8 x y underlying5
 have hp : ∀ (c : List UInt8) (i : Nat), i < c.length -> (part 5 (vals c).toArray (i * 1)).run prog w = .ok (.int .u8 (bt c i)) w := fun c i hi => by
  have := iD hi;simp [part, this]
 show (Op.equalIn ((d + 1) + 1) t (arr a) (arr b)).run prog w = .ok (decide (a = b)) w
 generalize d + 1 = e at *;have key : ∀ (l : List Nat), (∀ i ∈ l, i < n) ->
   ((forIn l ((none : Option Bool), ()) fun i r => do
    let x <- part 5 (vals a).toArray (i * 1)
    let y <- part 5 (vals b).toArray (i * 1)
    let z <- Op.equalIn e 5 x y
    if (!z) = true then pure (ForInStep.done (some false, ())) else pure (ForInStep.yield (none, ())) : Sem _)).run prog w =
   .ok (if l.all (fun i => bt a i == bt b i) then (none, ()) else (some false, ())) w := by
  intro l
  induction l with
  |nil => intro _; simp
  |cons i l ih =>
   intro hl;have hi := hl i (by simp);simp only [List.forIn_cons, Sem.run_bind, hp a i (by omega), hp b i (by omega), Result.andThen_ok, he];by_cases h : bt a i = bt b i
   ·have hb : (bt a i == bt b i) = true := by simpa using h
    simp only [hb, Bool.not_true, Bool.false_eq_true, if_false, Sem.run_pure, Result.andThen_ok, List.all_cons, Bool.true_and];exact ih fun j hj => hl j (by simp [hj])
   ·have hb : (bt a i == bt b i) = false := by simpa using h
    simp [hb]
 have hall : ((List.range' 0 n).all fun i => bt a i == bt b i) = decide (a = b) := by
  rw [Bool.eq_iff_iff, List.all_eq_true, decide_eq_true_iff]
  constructor
  ·intro h;exact jY (by omega) fun j hj => by simpa using h j (by simp [List.mem_range']; omega)
  ·rintro rfl i _;simp
 have hk := key (List.range' 0 n) (fun i hi => by simp [List.mem_range'] at hi; omega);rw [hall] at hk;simp only [Op.equalIn, arr, Sem.run_bind, run_underlying hu, Result.andThen_ok, Tryz.sizeOf5, Std.Legacy.Range.forIn_eq_forIn_range'];simp only [Std.Legacy.Range.size, Nat.sub_zero, Nat.add_sub_cancel, Nat.div_one];rw [hk];by_cases h : a = b
 ·simp [h]
 ·simp [h]
theorem aP {w : World} {b : Nat} {t : TypeId} {cs : List Value} (h : w.heap[b]? = some (.cells cs.toArray t (0, 0))) : w.rangeAt b 0 cs := fun j v hj => by
 rw [cell_of_row w b (0 + j) _ t (0, 0) h, Nat.zero_add]
 simpa using hj
theorem eS {w : World} {b o k : Nat} {cs ds es fs : List Value} (h : w.rangeAt b o cs) (e : cs = ds ++ (es ++ fs)) (hk : ds.length = k) : w.rangeAt b (o + k) es := fun j v hj => by
 subst e hk;have := h (ds.length + j) v (by
  rw [List.getElem?_append_right (by omega), Nat.add_sub_cancel_left, List.getElem?_append_left (List.getElem?_eq_some_iff.1 hj).1];exact hj)
 rwa [<- Nat.add_assoc] at this
theorem dQ {w : World} {b : Nat} {t : TypeId} {cs : List Value} (h : w.heap[b]? = some (.cells cs.toArray t (0, 0))) {o n : Nat} (hn : o + n <= cs.length) : w.there b o n := fun j hj => by
 rw [cell_of_row w b (o + j) _ t (0, 0) h, frozen_of_row w b (o + j) _ t h];exact ⟨by simp; omega, rfl⟩
theorem lG {fn : Func} {p q u : Tmp} {t : TypeId} {cs : List Value} {d : TypeDesc} (h : fn.results = #[.tmp p, .cell q t, .tmp u]) (tmps : Array Value) (w : World) (b : Nat) (hq : tmps.getD q undef = .pointer (some ⟨b, 0, none⟩)) (hr : w.rangeAt b 0 cs) (hu : prog.underlying t = some d) (hd : d.isRow = true) (hz : (prog.info? t).map (·.size) = some cs.length) :
  (results fn tmps).run prog w = .ok (.tuple #[tmps.getD p undef, .agg cs.toArray, tmps.getD u undef]) w := by
 have hl : (loadVar t ⟨b, 0, none⟩).run prog w = .ok (.agg cs.toArray) w := run_loadVar_mid (P := prog) w b 0 t cs d hr hu hd hz;have hq' : tmps[q]?.getD undef = .pointer (some ⟨b, 0, none⟩) := by simpa using hq
 simp [results, h, hq', asAddr, hl]
theorem nD {fn : Func} {p : Tmp} {t : TypeId} {cs : List Value} {d : TypeDesc} (h0 : fn.results = #[.cell p t]) (tmps : Array Value) (w : World) (b : Nat) (hp : tmps.getD p undef = .pointer (some ⟨b, 0, none⟩)) (hr : w.rangeAt b 0 cs) (hu : prog.underlying t = some d) (hd : d.isRow = true) (hz : (prog.info? t).map (·.size) = some cs.length) :
  (results fn tmps).run prog w = .ok (.agg cs.toArray) w := by
 have hl : (loadVar t ⟨b, 0, none⟩).run prog w = .ok (.agg cs.toArray) w := run_loadVar_mid (P := prog) w b 0 t cs d hr hu hd hz;have hp' : tmps[p]?.getD undef = .pointer (some ⟨b, 0, none⟩) := by simpa using hp
 simp [results, h0, hp', asAddr, hl]
theorem size_setCells (w : World) (b o : Nat) (vs : List Value) : (w.setCells b o vs).heap.size = w.heap.size := (fX b vs o w).1
theorem cell1 {w : World} {b : Nat} {t : TypeId} {x : Value} (h : w.heap[b]? = some (.cells #[x] t (0, 0))) : w.cell? ⟨b, 0, none⟩ = some x /\ w.frozen? ⟨b, 0, none⟩ = false :=
 ⟨by rw [cell_of_row w b 0 _ t (0, 0) h]; rfl, frozen_of_row w b 0 _ t h⟩
theorem set1 {w : World} {b : Nat} {t : TypeId} {x : Value} (h : w.heap[b]? = some (.cells #[x] t (0, 0))) (y : Value) : (w.setCell ⟨b, 0, none⟩ y).heap[b]? = some (.cells #[y] t (0, 0)) := by
 have := heap_setCell_same w b 0 #[x] t y h
 simpa using this
theorem qV (w : World) (b o : Nat) (y : Value) : w.grownBy (w.setCell ⟨b, o, none⟩ y) (some b) :=
 ⟨rfl, rfl, rfl, by simp [World.setCell], fun k hk hne => heap_setCell_other w ⟨b, o, none⟩ k y (fun e => hne (by rw [e]))⟩
theorem ci {w w' : World} {b k : Nat} {o : Obj} (h : w.heap[b]? = some o) (hg : w.grownBy w' (some k)) (hne : b ≠ k) : w'.heap[b]? = some o := (hg.block b (aT h) (fun e => hne (by injection e))).trans h
def dR (x : Ros) : List Value := [.int .i64 x.m, .int .i64 x.s, .int .i64 x.r]
def aX (x : Ros) : List Value := .int .i64 x.m :: .int .i64 x.s :: .int .i64 x.r :: (vals x.st.toList ++ [.int .i64 x.cur, .bool x.gone])
def ros (x : Ros) : Value := .agg (aX x).toArray
def geo (x : Ros) : Value := .agg (dR x).toArray
theorem bq (x : Ros) : (aX x).length = 21 := by simp [aX, bi]
theorem lU (x : Ros) : ∀ v ∈ aX x, v.oneCell' = true := by
 intro v hv;simp only [aX, List.mem_cons, List.mem_append, List.not_mem_nil, or_false] at hv;rcases hv with rfl | rfl | rfl | hv | rfl | rfl
 ·rfl
 ·rfl
 ·rfl
 ·exact ja _ v hv
 ·rfl
 ·rfl
theorem sQ : (prog.info? 58).map (·.size) = some 21 := by kernel_rfl
theorem aii : (prog.info? 51).map (·.size) = some 3 := by kernel_rfl
theorem agk : (prog.info? 56).map (·.size) = some 16 := by kernel_rfl
theorem vG : (prog.info? 58).map (fun i => i.zero) = some (some (ros bF)) := by kernel_rfl
theorem tu : (prog.info? 56).map (fun i => i.zero) = some (some (arr (List.replicate 16 0))) := by kernel_rfl
section
variable {ρ : Operand -> Value} {o : Oper} {x y : Operand} {w : World} {b off : Nat}
theorem bf {c : Ros} (ho : o.op = .load 58 x) (hx : ρ x = .pointer (some ⟨b, off, none⟩)) (hc : w.rangeAt b off (aX c)) : (execOp ρ o).run prog w = .ok (.value (ros c)) w :=
 cj underlying58 rfl (by rw [bq]; exact sQ) ho hx hc
theorem dd {c : Ros} (ho : o.op = .load 51 x) (hx : ρ x = .pointer (some ⟨b, off, none⟩)) (hc : w.rangeAt b off (dR c)) : (execOp ρ o).run prog w = .ok (.value (geo c)) w :=
 cj underlying51 rfl aii ho hx hc
theorem dW {l : List UInt8} (hl : l.length = 16) (ho : o.op = .load 56 x) (hx : ρ x = .pointer (some ⟨b, off, none⟩)) (hc : w.rangeAt b off (vals l)) : (execOp ρ o).run prog w = .ok (.value (arr l)) w :=
 cj underlying56 rfl (by rw [bi, hl]; exact agk) ho hx hc
theorem aY {c : Ros} (ho : o.op = .box 58 x) (hx : ρ x = ros c) : (execOp ρ o).run prog w = .ok (.value (.pointer (some ⟨w.heap.size, 0, none⟩))) (w.alloc (.cells (aX c).toArray 58)) := cw ho hx
theorem cJ (ho : o.op = .alloc 58) : (execOp ρ o).run prog w = .ok (.value (.pointer (some ⟨w.heap.size, 0, none⟩))) (w.alloc (.cells (aX bF).toArray 58)) := c9 vG ho
theorem sf (ho : o.op = .alloc 56) : (execOp ρ o).run prog w = .ok (.value (.pointer (some ⟨w.heap.size, 0, none⟩))) (w.alloc (.cells (vals (List.replicate 16 0)).toArray 56)) := c9 tu ho
theorem lc {c d : Ros} (ho : o.op = .store 58 x y) (hx : ρ x = .pointer (some ⟨w.heap.size, 0, none⟩)) (hy : ρ y = ros c) : (execOp ρ o).run prog (w.alloc (.cells (aX d).toArray 58)) = .ok .skip (w.alloc (.cells (aX c).toArray 58)) :=
 fx (by rw [bq]; exact sQ) (by rw [bq, bq]) (lU c) ho hx hy
end
theorem jz (x : Ros) : aX x = dR x ++ (vals x.st.toList ++ [.int .i64 x.cur, .bool x.gone]) := rfl
section
variable {ρ : Operand -> Value} {o : Oper} {x y : Operand} {w : World} {t : TypeId}
theorem aeX : prog.eqGuardType prog.depth 56 = false := by kernel_rfl
theorem qX {a b : List UInt8} (c : Bool) (ha : a.length = 16) (hb : b.length = 16) (ho : o.op = .binOp .eql 56 x y t) (hx : ρ x = arr a) (hy : ρ y = arr b) (h : decide (a = b) = c) : (execOp ρ o).run prog w = .ok (.value (.bool c)) w := by
 subst h; exact acF aeX (qK underlying56 w a b ha hb 9998) ho hx hy
theorem ew {l : List UInt8} {j : Nat} (hl : l.length = 16) (hj : j < 16) (ho : o.op = .index 56 x y) (hx : ρ x = arr l) (hy : ρ y = .int .i64 (j : Int)) : (execOp ρ o).run prog w = .ok (.value (.int .u8 (bt l j))) w := by
 have hp : (part 5 (vals l).toArray (j * 1)).run prog w = .ok (.int .u8 (bt l j)) w := by
  have := iD (l := l) (j := j) (by omega);simp [part, this]
 have h : (Instr.index 56 (arr l) (.int .i64 (j : Int))).run prog w = .ok (.int .u8 (bt l j)) w := by
  have e : (0 <= (j : Int) /\ (j : Int) < 16) := by omega
  unfold arr;simp [Instr.index, asIntOf, run_underlying underlying56, Tryz.sizeOf5, hj]
  simpa using hp
 unfold execOp;simp only [ho, hx, hy, Sem.run_bind, h, Result.andThen_ok, Sem.run_pure]
end
def bD (w : World) (b : Nat) (x : Ros) : Prop := w.heap[b]? = some (.cells (aX x).toArray 58 (0, 0))
section
variable {w w' : World} {b : Nat} {x : Ros}
theorem bD.range (h : bD w b x) : w.rangeAt b 0 (aX x) := aP h
theorem bD.geo (h : bD w b x) : w.rangeAt b 0 (dR x) := eS (cs := aX x) (ds := []) (k := 0) h.range rfl rfl
theorem bD.sts (h : bD w b x) : w.rangeAt b 3 (vals x.st.toList) := by
 have := eS (k := 3) h.range (jz x) rfl;rwa [Nat.zero_add] at this
theorem bD.cells (h : bD w b x) : w.cell? ⟨b, 0, none⟩ = some (.int .i64 x.m) /\ w.cell? ⟨b, 1, none⟩ = some (.int .i64 x.s) /\ w.cell? ⟨b, 2, none⟩ = some (.int .i64 x.r) /\ w.cell? ⟨b, 19, none⟩ = some (.int .i64 x.cur) /\ w.cell? ⟨b, 20, none⟩ = some (.bool x.gone) := by
 have hr := eS (k := 19) (ds := dR x ++ vals x.st.toList) (es := [.int .i64 x.cur, .bool x.gone]) (fs := []) h.range (by simp [jz]) (by simp [dR, bi]);exact ⟨h.range 0 _ rfl, h.range 1 _ rfl, h.range 2 _ rfl, hr 0 _ rfl, hr 1 _ rfl⟩
theorem bD.sta (h : bD w b x) {j : Nat} (hj : j < 16) : w.cell? ⟨b, 3 + j, none⟩ = some (.int .u8 (sta x j)) := h.sts j _ (iD (by simpa using hj))
theorem bD.below {B : Nat} (h : bD w b x) (hB : b < B) (hb : Below B w w') : bD w' b x := mO h hB hb
theorem bD.new (w : World) (x : Ros) : bD (w.alloc (.cells (aX x).toArray 58)) w.heap.size x := heap_alloc_new w _
theorem bD.past (h : bD w b x) (o : Obj) : bD (w.alloc o) b x := br h o
theorem bD.rd (h : bD w b x) {m : Nat} (hm : m <= 16) : Rd w w.heap.size (some ⟨b, 3, none⟩) m (x.st.toList.take m) :=
 ⟨by simp; omega, fun k hk => ⟨b, 3, rfl, aT h, by
  rw [h.sta (j := k) (by omega)];unfold Proofs.YtlmdklakcmnaiaaGreatDoor.sta bt;simp [List.getD, List.getElem?_take_of_lt hk]⟩⟩
end
theorem cX (w : World) (x : Ros) : bD (w.alloc (.cells (aX x).toArray 58)) w.heap.size x /\ Below w.heap.size w (w.alloc (.cells (aX x).toArray 58)) /\ w.heap.size < (w.alloc (.cells (aX x).toArray 58)).heap.size :=
 ⟨bD.new w x, (Below.refl w.heap.size w).alloc aj _, by simp only [World.size_alloc]; omega⟩
section
variable {w : World} {b off : Nat}
theorem o6 : (Instr.fieldAt 58 (.pointer (some ⟨b, 0, none⟩)) 0).run prog w = .ok (.pointer (some ⟨b, 0, none⟩)) w := by kernel_rfl
theorem nj : (Instr.fieldAt 58 (.pointer (some ⟨b, 0, none⟩)) 1).run prog w = .ok (.pointer (some ⟨b, 3, none⟩)) w := by kernel_rfl
theorem ov : (Instr.fieldAt 51 (.pointer (some ⟨b, 0, none⟩)) 0).run prog w = .ok (.pointer (some ⟨b, 0, none⟩)) w := by kernel_rfl
theorem pX {g off j : Nat} (hj : j < 16) : (Instr.indexAt 56 (.pointer (some ⟨g, off, none⟩)) (.int .i64 (j : Int))).run prog w = .ok (.pointer (some ⟨g, off + j, none⟩)) w := by
 have e : (0 <= (j : Int) /\ (j : Int) < 16) := by omega
 simp [Instr.indexAt, Instr.sureAddr, asIntOf, run_underlying underlying56, Tryz.sizeOf5, Addr.add_mid, e, hj]
theorem z8 {b : Nat} : (Instr.fieldAt 58 (.pointer (some ⟨b, 0, none⟩)) 2).run prog w = .ok (.pointer (some ⟨b, 19, none⟩)) w := by kernel_rfl
theorem abH {b : Nat} : (Instr.fieldAt 51 (.pointer (some ⟨b, 0, none⟩)) 1).run prog w = .ok (.pointer (some ⟨b, 1, none⟩)) w := by kernel_rfl
end
theorem tV (l x : List UInt8) (off : Nat) : splice (vals l) off (vals x) = vals (splice l off x) := by
 unfold splice vals;simp [List.map_take, List.map_drop]
def cC (w : World) (g : Nat) (t : TypeId) (l : List UInt8) : Prop := w.heap[g]? = some (.cells (vals l).toArray t (0, 0))
section
variable {w w' : World} {g : Nat} {t : TypeId} {l : List UInt8}
theorem cC.lt (h : cC w g t l) : g < w.heap.size := (Array.getElem?_eq_some_iff.1 h).1
theorem cC.below {B : Nat} (h : cC w g t l) (hB : g < B) (hb : Below B w w') : cC w' g t l := (hb.block g hB).trans h
theorem cC.grown {k : Nat} (h : cC w g t l) (hk : g ≠ k) (hb : w.grownBy w' (some k)) : cC w' g t l := (hb.block g h.lt (fun e => hk (by injection e))).trans h
theorem cC.draw (h : cC w g t l) : cC w.drew g t l := h
theorem cC.past (h : cC w g t l) (o : Obj) : cC (w.alloc o) g t l := br h o
theorem cC.cell (h : cC w g t l) {j : Nat} (hj : j < l.length) : w.cell? ⟨g, j, none⟩ = some (.int .u8 (bt l j)) := by
 rw [cell_of_row w g j _ t (0, 0) h, List.getElem?_toArray, iD hj]
theorem cC.rd (h : cC w g t l) {p k : Nat} (hp : p + k <= l.length) : Rd w w.heap.size (some ⟨g, p, none⟩) k (piece l p k) :=
 ⟨dM hp, fun j hj => ⟨g, p, rfl, h.lt, by rw [h.cell (by omega), ud hj]⟩⟩
theorem cC.range (h : cC w g t l) (hl : l.length = 64) : w.rangeAt g 0 (cel (ofL l)) := fun j v hj => by
 have hlt : j < 64 := by have := (List.getElem?_eq_some_iff.1 hj).1; rwa [aM] at this
 rw [Nat.zero_add, h.cell (by omega), <- hj, mw _ hlt, adx _ hlt]
theorem cC.new (w : World) (l : List UInt8) (t : TypeId) : cC (w.alloc (.cells (vals l).toArray t)) w.heap.size t l := heap_alloc_new w _
theorem cC.blk (w : World) (b : Blk) (t : TypeId) : cC (w.alloc (.cells (cel b).toArray t)) w.heap.size t b.toList := heap_alloc_new w _
theorem cC.row (h : cC w g t l) : w.rowIs g t l.length (fun j => .int .u8 (bt l j)) :=
 ⟨_, h, by simp [bi], fun j hj => by rw [List.getElem?_toArray, iD hj]⟩
end
theorem eR {w : World} {ops : Array Oper} {rest : List Oper} {o : Oper} {a : Act} {Q : Exit -> Act -> World -> Prop} (hgd : o.guard = none) (d s : Operand)
  (ho : o.op = .call { callee := .builtin .copy, args := #[d, s], argTypes := #[208, 208] }) (g off n c m c' N : Nat) (A : Option Addr) (t : TypeId) (l x : List UInt8)
  (hd : a.eval d = .slice (some ⟨g, off, none⟩) n c) (hs : a.eval s = .slice A m c') (hS : cC w g t l) (hr : Rd w N A m x) (hmn : m <= n) (hfit : off + m <= l.length)
  (h : ∀ w', cC w' g t (splice l off x) -> w.grownBy w' (some g) -> wpList prog ops Q rest (a.put o.dst (goInt m)) w') : wpList prog ops Q (o :: rest) a w := by
 have hx := hr.1;rcases A with _ | ad
 ·have h0 : m = 0 := by
   rcases Nat.eq_zero_or_pos m with h | h
   ·exact h
   ·obtain ⟨b, off, e, _⟩ := hr.2 0 h;cases e
  subst h0;obtain rfl : x = [] := List.eq_nil_of_length_eq_zero hx;refine wpList_copy_nothing hgd d s _ _ ho 5 underlying208 (by kernel_rfl) _ _ _ _ _ _ hd hs (Nat.zero_min _) ?_;exact h w (by simpa [splice] using hS) (World.grownBy.refl w _)
 ·have hcl : (vals x).length = m := by rw [bi, hx]
  refine wpList_copy_own hgd d s _ _ ho 5 underlying208 (by kernel_rfl) g off n c ad m c' hd hs _ t hS (vals x) (by rw [hcl]; exact (Nat.min_eq_left hmn).symm) (fun j v hj => ?_) (by simp [hcl, bi]; omega) (ja x) ?_
  ·have hlt : j < m := by have := (List.getElem?_eq_some_iff.1 hj).1; omega
   obtain ⟨b, o2, e, _, hc⟩ := hr.2 j hlt;injection e with e;subst e;rw [Addr.add_mid, hc, <- hj, iD (by omega)]
  ·have hrow := setRow_heap w g (vals l).toArray ((vals l).toArray.toList.take off ++ (vals x ++ (vals l).toArray.toList.drop (off + (vals x).length))).toArray t (0, 0) hS;have e : (vals l).toArray.toList.take off ++ (vals x ++ (vals l).toArray.toList.drop (off + (vals x).length)) = vals (splice l off x) := by
    rw [<- tV]
    rfl
   rw [hcl];rw [hcl] at hrow e;refine h _ ?_ ⟨rfl, rfl, rfl, by simp [World.setRow], fun k hk hne => setRow_other w g k _ (fun e => hne (by rw [e]))⟩;unfold cC;rw [e] at hrow ⊢;exact hrow
theorem max_u32 : IntKind.u32.max = 4294967295 := by decide
theorem sM (r : Nat) (h : r < 4294967296) : bits .xor .u32 IntKind.u32.max (r : Int) = ((neg r : Nat) : Int) := by
 rw [max_u32];exact u32_xor_nat 4294967295 r (by omega) h
theorem acs (r : Nat) (l : List UInt8) {k : Nat} (h : k < l.length) : tak (run r (l.take k)) l[k].toNat = run r (l.take (k + 1)) := by
 rw [List.take_succ_eq_append_getElem h, vY]
 rfl
theorem abr (s : Nat) (A : Option Addr) (n c N : Nat) (b : List UInt8) (w : World) (T : Tab w) (hs : s < 4294967296) (hb : Rd w N A n b) (hn : n <= maxLen) :
  Calls prog 170 #[.int .u32 s, .slice A n c] w fun e w' => e = .returned (.int .u32 (more s b)) /\ w = w' := by
 have hnb := sM s hs;have hnl := vX hs;have hlen := hb.1;unfold maxLen at hn;have HL := ae hlen;clear hlen;go_enter func170, ntmps170;go_wp2;clear hnb;have HM : Hid (more s b = neg (run (neg s) b)) := ae rfl;generalize neg s = r0 at *
 go_loop [5, 12] (fun x i => ∃ j : Nat, j <= n /\ i = .int .i64 j /\ x = .int .u32 (run r0 (b.take j))) (fun _ i => n - (intOf i).toNat)
 case atStart => exact ⟨0, by omega, rfl, rfl⟩
 case round =>
  obtain ⟨j, hj, rfl, rfl⟩ := hrel;by_cases hlt : j < n
  ·obtain ⟨bA, oA, rfl, hA, cA⟩ := hb.2 j hlt;have hjl : j < b.length := by have := HL.out; omega
   rw [eK hjl] at cA;have HS := ae (acs r0 b hjl);have hu := UInt8.toNat_lt b[j];generalize b[j].toNat = u at *;have hrl := vk hnl (b.take j);go_wp2_with fail;refine (ac8 (run r0 (b.take j)) u _ T hrl hu).mono ?_;rintro e w' ⟨rfl, rfl⟩;go_wp2
   go_round
   case rel => exact ⟨j + 1, by omega, by go_num, by rw [HS.out]⟩
   case measure => simp [intOf]; omega
  ·have h : j = n := by omega
   subst h;have ht : b.take j = b := List.take_of_length_le (Nat.le_of_eq HL);rw [ht];have hrl := vk hnl b;have hnb := sM (run r0 b) hrl;clear ht;go_wp2;go_ret;exact ⟨dk (by first | rw [HM.out] | rw [HM.out, hnb]), rfl⟩
theorem aa4 (A : Option Addr) (n c N : Nat) (b : List UInt8) (w : World) (T : Tab w) (hb : Rd w N A n b) (hn : n <= maxLen) :
  Calls prog 158 #[.slice A n c] w fun e w' => e = .returned (.int .u32 (more 0 b)) /\ w = w' := by
 go_enter func158, ntmps158;go_wp2_with fail;refine (abr 0 A n c N b _ T (by omega) hb hn).mono ?_;rintro e w' ⟨rfl, rfl⟩;go_wp2;go_ret;exact ⟨rfl, rfl⟩
section
variable {ρ : Operand -> Value} {o : Oper} {x y z u : Operand} {w : World} {t : TypeId} {p q a b c : Value}
theorem gH (ho : o.op = .slice t x (some y) (some z) (some u)) (hx : ρ x = p) (hy : ρ y = a) (hz : ρ z = b) (hu : ρ u = c) (h : (Instr.sliceAt t p (some a) (some b) (some c)).run prog w = .ok q w) : (execOp ρ o).run prog w = .ok (.value q) w := by
 unfold execOp;simp only [ho, hx, hy, hz, hu, Option.map_some, Sem.run_bind, h, Result.andThen_ok, Sem.run_pure]
end
section
variable (g : Nat) (w : World)
theorem lA {i j k : Nat} (h1 : i <= j) (h2 : j <= k) (h3 : k <= 64) (h4 : i < k) : (Instr.sliceAt 44 (.pointer (some ⟨g, 0, none⟩)) (some (.int .i64 (i : Int))) (some (.int .i64 (j : Int))) (some (.int .i64 (k : Int)))).run prog w = .ok (.slice (some ⟨g, i, none⟩) (j - i) (k - i)) w := by
 have e1 : (0 <= (k : Int) /\ (k : Int) <= 64) := by omega
 have e2 : (0 <= (j : Int) /\ (j : Int) <= (k : Int)) := by omega
 have e3 : (0 <= (i : Int) /\ (i : Int) <= (j : Int)) := by omega
 have e4 : k ≠ i := by omega
 simp [Instr.sliceAt, Instr.sliceBounds, Instr.sliceBound, Instr.sureAddr, asIntOf, run_underlying y5, Tryz.sizeOf5, Addr.add_mid, e1, e2, e3, e4, h1, h2, h3]
theorem ah7 : (Instr.sliceAt 44 (.pointer (some ⟨g, 0, none⟩)) (some (.int .i64 0)) (some (.int .i64 8)) (some (.int .i64 8))).run prog w = .ok (.slice (some ⟨g, 0, none⟩) 8 8) w := lA g w (i := 0) (j := 8) (k := 8) (by omega) (by omega) (by omega) (by omega)
theorem ah1 : (Instr.sliceAt 44 (.pointer (some ⟨g, 0, none⟩)) (some (.int .i64 8)) (some (.int .i64 52)) (some (.int .i64 52))).run prog w = .ok (.slice (some ⟨g, 8, none⟩) 44 44) w := lA g w (i := 8) (j := 52) (k := 52) (by omega) (by omega) (by omega) (by omega)
theorem aiy : (Instr.sliceAt 44 (.pointer (some ⟨g, 0, none⟩)) (some (.int .i64 52)) (some (.int .i64 56)) (some (.int .i64 56))).run prog w = .ok (.slice (some ⟨g, 52, none⟩) 4 4) w := lA g w (i := 52) (j := 56) (k := 56) (by omega) (by omega) (by omega) (by omega)
theorem ah8 : (Instr.sliceAt 44 (.pointer (some ⟨g, 0, none⟩)) (some (.int .i64 56)) (some (.int .i64 64)) (some (.int .i64 64))).run prog w = .ok (.slice (some ⟨g, 56, none⟩) 8 8) w := lA g w (i := 56) (j := 64) (k := 64) (by omega) (by omega) (by omega) (by omega)
theorem aiV : (Instr.sliceAt 44 (.pointer (some ⟨g, 0, none⟩)) (some (.int .i64 0)) (some (.int .i64 52)) (some (.int .i64 52))).run prog w = .ok (.slice (some ⟨g, 0, none⟩) 52 52) w := lA g w (i := 0) (j := 52) (k := 52) (by omega) (by omega) (by omega) (by omega)
end
section
variable {ρ : Operand -> Value} {o : Oper} {x y : Operand} {w : World} {t : TypeId} {old cs : Array Value}
theorem wu (hz : (prog.info? t).map (·.size) = some cs.size) (he : old.size = cs.size) (h1 : cs.toList.all Value.oneCell' = true) (ho : o.op = .store t x y) (hx : ρ x = .pointer (some ⟨w.heap.size, 0, none⟩)) (hy : ρ y = .agg cs) :
  (execOp ρ o).run prog (w.alloc (.cells old t)).drew = .ok .skip (w.alloc (.cells cs t)).drew := kY (w := w.drew) hz he h1 ho hx hy
end
theorem zf {ρ : Operand -> Value} {o : Oper} {w : World} {t : TypeId} {v : Value} {x0 x1 x2 x3 x4 : Operand} {y0 y1 y2 y3 y4 : Value} (ho : o.op = .build t #[(0, x0), (1, x1), (2, x2), (3, x3), (4, x4)]) (h0 : ρ x0 = y0) (h1 : ρ x1 = y1) (h2 : ρ x2 = y2) (h3 : ρ x3 = y3) (h4 : ρ x4 = y4)
  (h : (Instr.build t #[(0, y0), (1, y1), (2, y2), (3, y3), (4, y4)]).run prog w = .ok v w) : (execOp ρ o).run prog w = .ok (.value v) w := by
 subst h0 h1 h2 h3 h4;unfold execOp;simp only [ho, List.map_toArray, List.map_cons, List.map_nil, Sem.run_bind, h, Result.andThen_ok, Sem.run_pure]
theorem adQ {fn : Func} {p : Tmp} {t : TypeId} {cs : Array Value} {d : TypeDesc} (h0 : fn.results = #[.cell p t]) (tmps : Array Value) (w : World) (b : Nat) (hp : tmps.getD p undef = .pointer (some ⟨b, 0, none⟩)) (h : w.heap[b]? = some (.cells cs t (0, 0))) (hu : prog.underlying t = some d) (hd : d.isRow = true) (hz : (prog.info? t).map (·.size) = some cs.size) :
  (results fn tmps).run prog w = .ok (.agg cs) w := by
 have hr : w.rangeAt b 0 cs.toList := fun j v hj => by
  rw [cell_of_row w b (0 + j) cs t (0, 0) h, Nat.zero_add]
  simpa using hj
 have hl : (loadVar t ⟨b, 0, none⟩).run prog w = .ok (.agg cs) w := by
  have := run_loadVar_mid (P := prog) w b 0 t cs.toList d hr hu hd (by simpa using hz)
  simpa using this
 have hp' : tmps[p]?.getD undef = .pointer (some ⟨b, 0, none⟩) := by simpa using hp
 simp [results, h0, hp', asAddr, hl]
theorem oZ {w w' : World} {row : Option Nat} (hb : Below w.heap.size w w') : w.grownBy w' row := ⟨hb.os, hb.tape, hb.output, hb.size, fun k hk _ => hb.block k hk⟩
def fP (g : Nat) : Array Value := #[.slice (some ⟨g, 0, none⟩) 8 8, .slice (some ⟨g, 8, none⟩) 44 44, .slice (some ⟨g, 52, none⟩) 4 4, .slice (some ⟨g, 56, none⟩) 8 8, .slice (some ⟨g, 0, none⟩) 52 52]
theorem ahv (g : Nat) (w : World) : (Instr.build 221 #[(0, .slice (some ⟨g, 0, none⟩) 8 8), (1, .slice (some ⟨g, 8, none⟩) 44 44), (2, .slice (some ⟨g, 52, none⟩) 4 4), (3, .slice (some ⟨g, 56, none⟩) 8 8), (4, .slice (some ⟨g, 0, none⟩) 52 52)]).run prog w = .ok (.agg (fP g)) w := by kernel_rfl
theorem lv (g : Nat) (w : World) : Calls prog 156 #[.pointer (some ⟨g, 0, none⟩)] w fun e w' => e = .returned (.agg #[.slice (some ⟨g, 0, none⟩) 8 8, .slice (some ⟨g, 8, none⟩) 44 44, .slice (some ⟨g, 52, none⟩) 4 4, .slice (some ⟨g, 56, none⟩) 8 8, .slice (some ⟨g, 0, none⟩) 52 52]) /\ Below w.heap.size w w' := by
 go_enter func156, ntmps156;go_wp2_with fail;refine wp_region_still_tail 15 (by kernel_rfl) (by kernel_rfl) ?_;simp only [ac];refine aN rfl (aL rfl ajL) ?_;simp only [aa];refine aN rfl (bj rfl ajL) ?_;simp only [aa];refine aN rfl (gH rfl ajL evk evk evk (ah7 g _)) ?_;simp only [aa];refine aN rfl (aL rfl ajL) ?_;simp only [aa];refine aN rfl (bj rfl ajL) ?_;simp only [aa];refine aN rfl (gH rfl ajL evk evk evk (ah1 g _)) ?_;simp only [aa];refine aN rfl (aL rfl ajL) ?_;simp only [aa];refine aN rfl (bj rfl ajL) ?_;simp only [aa];refine aN rfl (gH rfl ajL evk evk evk (aiy g _)) ?_;simp only [aa];refine aN rfl (aL rfl ajL) ?_;simp only [aa];refine aN rfl (bj rfl ajL) ?_;simp only [aa];refine aN rfl (gH rfl ajL evk evk evk (ah8 g _)) ?_;simp only [aa];refine aN rfl (aL rfl ajL) ?_;simp only [aa];refine aN rfl (bj rfl ajL) ?_;simp only [aa];refine aN rfl (gH rfl ajL evk evk evk (aiV g _)) ?_;simp only [aa];refine wpStill_nil ?_;change wpList _ _ _ _ _ (World.drew _);refine ajC rfl (zf (v := .agg (fP g)) rfl ajL ajL ajL ajL ajL (ahv g _)) ?_;refine bK rfl (wu (w := w) (cs := fP g) ?s1 ?s2 ?s3 rfl (ev rfl) (ev rfl)) ?_
 case s1 => kernel_rfl
 case s2 => rfl
 case s3 => rfl
 refine ah ?_;go_wp2_with fail;refine bodyPost_ret (adQ (cs := fP g) (t := 221) rfl _ _ w.heap.size rfl ?h1 underlying221 rfl ?h2) rfl ⟨rfl, ?h3⟩
 case h1 => exact heap_alloc_new w.drew _
 case h2 => kernel_rfl
 case h3 => exact bd ((Below.refl _ w).alloc aj _)
theorem l8 {b : List UInt8} {n : Nat} (h : b.length = n) : piece b 0 n = b := by
 subst h;simp [piece]
theorem f6 (A : Option Addr) (n c N : Nat) (b : List UInt8) (w : World) (hb : Rd w N A n b) (h1 : 1 <= n) (h2 : n <= 8) :
  Calls prog 175 #[.slice A n c] w fun e w' => e = .returned (.int .u64 (val 8 b)) /\ w = w' := by
 have hp := l8 hb.1;have HP := ae hp;clear hp;go_enter func175, ntmps175;go_wp2_with fail;refine (abB A n c N b 0 n _ hb (by unfold maxLen; omega) h1 h2 (by omega)).mono ?_;rintro e w' ⟨rfl, rfl⟩;rw [HP.out];go_wp2;go_ret;exact ⟨rfl, rfl⟩
theorem rP (g off k n : Nat) (t : TypeId) (l : List UInt8) (w : World) (hs : cC w g t l) (h1 : 1 <= k) (h2 : k <= 8) (ho : off + k <= l.length) (hn : n < 256 ^ k) :
  Calls prog 157 #[.slice (some ⟨g, off, none⟩) k k, .int .u64 n] w fun e w' => e = .returned (.tuple #[]) /\ cC w' g t (splice l off (cp 8 k n)) /\ w.grownBy w' (some g) := by
 have HS := ae hs;have HL := ae (aS 8 k n);clear hs;go_enter func157, ntmps157;go_wp2_with fail;refine (aa3 n k w h1 h2 hn).mono ?_;rintro e w1 ⟨v, rfl, hv, hb⟩;obtain ⟨A, c, rfl, hrd, _, _⟩ := hv.made.open_ HL;have HR := ae hrd;have HS1 := ae (HS.out.below HS.out.lt hb);have HB := ae hb;clear hv hrd hb;go_wp2_with (with_reducible refine eR rfl _ _ rfl g off k k k c _ A t l (cp 8 k n) rfl rfl HS1.out HR.out (Nat.le_refl _) ho ?_);intro w2 hr2 hg2;have HR2 := ae hr2;have HG2 := ae hg2;clear hr2 hg2;go_wp2
 go_end0
 exact ⟨rfl, HR2, (oZ HB).trans HG2⟩
theorem afY {b : List UInt8} {j : Nat} : bt (gv b) j = if j < b.length then bt b j else 0 := by
 unfold gv
 split
 ·rename_i h; exact eO h
 ·rename_i h; rw [eU (by omega), kX]
theorem ym {n : Nat} {b : List UInt8} {j : Nat} : bt (gy n b) j = if j < 8 then bt (cp 8 8 n) j else if j < 8 + b.length then bt b (j - 8) else 0 := by
 unfold gy
 split
 ·rename_i h; exact eO (by rw [aS]; exact h)
 ·rename_i h
  rw [eU (by rw [aS]; omega), aS, afY];by_cases h2 : j < 8 + b.length
  ·rw [if_pos (by omega), if_pos h2]
  ·rw [if_neg (by omega), if_neg h2]
theorem aeO {n : Nat} {b : List UInt8} {j : Nat} (hb : b.length <= 44) : bt (jb n b) j = if j < 52 then bt (gy n b) j else if j < 56 then bt (cp 8 4 (more 0 (gy n b))) (j - 52) else bt (cp 8 8 n) (j - 56) := by
 have h52 := jy n hb;unfold jb
 split
 ·rename_i h; exact eO (by omega)
 ·rename_i h
  rw [eU (by omega), h52]
  split
  ·rename_i h2; exact eO (by rw [aS]; omega)
  ·rename_i h2; rw [eU (by rw [aS]; omega), aS, show j - 52 - 4 = j - 56 from by omega]
def lV (n : Nat) (b : List UInt8) : List UInt8 := splice (splice (splice aI.toList 0 (cp 8 8 n)) 56 (cp 8 8 n)) 8 b
theorem nw (n : Nat) : (splice aI.toList 0 (cp 8 8 n)).length = 64 := by rw [length_splice _ _ _ (by simp [aS])]; simp
theorem nN (n : Nat) : (splice (splice aI.toList 0 (cp 8 8 n)) 56 (cp 8 8 n)).length = 64 := by rw [length_splice _ _ _ (by rw [nw, aS]; omega), nw]
section
variable {n : Nat} {b : List UInt8} (hb : b.length <= 44)
include hb
theorem gG : (lV n b).length = 64 := by unfold lV; rw [length_splice _ _ _ (by rw [nN]; omega), nN]
theorem uC {j : Nat} : bt (lV n b) j = if 8 <= j /\ j < 8 + b.length then bt b (j - 8) else if 56 <= j /\ j < 64 then bt (cp 8 8 n) (j - 56) else if j < 8 then bt (cp 8 8 n) j else 0 := by
 unfold lV;have hz : bt aI.toList j = 0 := by
  have : aI.toList = List.replicate 64 0 := by decide
  rw [this, kX]
 rw [i7 (by rw [nN]; omega), i7 (by rw [nw, aS]; omega), i7 (by simp [aS]), aS, hz]
 congr 2
 by_cases h : j < 8
 ·rw [if_pos (by omega), if_pos h, Nat.sub_zero]
 ·rw [if_neg (by omega), if_neg h]
theorem xh : piece (lV n b) 0 52 = gy n b := by
 refine jY (by rw [dM (by rw [gG hb]; omega), jy n hb]) fun j hj => ?_
 rw [dM (by rw [gG hb]; omega)] at hj;rw [ud hj, Nat.zero_add, uC hb, ym];by_cases h8 : j < 8
 ·rw [if_neg (by omega), if_neg (by omega), if_pos h8, if_pos h8]
 ·by_cases h2 : j < 8 + b.length
  ·rw [if_pos (by omega), if_neg h8, if_pos h2]
  ·rw [if_neg (by omega), if_neg (by omega), if_neg h8, if_neg h8, if_neg h2]
theorem vf : splice (lV n b) 52 (cp 8 4 (more 0 (gy n b))) = jb n b := by
 have h64 := gG (n := n) hb;refine jY (by rw [length_splice _ _ _ (by rw [h64, aS]; omega), h64, l6 n hb]) fun j hj => ?_
 rw [length_splice _ _ _ (by rw [h64, aS]; omega), h64] at hj;rw [i7 (by rw [h64, aS]; omega), aeO hb, aS, uC hb, ym];by_cases h52 : j < 52
 ·rw [if_neg (by omega), if_pos h52];by_cases h8 : j < 8
  ·rw [if_neg (by omega), if_neg (by omega), if_pos h8, if_pos h8]
  ·by_cases h2 : j < 8 + b.length
   ·rw [if_pos (by omega), if_neg h8, if_pos h2]
   ·rw [if_neg (by omega), if_neg (by omega), if_neg h8, if_neg h8, if_neg h2]
 ·by_cases h56 : j < 56
  ·rw [if_pos (by omega), if_neg h52, if_pos h56]
  ·rw [if_neg (by omega), if_neg h52, if_neg h56, if_neg (by omega), if_pos (by omega)]
end
theorem cells5 {w : World} {b : Nat} {t : TypeId} {x y z u v : Value} (h : w.heap[b]? = some (.cells #[x, y, z, u, v] t (0, 0))) : w.cell? ⟨b, 0, none⟩ = some x /\ w.cell? ⟨b, 1, none⟩ = some y /\ w.cell? ⟨b, 2, none⟩ = some z /\ w.cell? ⟨b, 3, none⟩ = some u /\ w.cell? ⟨b, 4, none⟩ = some v := by
 refine ⟨?_, ?_, ?_, ?_, ?_⟩
 ·rw [cell_of_row w b 0 _ t (0, 0) h]; rfl
 ·rw [cell_of_row w b 1 _ t (0, 0) h]; rfl
 ·rw [cell_of_row w b 2 _ t (0, 0) h]; rfl
 ·rw [cell_of_row w b 3 _ t (0, 0) h]; rfl
 ·rw [cell_of_row w b 4 _ t (0, 0) h]; rfl
def PartsAt (w : World) (p g : Nat) : Prop := w.heap[p]? = some (.cells (fP g) 221 (0, 0))
theorem PartsAt.cells {w : World} {p g : Nat} (h : PartsAt w p g) : w.cell? ⟨p, 0, none⟩ = some (.slice (some ⟨g, 0, none⟩) 8 8) /\ w.cell? ⟨p, 1, none⟩ = some (.slice (some ⟨g, 8, none⟩) 44 44) /\ w.cell? ⟨p, 2, none⟩ = some (.slice (some ⟨g, 52, none⟩) 4 4) /\ w.cell? ⟨p, 3, none⟩ = some (.slice (some ⟨g, 56, none⟩) 8 8) /\ w.cell? ⟨p, 4, none⟩ = some (.slice (some ⟨g, 0, none⟩) 52 52) := cells5 h
theorem PartsAt.grown {w w' : World} {p g k : Nat} (h : PartsAt w p g) (hk : p ≠ k) (hb : w.grownBy w' (some k)) : PartsAt w' p g := (hb.block p (aT h) (fun e => hk (by injection e))).trans h
theorem PartsAt.below {w w' : World} {p g B : Nat} (h : PartsAt w p g) (hB : p < B) (hb : Below B w w') : PartsAt w' p g := mO h hB hb
structure o0 (B : Nat) (w w' : World) (r g p : Nat) (l : List UInt8) : Prop where
 res : cC w' r 44 aI.toList
 row : cC w' g 44 l
 par : PartsAt w' p g
 bel : Below B w w'
 r0 : B <= r
 g0 : B <= g
 rg : r ≠ g
 pg : p ≠ g
theorem o0.turn {B : Nat} {w w1 w2 : World} {r g p : Nat} {l l' : List UInt8} (h : o0 B w w1 r g p l) (hr : cC w2 g 44 l') (hg : w1.grownBy w2 (some g)) (hB : B <= w.heap.size) : o0 B w w2 r g p l' :=
 ⟨h.res.grown h.rg hg, hr, h.par.grown h.pg hg, h.bel.grown hg (aq hB h.bel.size) (fun k hk => by injection hk with e; have := h.g0; omega), h.r0, h.g0, h.rg, h.pg⟩
theorem o0.draw {B : Nat} {w w1 : World} {r g p : Nat} {l : List UInt8} (h : o0 B w w1 r g p l) : o0 B w w1.drew r g p l := ⟨h.res, h.row, h.par, bd h.bel, h.r0, h.g0, h.rg, h.pg⟩
section
variable {ρ : Operand -> Value} {o : Oper} {x y z : Operand} {w : World} {t : TypeId} {n : Nat} {a : Value} {ad : Addr} {A : Option Addr} {m c : Nat}
theorem mQ (ho : o.op = .convert 168 34 x) (hx : ρ x = .int .u32 (n : Int)) (hn : n < 4294967296) : (execOp ρ o).run prog w = .ok (.value (.int .u64 (n : Int))) w := by
 have h : IntKind.u64.wrap (n : Int) = (n : Int) := IntWalk.u64_in _ ⟨by omega, by omega⟩;have hc : (convert 168 34 (.int .u32 (n : Int))).run prog w = .ok (.int .u64 (n : Int)) w := by simp [convert, go_sem, h]
 unfold execOp;simp only [ho, hx, Sem.run_bind, hc, Result.andThen_ok, Sem.run_pure]
theorem ldS (h : w.cell? ad = some (.slice A m c)) : (Instr.loadAt 208 (.pointer (some ad))).run prog w = .ok (.slice A m c) w := by simp [go_sem, h]
theorem agt {b : Nat} : (Instr.fieldAt 221 (.pointer (some ⟨b, 0, none⟩)) 2).run prog w = .ok (.pointer (some ⟨b, 2, none⟩)) w := by kernel_rfl
theorem agU {b : Nat} : (Instr.fieldAt 221 (.pointer (some ⟨b, 0, none⟩)) 4).run prog w = .ok (.pointer (some ⟨b, 4, none⟩)) w := by kernel_rfl
end
theorem aeS (m c : Nat) (A : Option Addr) (b : List UInt8) (w : World) (hb : b.length = m) :
  Calls prog 148 #[.int .u64 0, .slice A m c] w fun e w' => e = .returned (.tuple #[blk (jH 0 b), .int .i64 (ij 0 b : Nat)]) /\ Below w.heap.size w w' := by
 have hA := (Below.refl w.heap.size w).alloc aj (.cells (cel aI).toArray 44);have HT := ae (fq w aI 44);have HA := ae hA;clear hA;rw [show jH 0 b = aI from rfl, show ij 0 b = 2 from rfl];go_enter func148, ntmps148;go_wp2_with (first | (refine ay rfl (bW rfl) ?_) | (refine ay rfl (dn (c := aI) (parts := []) rfl rfl) ?_) | (refine bK rfl (bP rfl rfl rfl HT.out) ?_));refine bodyPost_ret (du rfl _ _ _ rfl (World.rangeAt_setCells_same _ _ _ _ (by rw [aM]; exact HT))) rfl ⟨rfl, below_setCells HA aj _⟩
theorem ac5 (n m c : Nat) (A : Option Addr) (b : List UInt8) (w : World) (hb : b.length = m) (h0 : 0 < n) (hm : 44 < m) (hm2 : m <= maxLen) :
  Calls prog 148 #[.int .u64 n, .slice A m c] w fun e w' => e = .returned (.tuple #[blk (jH n b), .int .i64 (ij n b : Nat)]) /\ Below w.heap.size w w' := by
 have hA := (Below.refl w.heap.size w).alloc aj (.cells (cel aI).toArray 44);have HT := ae (fq w aI 44);have HA := ae hA;have hE : ij n b = 3 := by unfold ij; rw [if_neg (by omega), if_pos (by omega)]
 have hB : jH n b = aI := by unfold jH; rw [hE]; rfl
 rw [hE, hB];unfold maxLen at hm2;clear hA hE hB hb;have hz : ((n : Int) == 0) = false := by simp; omega
 go_enter func148, ntmps148;go_wp2_with (first | (refine ay rfl (bW rfl) ?_) | (refine ay rfl (dn (c := aI) (parts := []) rfl rfl) ?_) | (refine bK rfl (bP rfl rfl rfl HT.out) ?_));refine bodyPost_ret (du rfl _ _ _ rfl (World.rangeAt_setCells_same _ _ _ _ (by rw [aM]; exact HT))) rfl ⟨rfl, below_setCells HA aj _⟩
theorem pd {a x : List UInt8} (h : a.length + x.length <= 44) : splice (gv a) a.length x = gv (a ++ x) := by
 unfold splice gv;rw [List.take_append_of_le_length aj, List.take_length, List.drop_append];rw [List.drop_of_length_le (by omega), List.nil_append, List.drop_replicate, List.append_assoc, List.length_append]
 congr 3
 omega
def z44 : List UInt8 := List.replicate 44 0
theorem wj : z44.length = 44 := rfl
def bz (x : Sup) : List Value := .int .u64 x.id :: .int .i64 x.self :: aX x.ros
def sup (x : Sup) : Value := .agg (bz x).toArray
theorem a7 (x : Sup) : (bz x).length = 23 := by simp [bz, bq]
theorem tD (x : Sup) : ∀ v ∈ bz x, v.oneCell' = true := by
 intro v hv;simp only [bz, List.mem_cons] at hv;rcases hv with rfl | rfl | hv
 ·rfl
 ·rfl
 ·exact lU _ v hv
theorem jV : (prog.info? 198).map (·.size) = some 23 := by kernel_rfl
theorem mL : (prog.info? 205).map (·.size) = some 44 := by kernel_rfl
theorem vW : (prog.info? 198).map (fun i => i.zero) = some (some (sup cv)) := by kernel_rfl
theorem uL : (prog.info? 205).map (fun i => i.zero) = some (some (arr z44)) := by kernel_rfl
section
variable {ρ : Operand -> Value} {o : Oper} {x y : Operand} {w : World} {b off : Nat}
theorem dp {c : Sup} (ho : o.op = .load 198 x) (hx : ρ x = .pointer (some ⟨b, off, none⟩)) (hc : w.rangeAt b off (bz c)) : (execOp ρ o).run prog w = .ok (.value (sup c)) w :=
 cj underlying198 rfl (by rw [a7]; exact jV) ho hx hc
theorem iC {l : List UInt8} (hl : l.length = 44) (ho : o.op = .load 205 x) (hx : ρ x = .pointer (some ⟨b, off, none⟩)) (hc : w.rangeAt b off (vals l)) : (execOp ρ o).run prog w = .ok (.value (arr l)) w :=
 cj underlying205 rfl (by rw [bi, hl]; exact mL) ho hx hc
theorem jf {c : Sup} (ho : o.op = .box 198 x) (hx : ρ x = sup c) : (execOp ρ o).run prog w = .ok (.value (.pointer (some ⟨w.heap.size, 0, none⟩))) (w.alloc (.cells (bz c).toArray 198)) := cw ho hx
theorem cg (ho : o.op = .alloc 198) : (execOp ρ o).run prog w = .ok (.value (.pointer (some ⟨w.heap.size, 0, none⟩))) (w.alloc (.cells (bz cv).toArray 198)) := c9 vW ho
theorem lj (ho : o.op = .alloc 205) : (execOp ρ o).run prog w = .ok (.value (.pointer (some ⟨w.heap.size, 0, none⟩))) (w.alloc (.cells (vals z44).toArray 205)) := c9 uL ho
theorem dX {c d : Sup} (ho : o.op = .store 198 x y) (hx : ρ x = .pointer (some ⟨w.heap.size, 0, none⟩)) (hy : ρ y = sup c) : (execOp ρ o).run prog (w.alloc (.cells (bz d).toArray 198)) = .ok .skip (w.alloc (.cells (bz c).toArray 198)) :=
 fx (by rw [a7]; exact jV) (by rw [a7, a7]) (tD c) ho hx hy
theorem eh {c : Sup} (ho : o.op = .store 198 x y) (hx : ρ x = .pointer (some ⟨b, off, none⟩)) (hy : ρ y = sup c) (ht : w.there b off 23) : (execOp ρ o).run prog w = .ok .skip (w.setCells b off (bz c)) :=
 fR (by rw [a7]; exact jV) (tD c) ho hx hy (by rw [a7]; exact ht)
theorem acB (w : World) : (Instr.build 198 #[]).run prog w = .ok (sup cv) w := by kernel_rfl
theorem kC (ho : o.op = .build 198 #[]) : (execOp ρ o).run prog w = .ok (.value (sup cv)) w := i4 ho (acB w)
end
theorem aft (x : Sup) : bz x = [.int .u64 x.id, .int .i64 x.self] ++ aX x.ros := rfl
section
variable {ρ : Operand -> Value} {o : Oper} {x y : Operand} {w : World} {t : TypeId}
theorem ae5 : prog.eqGuardType prog.depth 205 = false := by kernel_rfl
theorem q6 {a b : List UInt8} (c : Bool) (ha : a.length = 44) (hb : b.length = 44) (ho : o.op = .binOp .neq 205 x y t) (hx : ρ x = arr a) (hy : ρ y = arr b) (h : decide (a = b) = c) : (execOp ρ o).run prog w = .ok (.value (.bool (!c))) w := by
 subst h; exact acW ae5 (qK underlying205 w a b ha hb 9998) ho hx hy
end
def cR (w : World) (b : Nat) (x : Sup) : Prop := w.heap[b]? = some (.cells (bz x).toArray 198 (0, 0))
section
variable {w w' : World} {b : Nat} {x : Ros} {y : Sup}
theorem cR.range (h : cR w b y) : w.rangeAt b 0 (bz y) := aP h
theorem cR.af8 (h : cR w b y) : w.rangeAt b 2 (aX y.ros) := by
 have := eS (k := 2) (ds := [.int .u64 y.id, .int .i64 y.self]) (es := aX y.ros) (fs := []) h.range (by simp [aft]) rfl;rwa [Nat.zero_add] at this
theorem cR.cells (h : cR w b y) : w.cell? ⟨b, 0, none⟩ = some (.int .u64 y.id) /\ w.cell? ⟨b, 1, none⟩ = some (.int .i64 y.self) /\ w.cell? ⟨b, 2, none⟩ = some (.int .i64 y.ros.m) /\ w.cell? ⟨b, 3, none⟩ = some (.int .i64 y.ros.s) /\ w.cell? ⟨b, 4, none⟩ = some (.int .i64 y.ros.r) /\ w.cell? ⟨b, 21, none⟩ = some (.int .i64 y.ros.cur) /\ w.cell? ⟨b, 22, none⟩ = some (.bool y.ros.gone) := by
 have hr := eS (k := 19) (ds := dR y.ros ++ vals y.ros.st.toList) (es := [.int .i64 y.ros.cur, .bool y.ros.gone]) (fs := []) h.af8 (by simp [jz]) (by simp [dR, bi]);exact ⟨h.range 0 _ rfl, h.range 1 _ rfl, h.range 2 _ rfl, h.range 3 _ rfl, h.range 4 _ rfl, hr 0 _ rfl, hr 1 _ rfl⟩
theorem cR.below {B : Nat} (h : cR w b y) (hB : b < B) (hb : Below B w w') : cR w' b y := mO h hB hb
theorem cR.new (w : World) (y : Sup) : cR (w.alloc (.cells (bz y).toArray 198)) w.heap.size y := heap_alloc_new w _
theorem cR.past (h : cR w b y) (o : Obj) : cR (w.alloc o) b y := br h o
end
theorem uO (x : Ros) (w : World) : Calls prog 47 #[geo x] w fun e w' => e = .returned (.bool (dA x)) /\ Below w.heap.size w w' := by
 have h1 := gL (x := x);have h2 := un (x := x);generalize dA x = g at *;obtain ⟨m, s, r, st, cur, gone⟩ := x;simp only at h1 h2;have H1 := ae h1;have H2 := ae h2;clear h1 h2
 show Calls prog 47 #[.agg #[.int .i64 m, .int .i64 s, .int .i64 r]] w _
 go_enter func47, ntmps47;go_wp2
 all_goals
  go_ret;refine ⟨a8 ?_, ak.alloc aj _⟩
  first
   |(refine Eq.symm (H2.out.2 ?_); omega)
   |(rw [Bool.eq_iff_iff, H1.out, decide_eq_true_iff]; omega)
theorem afG (x : Ros) (w : World) : Calls prog 49 #[geo x] w fun e w' => e = .returned (.bool (dA x)) /\ Below w.heap.size w w' := by
 have h1 := gL (x := x);have h2 := un (x := x);generalize dA x = g at *;obtain ⟨m, s, r, st, cur, gone⟩ := x;simp only at h1 h2;have H1 := ae h1;have H2 := ae h2;clear h1 h2
 show Calls prog 49 #[.agg #[.int .i64 m, .int .i64 s, .int .i64 r]] w _
 go_enter func49, ntmps49;go_wp2
 all_goals
  go_ret;refine ⟨a8 ?_, ak.alloc aj _⟩
  first
   |(refine Eq.symm (H2.out.2 ?_); omega)
   |(rw [Bool.eq_iff_iff, H1.out, decide_eq_true_iff]; omega)
theorem pz (w : World) (x : Sup) : cR (w.alloc (.cells (bz x).toArray 198)) w.heap.size x /\ Below w.heap.size w (w.alloc (.cells (bz x).toArray 198)) /\ w.heap.size < (w.alloc (.cells (bz x).toArray 198)).heap.size :=
 ⟨cR.new w x, (Below.refl w.heap.size w).alloc aj _, by simp only [World.size_alloc]; omega⟩
theorem ac6 (n : Nat) (w : World) : Calls prog 145 #[.int .u64 n] w fun e w' => e = .returned (.bool (evB n)) /\ w = w' := by
 by_cases h : 1 <= n
 ·go_enter func145, ntmps145;go_wp2;go_ret;refine ⟨a8 ?_, rfl⟩;unfold evB;rw [decide_eq_decide];omega
 ·have h0 : n = 0 := by omega
  subst h0;go_enter func145, ntmps145;go_wp2;go_ret;exact ⟨rfl, rfl⟩
theorem afV (x : Ros) (w : World) : Calls prog 173 #[ros x] w fun e w' => e = .returned (.int .i64 (dz x : Nat)) /\ Below w.heap.size w w' := by
 obtain ⟨h1, h2, h3⟩ := cX w x;have HR := ae h1;have HB := ae h2;clear h1 h2 h3;have HL := ae (jB x.st);have HH : Hid (dz x = gT x.st.toList 16) := ae rfl;go_enter func173, ntmps173;go_wp2_with (first | (refine av rfl (aY rfl rfl) ?_) | (refine av rfl (dW HL.out rfl rfl ?_) ?_; (with_reducible exact HR.out.sts)) | fail);generalize w.alloc (.cells (aX x).toArray 58) = w1 at *;generalize x.st.toList = l at *
 go_loop [3, 8] (fun n i => ∃ j : Nat, j <= 16 /\ i = .int .i64 j /\ n = .int .i64 (gT l j : Nat)) (fun _ i => 16 - (intOf i).toNat)
 case atStart => exact ⟨0, Nat.zero_le _, rfl, rfl⟩
 case round =>
  obtain ⟨j, hj, rfl, rfl⟩ := hrel;by_cases hlt : j < 16
  ·have hs := ae (kS l j);have hle := ou l j;generalize gT l j = n at *;by_cases h2 : bt l j = 2
   ·rw [if_pos h2] at hs;have hd : (bt l j == 2) = true := by rw [h2]; rfl
    clear h2;go_wp2_with (first | (refine av rfl (ew (l := l) (j := j) HL hlt rfl rfl rfl) ?_) | fail)
    go_round
    case rel => exact ⟨j + 1, by omega, by go_num, by rw [hs.out]; go_num⟩
    case measure => simp [intOf]; omega
   ·rw [if_neg h2] at hs;have hd : (bt l j == 2) = false := by simpa using h2
    clear h2;go_wp2_with (first | (refine av rfl (ew (l := l) (j := j) HL hlt rfl rfl rfl) ?_) | fail)
    go_round
    case rel => exact ⟨j + 1, by omega, by go_num, by rw [hs.out, Nat.add_zero]⟩
    case measure => simp [intOf]; omega
  ·have e : j = 16 := by omega
   subst e;go_wp2;go_ret;exact ⟨by rw [HH.out]; rfl, HB⟩
theorem ajg (x : Ros) (w : World) : Calls prog 162 #[ros x] w fun e w' => e = .returned (.bool (uo x)) /\ Below w.heap.size w w' := by
 obtain ⟨h1, h2, h3⟩ := cX w x;have HR := ae h1;have HB := ae h2;have HZ := ae h3;clear h1 h2 h3;have HC : Hid (uo x = if dz x = 0 then decide (x.cur = 0) else decide (0 <= x.cur /\ x.cur < x.s)) := ae rfl;go_enter func162, ntmps162;go_wp2_with (first | (refine av rfl (aY rfl rfl) ?_) | (refine av rfl (bf (c := x) rfl rfl ?_) ?_; (with_reducible exact HR.out.range)) | fail);generalize w.alloc (.cells (aX x).toArray 58) = w1 at *;refine (afV x w1).mono ?_;rintro e w2 ⟨rfl, hb⟩;obtain ⟨c0, c1, c2, c3, c4⟩ := (HR.out.below HZ hb).cells;have HB2 := ae (HB.out.trans (hb.mono (Nat.le_of_lt HZ)));clear hb;generalize x.cur = c at *;generalize x.s = s at *;by_cases h0 : dz x = 0
 ·rw [if_pos h0] at HC;rw [h0];go_wp2;go_ret;exact ⟨a8 (by rw [HC.out, Bool.eq_iff_iff]; simp), HB2⟩
 ·rw [if_neg h0] at HC;have hd : ((dz x : Int) == 0) = false := by simp; omega
  by_cases hc : 0 <= c
  ·go_wp2;go_ret;exact ⟨a8 (by rw [HC.out, decide_eq_decide]; omega), HB2⟩
  ·have hlt : c < 0 := by omega
   go_wp2;go_ret;exact ⟨a8 (by rw [HC.out]; simp; omega), HB2⟩
set_option linter.unusedSimpArgs false
def i3 (x : Ros) : List UInt8 := splice (List.replicate 16 0) 0 (x.st.toList.take x.m.toNat)
theorem kg {x : Ros} : (i3 x).length = 16 := by
 unfold i3;rw [length_splice _ _ _ (by simp; omega)];simp
theorem rO {x : Ros} (h0 : 0 <= x.m) (h16 : x.m <= 16) {k : Nat} (hk : k < 16) : bt (i3 x) k = if (k : Int) < x.m then sta x k else 0 := by
 unfold i3;have hl : (x.st.toList.take x.m.toNat).length = x.m.toNat := by simp; omega
 rw [i7 (by rw [hl]; simp; omega), hl, kX];by_cases h : (k : Int) < x.m
 ·rw [if_pos (by omega), if_pos h];unfold sta bt;simp only [List.getD, Nat.sub_zero, List.getElem?_take_of_lt (show k < x.m.toNat by omega)]
 ·rw [if_neg (by omega), if_neg h]
theorem acD {x : Ros} (h0 : 0 <= x.m) (h16 : x.m <= 16) {k : Nat} (hk : k < 16) (hb : 2 < bt (i3 x) k) : fE x = false := by
 rw [Bool.eq_false_iff];intro h;have := (iy h).1 k hk;rw [rO h0 h16 hk] at hb
 split at hb <;> omega
theorem ade {x : Ros} (h0 : 0 <= x.m) (h16 : x.m <= 16) (h : ∀ k, k < 16 -> bt (i3 x) k <= 2) : fE x = decide (i3 x = x.st.toList) := by
 rw [Bool.eq_iff_iff, decide_eq_true_iff, jg]
 constructor
 ·rintro ⟨h1, h2⟩;refine jY (by rw [kg]; simp) fun k hk => ?_
  rw [kg] at hk;rw [rO h0 h16 hk]
  split
  ·rfl
  ·exact (h2 k hk (by omega)).symm
 ·intro e;have h3 : ∀ k, k < 16 -> sta x k = bt (i3 x) k := fun k hk => by rw [e]; rfl
  refine ⟨fun k hk => by rw [h3 k hk]; exact h k hk, fun k hk hm => ?_⟩;rw [h3 k hk, rO h0 h16 hk, if_neg (by omega)]
section
variable {ρ : Operand -> Value} {o : Oper} {x z : Operand} {w : World} {g off : Nat}
theorem kR (ho : o.op = .slice 56 x none none none) (hx : ρ x = .pointer (some ⟨g, off, none⟩)) : (execOp ρ o).run prog w = .ok (.value (.slice (some ⟨g, off, none⟩) 16 16)) w := by
 have h : (Instr.sliceAt 56 (.pointer (some ⟨g, off, none⟩)) none none none).run prog w = .ok (.slice (some ⟨g, off, none⟩) 16 16) w := by
  simp [Instr.sliceAt, Instr.sliceBounds, Instr.sliceBound, Instr.sureAddr, asIntOf, run_underlying underlying56, Tryz.sizeOf5, Addr.add_mid]
 unfold execOp;simp only [ho, hx, Option.map_none, Sem.run_bind, h, Result.andThen_ok, Sem.run_pure]
theorem rS {m : Int} (h0 : 0 < m) (h16 : m <= 16) (ho : o.op = .slice 56 x none (some z) none) (hx : ρ x = .pointer (some ⟨g, off, none⟩)) (hz : ρ z = .int .i64 m) : (execOp ρ o).run prog w = .ok (.value (.slice (some ⟨g, off, none⟩) m.toNat 16)) w := by
 obtain ⟨n, rfl⟩ := Int.eq_ofNat_of_zero_le (Int.le_of_lt h0);have h : (Instr.sliceAt 56 (.pointer (some ⟨g, off, none⟩)) none (some (.int .i64 (n : Int))) none).run prog w = .ok (.slice (some ⟨g, off, none⟩) n 16) w := by
  have e1 : (0 <= (n : Int) /\ (n : Int) <= 16) := by omega
  have e2 : n <= 16 := by omega
  simp [Instr.sliceAt, Instr.sliceBounds, Instr.sliceBound, Instr.sureAddr, asIntOf, run_underlying underlying56, Tryz.sizeOf5, Addr.add_mid, e1, e2]
 unfold execOp;simp only [ho, hx, hz, Option.map_none, Option.map_some, Sem.run_bind, h, Result.andThen_ok, Sem.run_pure, Int.toNat_natCast]
end
theorem afu (x : Ros) (w : World) (h0 : 0 < x.m) (h16 : x.m <= 16) : Calls prog 161 #[ros x] w fun e w' => e = .returned (.bool (fE x && decide (dz x <= 1))) /\ Below w.heap.size w w' := by
 obtain ⟨h1, h2, h3⟩ := cX w x;have HR := ae (h1.past (.cells (vals (List.replicate 16 0)).toArray 56));have HB := ae (h2.alloc h2.size (.cells (vals (List.replicate 16 0)).toArray 56));have HM : Hid (cC ((w.alloc (.cells (aX x).toArray 58)).alloc (.cells (vals (List.replicate 16 0)).toArray 56)) (w.heap.size + 1) 56 (List.replicate 16 0)) := by
  have := cC.new (w.alloc (.cells (aX x).toArray 58)) (List.replicate 16 0) 56;rw [World.size_alloc] at this;exact ae this
 clear h1 h2 h3;have HML := ae (kg (x := x));have HSL := ae (jB x.st);have HBIG : Hid (∀ k, k < 16 -> 2 < bt (i3 x) k -> fE x = false) := ae fun k hk hb => acD (by omega) h16 hk hb
 have HALL : Hid ((∀ k, k < 16 -> bt (i3 x) k <= 2) -> fE x = decide (i3 x = x.st.toList)) := ae fun h => ade (by omega) h16 h
 have HDEF : Hid (splice (List.replicate 16 0) 0 (x.st.toList.take x.m.toNat) = i3 x) := ae rfl;go_enter func161, ntmps161;go_wp2_with (first | (refine av rfl (aY rfl rfl) ?_) | (refine av rfl (sf rfl) ?_) | fail);simp only [World.size_alloc];generalize (w.alloc (.cells (aX x).toArray 58)).alloc (.cells (vals (List.replicate 16 0)).toArray 56) = w1 at *;have c0 := HR.out.cells.1;have HRD := ae (HR.out.rd (m := x.m.toNat) (by omega));refine wp_region_still_tail 6 (by kernel_rfl) (by kernel_rfl) ?_;simp only [ac];refine aN rfl (kR rfl ajL) ?_;simp only [aa];refine aN rfl (ax rfl ajL nj) ?_;simp only [aa];refine aN rfl (ax rfl ajL o6) ?_;simp only [aa];refine aN rfl (ax rfl ajL ov) ?_;simp only [aa];refine aN rfl (aC rfl ajL (bY c0)) ?_;simp only [aa];refine aN rfl (rS h0 h16 rfl ajL ajL) ?_;simp only [aa];refine wpStill_nil ?_;change wpList _ _ _ _ _ (World.drew _);refine eR rfl _ _ rfl (w.heap.size + 1) 0 16 16 x.m.toNat 16 _ _ 56 (List.replicate 16 0) (x.st.toList.take x.m.toNat) ajL ajL HM.out.draw HRD (by omega) (by simp; omega) ?_;intro w2 hr2 hg2;rw [HDEF.out] at hr2;have HR2 : Hid (bD w2 w.heap.size x) := ae ((hg2.block w.heap.size (aT HR) (fun e => by injection e with e; omega)).trans HR);have HM2 := ae hr2;have HM2R := ae (aP hr2);have HB2 : Hid (Below w.heap.size w w2) := ae ((bd HB).grown hg2 HB.out.size (fun k hk => by injection hk with e; omega));have HZ2 : Hid (w.heap.size < w2.heap.size) := ae (aT HR2);clear hr2 hg2 HR HM HB HRD c0;simp only [aa];refine ah ?_;go_wp2_with (first | (refine av rfl (dW HML.out rfl rfl ?_) ?_; (with_reducible exact HM2R.out)) | fail);have HW2 := ae (show w2 = w2 from rfl)
 go_loop [14] (fun i => ∃ j : Nat, j <= 16 /\ i = .int .i64 j /\ ∀ k, k < j -> bt (i3 x) k <= 2) (fun i => 16 - (intOf i).toNat)
 case atStart => exact ⟨0, Nat.zero_le _, rfl, fun k hk => absurd hk (by omega)⟩
 case round =>
  obtain ⟨j, hj, rfl, hall⟩ := hrel;have HA := ae hall;clear hall;by_cases hlt : j < 16
  ·by_cases h2 : 2 < bt (i3 x) j
   ·have HF := ae (HBIG.out j hlt h2);go_wp2_with (first | (refine av rfl (ew (l := i3 x) (j := j) HML hlt rfl rfl rfl) ?_) | fail);go_ret;exact ⟨a8 (by rw [HF.out]; rfl), HB2⟩
   ·have h2' : bt (i3 x) j <= 2 := by omega
    have HN : Hid (∀ k, k < j + 1 -> bt (i3 x) k <= 2) := ae fun k hk => by
     by_cases e : k = j
     ·rw [e]; exact h2'
     ·exact HA.out k (by omega)
    go_wp2_with (first | (refine av rfl (ew (l := i3 x) (j := j) HML hlt rfl rfl rfl) ?_) | fail)
    go_round
    case rel => exact ⟨j + 1, by omega, by go_num, HN⟩
    case measure => simp [intOf]; omega
  ·have e : j = 16 := by omega
   subst e;have HE := ae (HALL.out HA);cases hs : fE x
   ·rw [hs] at HE;have HD : Hid (decide (i3 x = x.st.toList) = false) := ae HE.out.symm;have HS := ae hs;clear hs HE;go_wp2_with (first | (refine av rfl (dW HML.out rfl rfl ?_) ?_; (with_reducible exact HM2R.out)) | (refine av rfl (dW HSL.out rfl rfl ?_) ?_; (with_reducible exact HR2.out.sts)) | (refine av rfl (qX false HML.out HSL.out rfl rfl rfl HD.out) ?_) | fail);go_ret;exact ⟨a8 (by rw [HS.out]; rfl), HB2⟩
   ·rw [hs] at HE;have HD : Hid (decide (i3 x = x.st.toList) = true) := ae HE.out.symm;have HS := ae hs;clear hs HE;go_wp2_with (first | (refine av rfl (dW HML.out rfl rfl ?_) ?_; (with_reducible exact HM2R.out)) | (refine av rfl (dW HSL.out rfl rfl ?_) ?_; (with_reducible exact HR2.out.sts)) | (refine av rfl (qX true HML.out HSL.out rfl rfl rfl HD.out) ?_) | (refine ay (by rfl) (bf (c := x) rfl rfl ?_) ?_; (with_reducible exact HR2.out.range)) | fail);refine (afV x w2).mono ?_;rintro e w3 ⟨rfl, hb⟩;have HB3 := ae (HB2.out.trans (hb.mono (Nat.le_of_lt HZ2)));clear hb;go_wp2;go_ret;exact ⟨a8 (by rw [HS.out, Bool.true_and, decide_eq_decide]; omega), HB3⟩
theorem aeF (x : Ros) (w : World) : Calls prog 151 #[ros x] w fun e w' => e = .returned (.bool (aU x)) /\ Below w.heap.size w w' := by
 have HF := ae (pO x);obtain ⟨h1, h2, h3⟩ := cX w x;have HR := ae h1;have HB := ae h2;have HZ := ae h3;clear h1 h2 h3;go_enter func151, ntmps151;go_wp2_with (first | (refine av rfl (aY rfl rfl) ?_) | (refine av rfl (dd (c := x) rfl rfl ?_) ?_; (with_reducible exact HR.out.geo)) | fail);generalize w.alloc (.cells (aX x).toArray 58) = w1 at *;refine (uO x w1).mono ?_;rintro e w2 ⟨rfl, hb⟩;have HR2 := ae (HR.out.below HZ hb);have HB2 := ae (HB.out.trans (hb.mono (Nat.le_of_lt HZ)));have HZ2 := ae (aT HR2);clear hb HR HB HZ;cases hg : dA x
 ·rw [hg] at HF;go_wp2_with fail;go_ret;exact ⟨a8 (by rw [HF.out]; rfl), HB2⟩
 ·rw [hg] at HF;have hgg := gL.1 hg;clear hg;go_wp2_with (first | (refine ay (by rfl) (bf (c := x) rfl rfl ?_) ?_; (with_reducible exact HR2.out.range)) | fail);refine (afu x w2 (by omega) (by omega)).mono ?_;rintro e w3 ⟨rfl, hb⟩;have HR3 := ae (HR2.out.below HZ2 hb);have HB3 := ae (HB2.out.trans (hb.mono (Nat.le_of_lt HZ2)));have HZ3 := ae (aT HR3);clear hb HR2 HB2 HZ2 hgg;generalize (fE x && decide (dz x <= 1)) = p at *;cases p
  ·go_wp2_with fail;go_ret;exact ⟨a8 (by rw [HF.out]; rfl), HB3⟩
  ·go_wp2_with (first | (refine ay (by rfl) (bf (c := x) rfl rfl ?_) ?_; (with_reducible exact HR3.out.range)) | fail);refine (ajg x w3).mono ?_;rintro e w4 ⟨rfl, hb⟩;have HB4 := ae (HB3.out.trans (hb.mono (Nat.le_of_lt HZ3)));clear hb;generalize uo x = q at *;go_wp2_with fail;go_ret;exact ⟨a8 (by rw [HF.out]; rfl), HB4⟩
theorem yO (x : Sup) : gF x = (decide (x.id ≠ 0) && (aU x.ros && decide (0 <= x.self /\ x.self < x.ros.m))) := by unfold gF; rw [Bool.and_assoc]
theorem afB (x : Sup) (w : World) : Calls prog 146 #[sup x] w fun e w' => e = .returned (.bool (gF x)) /\ Below w.heap.size w w' := by
 have HF := ae (yO x);obtain ⟨h1, h2, h3⟩ := pz w x;have HR := ae h1;have HB := ae h2;have HZ := ae h3;obtain ⟨c0, c1, c2, c3, c4, c5, c6⟩ := h1.cells;clear h1 h2 h3;go_enter func146, ntmps146;by_cases hid : x.id = 0
 ·rw [am (by simpa using hid)] at HF;have hd : ((x.id : Int) != 0) = false := by rw [hid]; rfl
  go_wp2_with (first | (refine av rfl (jf rfl rfl) ?_) | fail);go_ret;exact ⟨a8 (by rw [HF.out]; rfl), HB⟩
 ·rw [ao (by simpa using hid)] at HF;have hd : ((x.id : Int) != 0) = true := by simp; omega
  go_wp2_with (first | (refine av rfl (jf rfl rfl) ?_) | (refine ay (by rfl) (bf (c := x.ros) rfl rfl ?_) ?_; (with_reducible exact HR.out.af8)) | fail);generalize w.alloc (.cells (bz x).toArray 198) = w1 at *;clear c0 c1 c2 c3 c4 c5 c6;refine (aeF x.ros w1).mono ?_;rintro e w2 ⟨rfl, hb⟩;obtain ⟨c0, c1, c2, c3, c4, c5, c6⟩ := (HR.out.below HZ hb).cells;have HB2 := ae (HB.out.trans (hb.mono (Nat.le_of_lt HZ)));clear hb HR HB HZ hd hid;generalize aU x.ros = p at *;generalize x.self = a at *;generalize x.ros.m = m at *;cases p
  ·go_wp2_with fail;go_ret;exact ⟨a8 (by rw [HF.out]; rfl), HB2⟩
  ·by_cases ha : 0 <= a
   ·go_wp2;go_ret;exact ⟨a8 (by rw [HF.out]; simp [ha]), HB2⟩
   ·have ha' : a < 0 := by omega
    go_wp2;go_ret;exact ⟨a8 (by rw [HF.out]; simp; omega), HB2⟩
def unw (ops : Array Oper) : List Oper -> Act -> Bool
 |[], _ => true
 |r :: rs, a => !(Region.wanted r (yielded ops a.tmps)) && unw ops rs (a.put r.dst undef)
def bH : List Oper -> Act -> Act
 |[], a => a
 |r :: rs, a => bH rs (a.put r.dst undef)
section
variable {P : Program} {ops : Array Oper} {rest l : List Oper} {o : Oper} {a : Act} {w w' : World} {Q : Exit -> Act -> World -> Prop} {v : Value}
theorem pU : ∀ (rs : List Oper) (a : Act), unw ops rs a = true -> wpList P ops Q rest (bH rs a) w -> wpList P ops Q (rs ++ rest) a w
 |[], _, _, h => h
 |r :: rs, a, hu, h => by
  simp only [unw, Bool.and_eq_true, Bool.not_eq_true'] at hu;refine wpList_step fun K hK => ?_
  rw [if_neg (by rw [hu.1]; exact Bool.false_ne_true)];exact hK _ _ (pU rs _ hu.2 h)
theorem a6 (n : Nat) (hw : Region.wanted o (yielded ops a.tmps) = true) (h : (execOp a.eval o).run P w = .ok (.value v) w') (hu : unw ops (l.take n) (a.put o.dst v) = true) (hr : wpList P ops Q (l.drop n) (bH (l.take n) (a.put o.dst v)) w') : wpList P ops Q (o :: l) a w :=
 ay hw h (by have := pU (P := P) (Q := Q) (l.take n) _ hu hr; rwa [List.take_append_drop] at this)
end
theorem afH (x : Ros) (w : World) : Calls prog 40 #[ros x] w fun e w' => e = .returned (.bool (aU x)) /\ Below w.heap.size w w' := by
 have HGE : Hid (dA x = false -> aU x = false) := ae fun h => by unfold aU; rw [h]; rfl
 have HOK : Hid (dA x = true -> fE x = true -> aU x = (decide (dz x <= 1) && decide (0 <= x.cur /\ x.cur < x.s /\ (dz x = 1 \/ x.cur = 0)))) := ae fun h h' => by unfold aU; rw [h, h', Bool.true_and, Bool.true_and]
 have HNO : Hid (∀ j, j < 16 -> (2 < sta x j \/ (x.m <= (j : Int) /\ sta x j ≠ 0)) -> aU x = false) := ae fun j => ahQ
 have HSTA := ae (jg (x := x));obtain ⟨h1, h2, h3⟩ := cX w x;have HR := ae h1;have HB := ae h2;have HZ := ae h3;clear h1 h2 h3;have HH : Hid (dz x = gT x.st.toList 16) := ae rfl;have HST : Hid (∀ j, sta x j = bt x.st.toList j) := ae fun _ => rfl
 go_enter func40, ntmps40;go_wp2_with (first | (refine av rfl (aY rfl rfl) ?_) | (refine av rfl (dd (c := x) rfl rfl ?_) ?_; (with_reducible exact HR.out.geo)) | fail);generalize w.alloc (.cells (aX x).toArray 58) = w1 at *;refine (afG x w1).mono ?_;rintro e w2 ⟨rfl, hb⟩;have HR2 := ae (HR.out.below HZ hb);have HB2 := ae (HB.out.trans (hb.mono (Nat.le_of_lt HZ)));clear hb HR HB HZ;cases hg : dA x
 ·have HF := ae (HGE.out hg);clear hg;go_wp2_with fail;go_ret;exact ⟨by rw [HF.out]; rfl, HB2⟩
 ·have HOK2 := ae (HOK.out hg);clear hg HOK HGE;have HM := ae HR2.out.cells.1;have HSS := ae HR2.out.cells.2.1;have HCU := ae HR2.out.cells.2.2.2.1;go_wp2_with fail
  go_loop [3, 4] (fun n i => ∃ j : Nat, j <= 16 /\ i = .int .i64 j /\ n = .int .i64 (gT x.st.toList j : Nat) /\ (∀ k, k < j -> sta x k <= 2) /\ (∀ k : Nat, k < j -> x.m <= (k : Int) -> sta x k = 0)) (fun _ i => 16 - (intOf i).toNat)
  case atStart => exact ⟨0, Nat.zero_le _, rfl, rfl, fun k hk => absurd hk (by omega), fun k hk => absurd hk (by omega)⟩
  case round =>
   obtain ⟨j, hj, rfl, rfl, ha1, ha2⟩ := hrel;have HA1 := ae ha1;have HA2 := ae ha2;clear ha1 ha2;by_cases hlt : j < 16
   ·have HC := ae (HR2.out.sta hlt);have HS := ae (kS x.st.toList j);have hle := ou x.st.toList j;generalize gT x.st.toList j = n at *;go_upto_region 7 with fail;refine aH 1 ?_;refine ajB (ax rfl ajL nj) ?_;refine ajB (cO rfl ajL ajL (pX hlt)) ?_;refine ajB (aC rfl ajL (qg HC)) ?_;by_cases g2 : 2 < sta x j
    ·have HF := ae (HNO.out j hlt (.inl g2));have H17 : Hid (decide ((2 : Int) < sta x j) = true) := ae (ao g2);clear g2;refine ajB (dC true rfl ajL evk H17) ?_;refine a6 12 rfl (aL rfl ajL) (by kernel_rfl) ?_;simp only [bH, ac, aa];refine aF 1 ?_;go_wp2_with fail;go_ret;exact ⟨by rw [HF.out]; rfl, HB2⟩
    ·have H17 : Hid (decide ((2 : Int) < sta x j) = false) := ae (am g2);have HLE : Hid (sta x j <= 2) := ae (by omega);refine ajB (dC false rfl ajL evk H17) ?_;refine runs 2 ?_;refine ajI (ax rfl ajL o6) ?_;refine ajI (ax rfl ajL ov) ?_;refine ajI (aC rfl ajL (bY HM)) ?_;by_cases gm : x.m <= (j : Int)
     ·have H23 : Hid (decide (x.m <= (j : Int)) = true) := ae (ao gm);refine ajI (dv true rfl ajL ajL H23) ?_;refine runs 2 ?_;refine ajI (ax rfl ajL nj) ?_;refine ajI (cO rfl ajL ajL (pX hlt)) ?_;refine ajI (aC rfl ajL (qg HC)) ?_;by_cases g0 : sta x j = 0
      ·have H29 : Hid ((sta x j != 0) = false) := ae (by rw [g0]; rfl);have HEQ := ae g0;clear g2 gm g0;refine ajI (aJ false rfl ajL evk H29) ?_;refine aF 2 ?_;have cs := HC.out;rw [HEQ.out] at cs;go_wp2_with fail
       go_round
       case rel =>
        refine ⟨j + 1, by omega, by go_num, ?_, fun k hk => ?_, fun k hk hm => ?_⟩
        ·rw [HS.out, if_neg (by rw [<- HST.out, HEQ.out]; omega), Nat.add_zero]
        ·by_cases e : k = j
         ·rw [e]; exact HLE
         ·exact HA1.out k (by omega)
        ·by_cases e : k = j
         ·rw [e]; exact HEQ
         ·exact HA2.out k (by omega) hm
       case measure => simp [intOf]; omega
      ·have HF := ae (HNO.out j hlt (.inr ⟨gm, g0⟩));have H29 : Hid ((sta x j != 0) = true) := ae (by simpa using g0);clear g2 gm g0;refine ajI (aJ true rfl ajL evk H29) ?_;refine aF 2 ?_;go_wp2_with fail;go_ret;exact ⟨by rw [HF.out]; rfl, HB2⟩
     ·have H23 : Hid (decide (x.m <= (j : Int)) = false) := ae (am gm);have HGM := ae gm;clear g2 gm;refine ajI (dv false rfl ajL ajL H23) ?_;refine a6 5 ajw (aL rfl ajL) (by kernel_rfl) ?_;simp only [bH, ac, aa];refine aF 2 ?_;have cs := HC.out;have HN1 : Hid (∀ k, k < j + 1 -> sta x k <= 2) := ae fun k hk => by
       by_cases e : k = j
       ·rw [e]; exact HLE
       ·exact HA1.out k (by omega)
      have HN2 : Hid (∀ k : Nat, k < j + 1 -> x.m <= (k : Int) -> sta x k = 0) := ae fun k hk hm => by
       by_cases e : k = j
       ·rw [e] at hm; exact absurd hm HGM
       ·exact HA2.out k (by omega) hm
      by_cases h2 : sta x j = 2
      ·have hd : (sta x j == 2) = true := by rw [h2]; rfl
       have HEQ := ae h2;clear h2;go_wp2_with fail
       go_round
       case rel => exact ⟨j + 1, by omega, by go_num, by rw [HS.out, if_pos (by rw [<- HST.out, HEQ.out])]; go_num, HN1, HN2⟩
       case measure => simp [intOf]; omega
      ·have hd : (sta x j == 2) = false := by simpa using h2
       have HEQ := ae h2;clear h2;go_wp2_with fail
       go_round
       case rel => exact ⟨j + 1, by omega, by go_num, by rw [HS.out, if_neg (by rw [<- HST.out]; exact HEQ.out), Nat.add_zero], HN1, HN2⟩
       case measure => simp [intOf]; omega
   ·have e : j = 16 := by omega
    subst e;have HF := ae (HOK2.out (HSTA.out.2 ⟨HA1, HA2⟩));rw [HH.out] at HF;have hle := ou x.st.toList 16;generalize gT x.st.toList 16 = n at *;clear HA1 HA2 HNO HSTA hlt hj HST HOK2;obtain ⟨c, hc⟩ : ∃ c, x.cur = c := ⟨_, rfl⟩;obtain ⟨s, hs⟩ : ∃ s, x.s = s := ⟨_, rfl⟩;rw [hc, hs] at HF;rw [hc] at HCU;rw [hs] at HSS;clear hc hs;go_upto_region 11 with fail;refine aH 1 ?_;by_cases q1 : n <= 1
    ·have H40 : Hid (decide ((n : Int) <= 1) = true) := ae (ao (by omega));refine ajB (lP true rfl ajL evk H40) ?_;refine runs 1 ?_;refine ajI (ax rfl ajL z8) ?_;refine ajI (aC rfl ajL (bY HCU)) ?_;by_cases q2 : 0 <= c
     ·have H44 : Hid (decide ((0 : Int) <= c) = true) := ae (ao q2);refine ajI (dv true rfl ajL evk H44) ?_;refine runs 2 ?_;refine ajI (ax rfl ajL z8) ?_;refine ajI (aC rfl ajL (bY HCU)) ?_;refine ajI (ax rfl ajL o6) ?_;refine ajI (ax rfl ajL abH) ?_;refine ajI (aC rfl ajL (bY HSS)) ?_;by_cases q3 : c < s
      ·have H52 : Hid (decide (c < s) = true) := ae (ao q3);refine ajI (aZ true rfl ajL ajL H52) ?_;refine runs 3 ?_;by_cases q4 : n = 1
       ·have H56 : Hid (((n : Int) == 1) = true) := ae (by rw [q4]; rfl);refine ajI (aE true rfl ajL evk H56) ?_;refine a6 3 ajw (aL rfl ajL) (by kernel_rfl) ?_;simp only [bH, ac, aa];refine aF 3 ?_;go_wp2_with fail;go_ret;exact ⟨a8 (by rw [HF.out]; rw [ao q1, ao (by omega)]; rfl), HB2⟩
       ·have H56 : Hid (((n : Int) == 1) = false) := ae (by simp; omega);refine ajI (aE false rfl ajL evk H56) ?_;refine runs 1 ?_;refine ajI (ax rfl ajL z8) ?_;refine ajI (aC rfl ajL (bY HCU)) ?_;by_cases q5 : c = 0
        ·have H60 : Hid ((c == 0) = true) := ae (by simpa using q5);refine ajI (aE true rfl ajL evk H60) ?_;refine aF 3 ?_;go_wp2_with fail;go_ret;exact ⟨a8 (by rw [HF.out]; rw [ao q1, ao (by omega)]; rfl), HB2⟩
        ·have H60 : Hid ((c == 0) = false) := ae (by simpa using q5);refine ajI (aE false rfl ajL evk H60) ?_;refine aF 3 ?_;go_wp2_with fail;go_ret;exact ⟨a8 (by rw [HF.out]; rw [ao q1, am (by omega)]; rfl), HB2⟩
      ·have H52 : Hid (decide (c < s) = false) := ae (am q3);refine ajI (aZ false rfl ajL ajL H52) ?_;refine runs 1 ?_;refine a6 7 rfl (aL rfl ajL) (by kernel_rfl) ?_;simp only [bH, ac, aa];refine aF 2 ?_;go_wp2_with fail;go_ret;exact ⟨a8 (by rw [HF.out]; rw [ao q1, am (by omega)]; rfl), HB2⟩
     ·have H44 : Hid (decide ((0 : Int) <= c) = false) := ae (am q2);refine ajI (dv false rfl ajL evk H44) ?_;refine runs 1 ?_;refine a6 6 rfl (aL rfl ajL) (by kernel_rfl) ?_;simp only [bH, ac, aa];refine runs 1 ?_;refine a6 7 rfl (aL rfl ajL) (by kernel_rfl) ?_;simp only [bH, ac, aa];refine aF 2 ?_;go_wp2_with fail;go_ret;exact ⟨a8 (by rw [HF.out]; rw [ao q1, am (by omega)]; rfl), HB2⟩
    ·have H40 : Hid (decide ((n : Int) <= 1) = false) := ae (am (by omega));refine ajB (lP false rfl ajL evk H40) ?_;refine a6 3 rfl (aL rfl ajL) (by kernel_rfl) ?_;simp only [bH, ac, aa];refine runs 1 ?_;refine a6 6 rfl (aL rfl ajL) (by kernel_rfl) ?_;simp only [bH, ac, aa];refine runs 1 ?_;refine a6 7 rfl (aL rfl ajL) (by kernel_rfl) ?_;simp only [bH, ac, aa];refine aF 2 ?_;go_wp2_with fail;go_ret;exact ⟨a8 (by rw [HF.out]; rw [am q1]; rfl), HB2⟩
theorem lW (s : Int) (w : World) (h1 : 1 <= s) (h2 : s <= 8) : Calls prog 166 #[.int .i64 s] w fun e w' => e = .returned (.bool true) /\ w = w' := by
 go_enter func166, ntmps166;go_wp2;go_ret;exact ⟨rfl, rfl⟩
theorem wX {d : Nat} (h1 : 1 <= d) (h2 : d <= 8) : d = 1 \/ d = 2 \/ d = 3 \/ d = 4 \/ d = 5 \/ d = 6 \/ d = 7 \/ d = 8 := by omega
def bytesOf (m d : Nat) : Nat := (m * d + 7) / 8
theorem q7 (m d : Nat) (w : World) (h1 : 1 <= d) (h2 : d <= 8) (hm : m <= 4611686018427387904) : Calls prog 167 #[.int .i64 m, .int .i64 d] w fun e w' => e = .returned (.int .i64 (bytesOf m d)) /\ w = w' := by
 rcases wX h1 h2 with rfl | rfl | rfl | rfl | rfl | rfl | rfl | rfl
 all_goals
  clear h1 h2;go_enter func167, ntmps167;go_wp2;go_ret;exact ⟨dk (by unfold bytesOf; omega), rfl⟩
theorem qZ (m d : Nat) (w : World) (h1 : 1 <= d) (h2 : d <= 8) (hm : m <= 4611686018427387904) : Calls prog 168 #[.int .i64 m, .int .i64 d] w fun e w' => e = .returned (.tuple #[.int .i64 (m * d / 8 : Nat), .int .i64 (m * d % 8 : Nat)]) /\ w = w' := by
 rcases wX h1 h2 with rfl | rfl | rfl | rfl | rfl | rfl | rfl | rfl
 all_goals
  clear h1 h2;go_enter func168, ntmps168;go_wp2;go_ret2;exact ⟨uB (by omega) (by omega), rfl⟩
theorem n8 (a d : Nat) (w : World) (ha : a <= 8) (h2 : d <= 8) (h : 8 < a + d) : Calls prog 169 #[.int .i64 a, .int .i64 d] w fun e w' => e = .returned (.bool true) /\ w = w' := by
 go_enter func169, ntmps169;go_wp2;go_ret;exact ⟨a8 (by simp; omega), rfl⟩
theorem q9 (a d : Nat) (w : World) (ha : a <= 8) (h2 : d <= 8) (h : ¬ 8 < a + d) : Calls prog 169 #[.int .i64 a, .int .i64 d] w fun e w' => e = .returned (.bool false) /\ w = w' := by
 go_enter func169, ntmps169;go_wp2;go_ret;exact ⟨a8 (by simp; omega), rfl⟩
theorem fits_int (n c : Int) (w : World) (hn : 0 <= n) (h0 : 0 <= c) (h64 : c <= 64) : Calls prog 165 #[.int .u64 n, .int .i64 c] w fun e w' => e = .returned (.bool (vM n.toNat c.toNat)) /\ w = w' := by
 obtain ⟨m, rfl⟩ := Int.eq_ofNat_of_zero_le hn;rw [Int.toNat_natCast];exact uF m c w h0 h64
def narrow (d : Nat) (l : List UInt8) : Bool := l.all fun u => decide (u.toNat < 2 ^ d)
theorem gM {d : Nat} {l : List UInt8} (h : narrow d l = true) : ∀ u ∈ l, u.toNat < 2 ^ d := by
 intro u hu;have := List.all_eq_true.1 h u hu
 simpa using this
theorem adu {l : List UInt8} {d j : Nat} (hall : narrow d l = true) (hj : j < l.length) : vM (bt l j).toNat (d : Int).toNat = true := by
 unfold vM;rw [Int.toNat_natCast, decide_eq_true_eq, eK hj, Int.toNat_natCast];exact gM hall _ (List.getElem_mem hj)
theorem aaB {X ab : Nat} (hX : X < 256) (hab : ab <= 7) : IntKind.u16.wrap ((X : Int) * 2 ^ ab) = ((X * 2 ^ ab : Nat) : Int) := by
 have h2 : 2 ^ ab <= 2 ^ 7 := Nat.pow_le_pow_right (by omega) hab;have h3 : X * 2 ^ ab <= 255 * 2 ^ 7 := Nat.mul_le_mul (by omega) h2;have e : ((X : Int) * 2 ^ ab) = ((X * 2 ^ ab : Nat) : Int) := by push_cast; rfl
 rw [e];exact IntWalk.u16_in _ ⟨by omega, by omega⟩
theorem yv {x1 X ab : Nat} (h1 : x1 < 256) (hX : X < 256) (hab : ab <= 7) : bits .or .u8 (x1 : Int) (IntKind.u16.wrap ((X : Int) * 2 ^ ab) % 256) = ((x1 ||| (X * 2 ^ ab % 2 ^ 8) : Nat) : Int) := by
 rw [aaB hX hab];exact u8_or_nat x1 (X * 2 ^ ab % 256) h1 (Nat.mod_lt _ (by decide))
theorem ae3 {x2 X ab : Nat} (h1 : x2 < 256) (hX : X < 256) (hab : ab <= 7) : bits .or .u8 (x2 : Int) (IntKind.u16.wrap ((X : Int) * 2 ^ ab) / 256 % 256) = ((x2 ||| (X * 2 ^ ab / 2 ^ 8) : Nat) : Int) := by
 rw [aaB hX hab];have h2 : 2 ^ ab <= 2 ^ 7 := Nat.pow_le_pow_right (by omega) hab;have h3 : X * 2 ^ ab <= 255 * 2 ^ 7 := Nat.mul_le_mul (by omega) h2;have e : (((X * 2 ^ ab : Nat) : Int) / 256 % 256) = ((X * 2 ^ ab / 256 : Nat) : Int) := by omega
 rw [e];exact u8_or_nat x2 (X * 2 ^ ab / 256) h1 (by omega)
theorem adt {w : World} {g t q ab i d V X : Nat} {e : TypeId} (hrow : w.rowIs g e t (fun k => .int .u8 (dg V k : Nat))) (hV : V < 2 ^ (i * d)) (hX : X < 2 ^ d) (hd : d <= 8) (hq : i * d / 8 = q) (hab : i * d % 8 = ab) :
  ((w.setCell ⟨g, q, none⟩ (.int .u8 (bits .or .u8 (dg V q : Nat) (IntKind.u16.wrap ((X : Int) * 2 ^ ab) % 256)))).setCell ⟨g, q + 1, none⟩ (.int .u8 (bits .or .u8 (dg V (q + 1) : Nat) (IntKind.u16.wrap ((X : Int) * 2 ^ ab) / 256 % 256)))).rowIs g e t
   (fun k => .int .u8 (dg (V + 2 ^ (i * d) * X) k : Nat)) := by
 have hX8 : X < 256 := ar hX (Nat.pow_le_pow_right (by omega) hd);have h7 : ab <= 7 := by omega
 refine ((hrow.set q _).set (q + 1) _).congr fun k hk => ?_
 rw [yv (kQ _ _) hX8 h7, ae3 (kQ _ _) hX8 h7, adP hV hX hd hq hab]
 show (if k = q + 1 then _ else if k = q then _ else _) = _
 split
 ·rfl
 ·split <;> rfl
theorem wl {w : World} {g t q ab i d V X : Nat} {e : TypeId} (hrow : w.rowIs g e t (fun k => .int .u8 (dg V k : Nat))) (hV : V < 2 ^ (i * d)) (hX : X < 2 ^ d) (hd : d <= 8) (hs : ab + d <= 8) (hq : i * d / 8 = q) (hab : i * d % 8 = ab) :
  (w.setCell ⟨g, q, none⟩ (.int .u8 (bits .or .u8 (dg V q : Nat) (IntKind.u16.wrap ((X : Int) * 2 ^ ab) % 256)))).rowIs g e t
   (fun k => .int .u8 (dg (V + 2 ^ (i * d) * X) k : Nat)) := by
 have hX8 : X < 256 := ar hX (Nat.pow_le_pow_right (by omega) hd);refine (hrow.set q _).congr fun k hk => ?_
 rw [yv (kQ _ _) hX8 (by omega), v8 hV hX hs hq hab]
 show (if k = q then _ else _) = _
 split <;> rfl
theorem aes (A : Option Addr) (n c N d B : Nat) (l : List UInt8) (w : World) (HB : Hid (B = w.heap.size)) (hl : Rd w N A n l) (hN : N <= B) (hn : n <= 140737488351232) (h1 : 1 <= d) (h2 : d <= 8) (hall : narrow d l = true) :
  Calls prog 155 #[.slice A n c, .int .i64 d] w fun e w' => ∃ v, e = .returned (.tuple #[v, .int .i64 0]) /\ Own w' B v (cp 8 (bytesOf n d) (val d l)) /\ Below B w w' := by
 have HA := ae hall;clear hall;have hBle : B <= w.heap.size := Nat.le_of_eq HB;have htot : bytesOf n d <= 140737488355328 := by unfold bytesOf; have := Nat.mul_le_mul_left n h2; omega
 have hmk := run_make_row' (P := prog) 208 5 (.int .u8 0) 1 underlying208 vI rfl .i64 .i64 (bytesOf n d) (by omega) (by omega);go_enter func155, ntmps155;go_wp2_with (first | (go_at_call 166; refine (lW _ _ (by omega) (by omega)).mono ?_; rintro e w' ⟨rfl, rfl⟩))
 go_loop [18] (fun i => ∃ j : Nat, j <= n /\ i = .int .i64 j) (fun i => n - (intOf i).toNat)
 case atStart => exact ⟨0, Nat.zero_le _, rfl⟩
 case round =>
  obtain ⟨j, hj, rfl⟩ := hrel;by_cases hlt : j < n
  ·obtain ⟨bA, oA, rfl, hA, cA⟩ := hl.2 j hlt;have hlo := kK l j;have hhi := mV l j;go_wp2_with fail;refine (fits_int _ _ _ hlo (by omega) (by omega)).mono ?_;rintro e w' ⟨rfl, rfl⟩;rw [adu HA.out (by have := hl.1; omega)];go_wp2
   go_round
   case rel => exact ⟨j + 1, by omega, by go_num⟩
   case measure => simp [intOf]; omega
  ·have e : j = n := by omega
   subst e;go_wp2_with fail;refine (q7 _ _ _ h1 h2 (by omega)).mono ?_;rintro e w' ⟨rfl, rfl⟩;go_wp2;clear hmk;have hr0 := World.rowIs_made w (Value.int .u8 0) (bytesOf j d) 5;have hbl0 : Below B w (w.alloc (.cells (madeCells #[Value.int .u8 0] (bytesOf j d)) 5)) := ak.alloc hBle _;generalize w.heap.size = g at hr0 hBle ⊢
   go_loopw [35] (fun i wr => ∃ i' : Nat, i' <= j /\ i = .int .i64 i' /\ wr.rowIs g 5 (bytesOf j d) (fun k => .int .u8 (dg (val d (l.take i')) k : Nat)) /\ Below B w wr) (fun i _ => j - (intOf i).toNat)
   case atStart => exact ⟨0, Nat.zero_le _, rfl, hr0.congr fun k _ => by simp [val, dg], hbl0⟩
   case round =>
    clear hbl0 hr0;obtain ⟨i, hi, rfl, hrow, hbl⟩ := hrel;by_cases hlt : i < j
    ·go_wp2_with fail;refine (qZ _ _ _ h1 h2 (by omega)).mono ?_;rintro e w' ⟨rfl, rfl⟩;have hab : i * d % 8 <= 7 := by omega
     have hq1 : i * d / 8 < bytesOf j d := by
      unfold bytesOf;have h3 : (i + 1) * d <= j * d := Nat.mul_le_mul_right d hlt;rw [Nat.succ_mul] at h3;omega
     have hq2 : 8 < i * d % 8 + d -> i * d / 8 + 1 < bytesOf j d := by
      unfold bytesOf;have h3 : (i + 1) * d <= j * d := Nat.mul_le_mul_right d hlt;rw [Nat.succ_mul] at h3;omega
     generalize hq : i * d / 8 = q at *;generalize ha : i * d % 8 = ab at *;have HQ := ae hq;have HAB := ae ha;clear hq ha;obtain ⟨bA, oA, rfl, hA, cA⟩ := (hl.below (hbl.mono hN)).2 i hlt;have hlo := kK l i;have hhi := mV l i;have hc1 := hrow.cell hq1;have hf1 := hrow.frozen q;have hf2 := hrow.frozen (q + 1);generalize hV : val d (l.take i) = V at *;have HV := ae hV;clear hV;have hd1 := kQ V q;generalize hx : dg V q = x1 at *;have HX := ae hx;clear hx;by_cases hsp : 8 < ab + d
     ·have hq3 := hq2 hsp;have hc2 := hrow.cell hq3;have hd2 := kQ V (q + 1);generalize hx : dg V (q + 1) = x2 at *;have HX2 := ae hx;clear hx hq2;go_wp2_with fail;refine (n8 _ _ _ (by omega) h2 hsp).mono ?_;rintro e w' ⟨rfl, rfl⟩;go_wp2;go_roundw
      case rel =>
       refine ⟨i + 1, by omega, by go_num, ?_, (hbl.setCell hBle _).setCell hBle _⟩;have hl' : i < l.length := by have := hl.1; omega
       rw [kN hl', HV.out, <- HX.out, <- HX2.out, eK hl'];exact adt hrow (by rw [<- HV.out]; exact mU (gM HA.out) (by omega)) (gM HA.out _ (List.getElem_mem hl')) h2 HQ.out HAB.out
      case measure => simp [intOf]; omega
     ·clear hq2;go_wp2_with fail;refine (q9 _ _ _ (by omega) h2 hsp).mono ?_;rintro e w' ⟨rfl, rfl⟩;go_wp2;go_roundw
      case rel =>
       refine ⟨i + 1, by omega, by go_num, ?_, hbl.setCell hBle _⟩;have hl' : i < l.length := by have := hl.1; omega
       rw [kN hl', HV.out, <- HX.out, eK hl'];exact wl hrow (by rw [<- HV.out]; exact mU (gM HA) (by omega)) (gM HA _ (List.getElem_mem hl')) h2 (by omega) HQ HAB
      case measure => simp [intOf]; omega
    ·have e : i = j := by omega
     subst e;go_wp2;go_ret2;refine ⟨_, rfl, Own.vp (aS _ _ _) hBle hrow aj (by unfold maxLen; omega) ?_ ?_, hbl⟩
     ·intro k hk;have hk' : k < (cp 8 (bytesOf i d) (val d l)).length := by rw [aS]; exact hk
      rw [eK hk', jo (by omega) hk', List.take_of_length_le (by have := hl.1; omega)]
      rfl
     ·intro k;have := kQ (val d (l.take i)) k;omega
end Go.Proofs.YtlmdklakcmnaiaaGreatDoor
