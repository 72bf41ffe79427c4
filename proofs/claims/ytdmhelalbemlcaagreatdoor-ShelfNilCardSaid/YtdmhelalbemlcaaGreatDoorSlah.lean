import Derived.Test.YtdmhelalbemlcaaGreatDoorSlag
import Derived.Maps.OwnSet
namespace Go.Proofs.YtdmhelalbemlcaaGreatDoor
set_option maxHeartbeats 8000000
open Go.Proofs.Tryz
open Go.RowKit
set_option linter.unusedVariables false
set_option linter.unusedSimpArgs false
set_option maxRecDepth 100000
theorem lS (a N : Nat) (w : World) (ha : a < 256) (hN : 3 + a % 4 = N) : Calls prog 6 #[.int .u8 (a : Int)] w fun e w' => e = .returned (geo (neR N 8)) /\ Below w.heap.size w w' := by
 have HB1 : Hid (Below w.heap.size w (w.alloc (.cells ([.int .i64 (N : Int), .int .i64 8, .int .i64 40] : List Value).toArray 24))) := ae (ak.alloc aj _);have HR := ae (cP w [.int .i64 (N : Int), .int .i64 8, .int .i64 40] 24);have HRA : Hid ((a : Int).tmod 4 = ((a % 4 : Nat) : Int)) := ae rfl;have HCA : Hid (IntKind.i64.wrap ((a % 4 : Nat) : Int) = ((a % 4 : Nat) : Int)) := ae (eV (by omega));have HAA : Hid (IntKind.i64.wrap (3 + ((a % 4 : Nat) : Int)) = (N : Int)) := ae (by rw [eV (by omega)]; omega);clear ha hN;go_enter func6, ntmps6;go_upto_region 0 with fail;refine af ?_;refine aku (ed (cs := [.int .i64 0, .int .i64 0, .int .i64 0]) ahg rfl) ?_;refine ah ?_;go_upto_region 1 with fail;refine aI 1 ?_;refine aku (zy rfl akE evk (by decide) HRA) ?_;refine aku (acB rfl akE HCA) ?_;refine aku (bJ rfl evk akE HAA) ?_;refine aku (sR rfl akE evk evk) ?_;refine aG rfl (gZ (cs := [.int .i64 (N : Int), .int .i64 8, .int .i64 40]) (ds := [.int .i64 0, .int .i64 0, .int .i64 0]) (by kernel_rfl) rfl (by intro v hv; simp only [List.mem_cons, List.not_mem_nil, or_false] at hv; rcases hv with rfl | rfl | rfl <;> rfl) rfl (ev rfl) (ev rfl)) ?_;simp only [aa];refine ah ?_;go_wp2_with fail;exact bodyPost_ret (mg rfl _ _ _ rfl HR underlying24 rfl (by kernel_rfl)) rfl ⟨rfl, HB1⟩
def lp_ (n : Int) : dJ := ⟨n, 0, aD⟩
def ls0 : ShS := x6 3 8 2
def ls1 : ShS := nB ls0 1 [lp_ 0]
def ls2 : ShS := nB ls1 2 [lp_ 1]
def ls3 : ShS := nB ls2 3 [lp_ 2]
def ls4 : ShS := nB ls3 0 []
theorem lq1 : iB ls0 1 [lp_ 0] = 0 := by decide +kernel
theorem lq2 : iB ls1 2 [lp_ 1] = 0 := by decide +kernel
theorem lq3 : iB ls2 3 [lp_ 2] = 10 := by decide +kernel
theorem lq4 : iB ls3 0 [] = 2 := by decide +kernel
theorem ld4 : ls4.dw = [0, 1] := by decide +kernel
theorem lf4 : ls4.first = 1 := by decide +kernel
theorem le4 : shE ls4 0 = 0 := by decide +kernel
theorem lf5 : (iN ls4 0).first = 2 := by decide +kernel
theorem ai8 (w : World) : (Instr.build 56 #[]).run prog w = .ok (clV (cR (lp_ 0))) w := by kernel_rfl
theorem ajm (n : Int) (w : World) : (Instr.build 43 #[(0, .int .i64 n)]).run prog w = .ok (plV n 0) w := by kernel_rfl
theorem pW {ρ : Operand -> Value} {o : Oper} {x : Operand} {w : World} {n : Int} (ho : o.op = .build 43 #[(0, x)]) (hx : ρ x = .int .i64 n) : (execOp ρ o).run prog w = .ok (.value (plV n 0)) w := by
 unfold execOp;simp [ho, hx, ajm, Result.andThen]
theorem aiT (n : Int) (w : World) : (Instr.build 56 #[(0, plV n 0)]).run prog w = .ok (clV (cR (lp_ n))) w := by kernel_rfl
theorem o8 {ρ : Operand -> Value} {o : Oper} {x : Operand} {w : World} {n : Int} (ho : o.op = .build 56 #[(0, x)]) (hx : ρ x = plV n 0) : (execOp ρ o).run prog w = .ok (.value (clV (cR (lp_ n)))) w := by
 unfold execOp;simp [ho, hx, aiT, Result.andThen]
theorem ajk (w : World) : (Instr.buildSlice 48 2 #[(0, .int .i64 0), (1, .int .i64 1)]).run prog w = .ok (.slice (some ⟨w.heap.size, 0, none⟩) 2 2) (w.alloc (.cells #[.int .i64 0, .int .i64 1] 3)) := by kernel_rfl
theorem vN {ρ : Operand -> Value} {o : Oper} {x y : Operand} {w : World} (ho : o.op = .buildSlice 48 2 #[(0, x), (1, y)]) (hx : ρ x = .int .i64 0) (hy : ρ y = .int .i64 1) : (execOp ρ o).run prog w = .ok (.value (.slice (some ⟨w.heap.size, 0, none⟩) 2 2)) (w.alloc (.cells #[.int .i64 0, .int .i64 1] 3)) := by
 unfold execOp;simp only [ho, hx, hy, List.map_toArray, List.map_cons, List.map_nil, Sem.run_bind, ajk, Result.andThen_ok, Sem.run_pure]
def LvS (D : ShPr) (w0 : World) (t K : Nat) (s : ShS) (w : World) : Prop := ∃ S, D.P w S t K s /\ (∀ b, S b -> w0.heap.size <= b) /\ Below w0.heap.size w0 w
section
variable {D : ShPr} {w0 w w' : World} {t K Q : Nat} {s : ShS}
theorem LvS.bel (a : LvS D w0 t K s w) : Below w0.heap.size w0 w := by obtain ⟨S, h1, h2, h3⟩ := a; exact h3
theorem LvS.below (a : LvS D w0 t K s w) (k : Below w.heap.size w w') : LvS D w0 t K s w' := by
 obtain ⟨S, h1, h2, h3⟩ := a;exact ⟨S, D.below h1 k, h2, h3.trans (k.mono h3.size)⟩
theorem LvS.put (a : LvS D w0 t K s w) (pc : dJ) (hQ : Q < 18446744073709551616) (hK : K + 1 <= 1000000) : Calls prog 13 #[.pointer (some ⟨t, 0, none⟩), .int .u64 (Q : Int), .slice (some ⟨w.heap.size, 0, none⟩) 1 1] (w.alloc (.cells (cQ.cel (cR pc)).toArray cQ.t)) fun e w' => e = .returned (.int .i64 (iB s Q [pc])) /\ LvS D w0 t (K + 1) (nB s Q [pc]) w' := by
 obtain ⟨S, h1, h2, h3⟩ := a;have hb := (Below.refl w.heap.size w).alloc aj (.cells (cQ.cel (cR pc)).toArray cQ.t);have hsz : (w.alloc (.cells (cQ.cel (cR pc)).toArray cQ.t)).heap.size = w.heap.size + 1 := al;have hr : RdE cQ (w.alloc (.cells (cQ.cel (cR pc)).toArray cQ.t)) (w.alloc (.cells (cQ.cel (cR pc)).toArray cQ.t)).heap.size (some ⟨w.heap.size, 0, none⟩) 1 ([pc].map cR) := by rw [hsz]; exact abD w (cR pc)
 refine (D.put (D.below h1 hb) hQ hK hr rfl aj (by unfold maxLen; decide) (fun x e _ hs => ?_)).mono ?_
 ·injection e with e;subst e;have := D.lt h1 _ hs;simp at this
 ·rintro e w' ⟨k0, S', k1, k2, k3⟩;have h4 := h3.alloc h3.size (.cells (cQ.cel (cR pc)).toArray cQ.t);refine ⟨k0, S', k1, fun b hb => ?_, h4.trans (k2.below h2 h4.size)⟩;rcases k3 b hb with y | y
  ·exact h2 b y
  ·exact aq h4.size y
theorem LvS.akk (a : LvS D w0 t K s w) (hQ : Q < 18446744073709551616) (hK : K <= 1000000) : Calls prog 13 #[.pointer (some ⟨t, 0, none⟩), .int .u64 (Q : Int), .slice none 0 0] w fun e w' => e = .returned (.int .i64 (iB s Q [])) /\ LvS D w0 t K (nB s Q []) w' := by
 obtain ⟨S, h1, h2, h3⟩ := a;refine (D.put (nc := 0) (c := []) h1 hQ hK (RdE.nil _ _ _) rfl aj (Nat.zero_le _) (fun x e h hs => by omega)).mono ?_;rintro e w' ⟨k0, S', k1, k2, k3⟩;refine ⟨k0, S', k1, fun b hb => ?_, h3.trans (k2.below h2 h3.size)⟩;rcases k3 b hb with y | y
 ·exact h2 b y
 ·exact aq h3.size y
theorem LvS.clean (n : Int) (a : LvS D w0 t K s w) : Calls prog 19 #[.pointer (some ⟨t, 0, none⟩), .int .i64 n] w fun e w' => e = .returned (.int .i64 (shE s n)) /\ LvS D w0 t K (iN s n) w' := by
 obtain ⟨S, h1, h2, h3⟩ := a;refine (D.clean n h1).mono ?_;rintro e w' ⟨k0, S', k1, k2, k3⟩;refine ⟨k0, S', k1, fun b hb => ?_, h3.trans (k2.below h2 h3.size)⟩;rcases k3 b hb with y | y
 ·exact h2 b y
 ·exact aq h3.size y
theorem LvS.dw (a : LvS D w0 t K s w) : Calls prog 17 #[.pointer (some ⟨t, 0, none⟩)] w fun e w' => ∃ v, e = .returned v /\ aP bY w' w.heap.size v s.dw /\ Below w.heap.size w w' := by
 obtain ⟨S, h1, _⟩ := a; exact D.dw h1
theorem LvS.first (a : LvS D w0 t K s w) (hK : K <= 1000000) : Calls prog 23 #[.pointer (some ⟨t, 0, none⟩)] w fun e w' => e = .returned (.int .u64 (s.first : Int)) /\ Below w.heap.size w w' := by
 obtain ⟨S, h1, _⟩ := a; exact D.first h1 hK
end
theorem yD (D : ShPr) (w : World) : Calls prog 9 #[] w fun e w' => e = .returned (.bool true) /\ Below w.heap.size w w' := by
 go_enter func9, ntmps9;go_upto_region 1 with fail;refine af ?_;refine aw rfl (aA call6 rfl (evc evk evn)) ?_;refine (lS 0 3 w (by omega) rfl).mono ?_;rintro e w1 ⟨rfl, b1⟩;have B1 := ae b1;clear b1;refine aO ?_;refine aw rfl (aA call7 rfl (evc akE (evc evk evn))) ?_;refine (D.new_ok (N := 3) (T := 8) (room := 2) (r := 40) w1 (by decide) (by omega) (by omega)).mono ?_;rintro e w2 ⟨t, S, rfl, p2, b2, s2⟩;have HL0 : Hid (LvS D w t 0 ls0 w2) := ae ⟨S, p2, fun b hb => aq B1.out.size (s2 b hb), B1.out.trans (b2.mono B1.out.size)⟩;clear p2 b2 s2;refine aO ?_;refine runs 3 ?_;refine aH 2 ?_;go_upto_region 2 with fail;refine aI 1 ?_;refine aku (aL false rfl akE evk rfl) ?_;refine runs 2 ?_;refine akB (cI false underlying26 rfl akE evk rfl) ?_;refine aH 1 ?_;go_upto_region 4 with fail;refine aI 1 ?_;refine aku (jb rfl (ai8 _)) ?_;refine aku (du (E := cQ) (a := cR (lp_ 0)) rfl akE rfl (by decide)) ?_;refine aw rfl (aA call13 rfl (evc akE (evc evk (evc akE evn)))) ?_;refine (HL0.out.put (Q := 1) (lp_ 0) (by omega) (by omega)).mono ?_;rintro e w3 ⟨rfl, h⟩;rw [show iB ls0 1 [lp_ 0] = 0 from lq1];have HL1 : Hid (LvS D w t 1 ls1 w3) := ae h;clear h;refine aO ?_;refine aH 1 ?_;go_upto_region 5 with fail;refine aI 1 ?_;refine aku (pW (n := 1) rfl evk) ?_;refine aku (o8 (n := 1) rfl akE) ?_;refine aku (du (E := cQ) (a := cR (lp_ 1)) rfl akE rfl (by decide)) ?_;refine aw rfl (aA call13 rfl (evc akE (evc evk (evc akE evn)))) ?_;refine (HL1.out.put (Q := 2) (lp_ 1) (by omega) (by omega)).mono ?_;rintro e w4 ⟨rfl, h⟩;rw [lq2];have HL2 : Hid (LvS D w t 2 ls2 w4) := ae h;clear h;refine aO ?_;refine aH 1 ?_;go_upto_region 6 with fail;refine aI 1 ?_;refine aku (pW (n := 2) rfl evk) ?_;refine aku (o8 (n := 2) rfl akE) ?_;refine aku (du (E := cQ) (a := cR (lp_ 2)) rfl akE rfl (by decide)) ?_;refine aw rfl (aA call13 rfl (evc akE (evc evk (evc akE evn)))) ?_;refine (HL2.out.put (Q := 3) (lp_ 2) (by omega) (by omega)).mono ?_;rintro e w5 ⟨rfl, h⟩;rw [lq3];have HL3 : Hid (LvS D w t 3 ls3 w5) := ae h;clear h;refine aO ?_;refine aH 1 ?_;go_upto_region 7 with fail;refine aI 1 ?_;refine aw rfl (aA call13 rfl (evc akE (evc evk (evc evk evn)))) ?_;refine (HL3.out.akk (Q := 0) (by omega) (by omega)).mono ?_;rintro e w6 ⟨rfl, h⟩;rw [lq4];have HL4 : Hid (LvS D w t 3 ls4 w6) := ae h;clear h;refine aO ?_;refine aku (aF true rfl akE evk rfl) ?_;refine runs 2 ?_;refine akB (aF true rfl akE evk rfl) ?_;refine runs 3 ?_;refine akB (aF true rfl akE evk rfl) ?_;refine runs 3 ?_;refine akB (aF true rfl akE evk rfl) ?_;refine runs 3 ?_;refine aw akp (aA call17 rfl (evc akE evn)) ?_;refine HL4.out.dw.mono ?_;rintro e w7 ⟨v7, rfl, hm7, b7⟩;rw [ld4] at hm7;obtain ⟨A7, c7, rfl, h71, h72⟩ := hm7.form;have HR := ae hm7.rd;have HL7 := ae (HL4.out.below b7);clear hm7 b7 h71 h72;refine aO ?_;refine akB (vN rfl evk evk) ?_;refine aw akp (aA call16 rfl (evc akE (evc akE evn))) ?_;refine (abm _ _ _ _ _ _ (w7.heap.size + 1) [0, 1] [0, 1] _ (HR.out.up _) (fg (E := bY) (l := [0, 1]) w7 #[.int .i64 0, .int .i64 1] 3 rfl) (by rw [World.size_alloc]; exact aj) (by unfold maxLen; decide)).mono ?_;rintro e w8 ⟨rfl, b8⟩;have hb8 := ((Below.refl w7.heap.size w7).alloc aj (.cells #[.int .i64 0, .int .i64 1] 3)).trans (b8.mono (by rw [World.size_alloc]; omega));have HL8 := ae (HL7.out.below hb8);clear b8 hb8;rw [show nt [0, 1] [0, 1] = true from rfl];refine aO ?_;refine runs 3 ?_;refine aw akp (aA call23 rfl (evc akE evn)) ?_;refine (HL8.out.first (by omega)).mono ?_;rintro e w9 ⟨rfl, b9⟩;rw [lf4];have HL9 := ae (HL8.out.below b9);clear b9;refine aO ?_;refine akB (aF true rfl akE evk rfl) ?_;refine runs 3 ?_;refine aw akp (aA call19 rfl (evc akE (evc evk evn))) ?_;refine (HL9.out.clean 0).mono ?_;rintro e w10 ⟨rfl, h⟩;rw [le4];have HL10 := ae h;clear h;refine aO ?_;refine akB (aF true rfl akE evk rfl) ?_;refine runs 3 ?_;refine aw akp (aA call23 rfl (evc akE evn)) ?_;refine (HL10.out.first (by omega)).mono ?_;rintro e w11 ⟨rfl, b11⟩;rw [lf5];have HL11 := ae (HL10.out.below b11);clear b11;refine aO ?_;refine akB (aF true rfl akE evk rfl) ?_;refine aH 2 ?_;go_wp2_with fail;go_ret;exact ⟨rfl, HL11.out.bel⟩
structure ahy (C : iV) where
 cell : ∀ {w G q p h} (s m : Int), C.J w G q p h -> CrG w G -> ae1 h s m -> Calls prog 60 #[.pointer (some ⟨p, 0, none⟩), .agg #[.int .i64 s, .int .i64 m]] w fun e w' => e = .returned (.tuple #[blk (ju h s m).2.1, .int .i64 (ju h s m).1]) /\ ∃ G', C.J w' G' q p (ju h s m).2.2 /\ Only G w w' /\ Grow w G G'
 no_cell : ∀ (w : World) (v : Value) (s m : Int), C.No w v -> Calls prog 60 #[v, .agg #[.int .i64 s, .int .i64 m]] w fun e w' => (∃ b : Blk, e = .returned (.tuple #[blk b, .int .i64 1])) /\ Below w.heap.size w w'
theorem abU {a c n : Nat} (ha : a <= 16) (hc : c <= 16) (hn : a + c = n) : IntKind.i64.wrap ((a : Int) + (c : Int)) = (n : Int) := by
 rw [IntWalk.i64_in _ (by omega)];omega
theorem abu {x : Ros} (hf : a7 x = false) (w : World) : Calls prog 197 #[ros x] w fun e w' => e = .returned (.int .i64 0) /\ Below w.heap.size w w' := by
 have HT1 := ae (iX.new w x);have HF := ae hf;clear hf;go_enter func197, ntmps197;go_upto_region 1 with (first | (refine av rfl (bg rfl rfl) ?_) | fail);generalize w.alloc (.cells (aX x).toArray 86) = w1 at *;refine af ?_;refine aku (aY rfl akE (HT1.out.at0)) ?_;refine aw rfl (aA call76 rfl (evc akE evn)) ?_;refine (dR w1 HF).mono ?_;rintro e w2 ⟨rfl, hb⟩;have HT2 := ae (HT1.out.call hb);clear hb HT1;refine aO ?_;refine aH 1 ?_;go_upto_region 2 with fail;refine co 1 ?_;go_wp2_with fail;go_ret;exact ⟨rfl, HT2.out.bel⟩
theorem zP {x : Ros} {a c n : Nat} (hf : a7 x = true) (ha : many x 1 = a) (hc : many x 2 = c) (hn : IntKind.i64.wrap ((a : Int) + (c : Int)) = (n : Int)) (hg : decide ((2 : Int) <= (n : Int)) = true) (w : World) : Calls prog 197 #[ros x] w fun e w' => e = .returned (.int .i64 5) /\ Below w.heap.size w w' := by
 have HT1 := ae (iX.new w x);have HF := ae hf;have HA := ae ha;have HC := ae hc;have HN := ae hn;have HG := ae hg;clear hf ha hc hn hg;go_enter func197, ntmps197;go_upto_region 1 with (first | (refine av rfl (bg rfl rfl) ?_) | fail);generalize w.alloc (.cells (aX x).toArray 86) = w1 at *;refine af ?_;refine aku (aY rfl akE (HT1.out.at0)) ?_;refine aw rfl (aA call76 rfl (evc akE evn)) ?_;refine (dR w1 HF).mono ?_;rintro e w2 ⟨rfl, hb⟩;have HT2 := ae (HT1.out.call hb);clear hb HT1;refine aO ?_;refine aH 1 ?_;go_upto_region 3 with fail;refine aR (B := w2.heap.size) (by kernel_rfl) ?_;refine akC (fun _ hw => aY rfl akE (HT2.out.above hw)) ?_;refine bW rfl (fun _ => aA call178 rfl (evc akE (evc evk evn))) (bH aj fun w' hw => fv w' HA) ?_;simp only [aa];refine akC (fun _ hw => aY rfl akE (HT2.out.above hw)) ?_;refine bW rfl (fun _ => aA call178 rfl (evc akE (evc evk evn))) (bH aj fun w' hw => fv w' HC) ?_;simp only [aa];refine cE 2 ?_;refine wpQuiet_nil ?_;intro w3 hw;have HT3 := ae (HT2.out.call hw);clear hw HT2;go_upto_region 4 with fail;refine aI 2 ?_;refine aku (bJ rfl akE akE HN) ?_;refine aH 1 ?_;go_upto_region 5 with fail;refine aI 1 ?_;refine aku (dC true rfl akE evk HG) ?_;refine aH 1 ?_;go_upto_region 7 with fail;refine co 1 ?_;go_wp2_with fail;go_ret;exact ⟨rfl, HT3.out.bel⟩
theorem yW {x : Ros} {a c n : Nat} (hf : a7 x = true) (ha : many x 1 = a) (hc : many x 2 = c) (hn : IntKind.i64.wrap ((a : Int) + (c : Int)) = (n : Int)) (hg : decide ((2 : Int) <= (n : Int)) = false) (h1 : ((n : Int) == 1) = true) (ho : x.gone = true) (w : World) : Calls prog 197 #[ros x] w fun e w' => e = .returned (.int .i64 5) /\ Below w.heap.size w w' := by
 have HT1 := ae (iX.new w x);have HF := ae hf;have HA := ae ha;have HC := ae hc;have HN := ae hn;have HG := ae hg;have H1 := ae h1;have HO := ae ho;clear hf ha hc hn hg h1 ho;go_enter func197, ntmps197;go_upto_region 1 with (first | (refine av rfl (bg rfl rfl) ?_) | fail);generalize w.alloc (.cells (aX x).toArray 86) = w1 at *;refine af ?_;refine aku (aY rfl akE (HT1.out.at0)) ?_;refine aw rfl (aA call76 rfl (evc akE evn)) ?_;refine (dR w1 HF).mono ?_;rintro e w2 ⟨rfl, hb⟩;have HT2 := ae (HT1.out.call hb);clear hb HT1;refine aO ?_;refine aH 1 ?_;go_upto_region 3 with fail;refine aR (B := w2.heap.size) (by kernel_rfl) ?_;refine akC (fun _ hw => aY rfl akE (HT2.out.above hw)) ?_;refine bW rfl (fun _ => aA call178 rfl (evc akE (evc evk evn))) (bH aj fun w' hw => fv w' HA) ?_;simp only [aa];refine akC (fun _ hw => aY rfl akE (HT2.out.above hw)) ?_;refine bW rfl (fun _ => aA call178 rfl (evc akE (evc evk evn))) (bH aj fun w' hw => fv w' HC) ?_;simp only [aa];refine cE 2 ?_;refine wpQuiet_nil ?_;intro w3 hw;have HT3 := ae (HT2.out.call hw);clear hw HT2;go_upto_region 4 with fail;refine aI 2 ?_;refine aku (bJ rfl akE akE HN) ?_;refine aH 1 ?_;go_upto_region 5 with fail;refine aI 1 ?_;refine aku (dC false rfl akE evk HG) ?_;refine aH 1 ?_;go_upto_region 6 with fail;refine aI 1 ?_;refine aku (aF true rfl akE evk H1) ?_;refine runs 1 ?_;refine akB (ax rfl akE wy) ?_;refine akB (aC rfl akE (vV (HO.out ▸ HT3.out.at0.cells.2.2.2.2))) ?_;refine aH 2 ?_;go_upto_region 7 with fail;refine co 1 ?_;go_wp2_with fail;go_ret;exact ⟨rfl, HT3.out.bel⟩
theorem ach {x : Ros} {a c n : Nat} (hf : a7 x = true) (ha : many x 1 = a) (hc : many x 2 = c) (hn : IntKind.i64.wrap ((a : Int) + (c : Int)) = (n : Int)) (hg : decide ((2 : Int) <= (n : Int)) = false) (h1 : ((n : Int) == 1) = false) (ho : x.gone = true) (w : World) : Calls prog 197 #[ros x] w fun e w' => e = .returned (.int .i64 4) /\ Below w.heap.size w w' := by
 have HT1 := ae (iX.new w x);have HF := ae hf;have HA := ae ha;have HC := ae hc;have HN := ae hn;have HG := ae hg;have H1 := ae h1;have HO := ae ho;clear hf ha hc hn hg h1 ho;go_enter func197, ntmps197;go_upto_region 1 with (first | (refine av rfl (bg rfl rfl) ?_) | fail);generalize w.alloc (.cells (aX x).toArray 86) = w1 at *;refine af ?_;refine aku (aY rfl akE (HT1.out.at0)) ?_;refine aw rfl (aA call76 rfl (evc akE evn)) ?_;refine (dR w1 HF).mono ?_;rintro e w2 ⟨rfl, hb⟩;have HT2 := ae (HT1.out.call hb);clear hb HT1;refine aO ?_;refine aH 1 ?_;go_upto_region 3 with fail;refine aR (B := w2.heap.size) (by kernel_rfl) ?_;refine akC (fun _ hw => aY rfl akE (HT2.out.above hw)) ?_;refine bW rfl (fun _ => aA call178 rfl (evc akE (evc evk evn))) (bH aj fun w' hw => fv w' HA) ?_;simp only [aa];refine akC (fun _ hw => aY rfl akE (HT2.out.above hw)) ?_;refine bW rfl (fun _ => aA call178 rfl (evc akE (evc evk evn))) (bH aj fun w' hw => fv w' HC) ?_;simp only [aa];refine cE 2 ?_;refine wpQuiet_nil ?_;intro w3 hw;have HT3 := ae (HT2.out.call hw);clear hw HT2;go_upto_region 4 with fail;refine aI 2 ?_;refine aku (bJ rfl akE akE HN) ?_;refine aH 1 ?_;go_upto_region 5 with fail;refine aI 1 ?_;refine aku (dC false rfl akE evk HG) ?_;refine aH 1 ?_;go_upto_region 6 with fail;refine aI 1 ?_;refine aku (aF false rfl akE evk H1) ?_;refine bj 2 rfl (aM rfl akE) (by kernel_rfl) ?_;simp only [bQ, ac, aa];refine aH 2 ?_;go_upto_region 8 with fail;refine af ?_;refine aku (ax rfl akE wy) ?_;refine aku (aC rfl akE (vV (HO.out ▸ HT3.out.at0.cells.2.2.2.2))) ?_;refine aH 1 ?_;go_upto_region 9 with fail;refine co 1 ?_;go_wp2_with fail;go_ret;exact ⟨rfl, HT3.out.bel⟩
theorem aaS {x : Ros} {a c n : Nat} (hf : a7 x = true) (ha : many x 1 = a) (hc : many x 2 = c) (hn : IntKind.i64.wrap ((a : Int) + (c : Int)) = (n : Int)) (hg : decide ((2 : Int) <= (n : Int)) = false) (h1 : ((n : Int) == 1) = true) (ho : x.gone = false) (h2 : ((c : Int) == 1) = true) (w : World) : Calls prog 197 #[ros x] w fun e w' => e = .returned (.int .i64 3) /\ Below w.heap.size w w' := by
 have HT1 := ae (iX.new w x);have HF := ae hf;have HA := ae ha;have HC := ae hc;have HN := ae hn;have HG := ae hg;have H1 := ae h1;have HO := ae ho;have H2 := ae h2;clear hf ha hc hn hg h1 ho h2;go_enter func197, ntmps197;go_upto_region 1 with (first | (refine av rfl (bg rfl rfl) ?_) | fail);generalize w.alloc (.cells (aX x).toArray 86) = w1 at *;refine af ?_;refine aku (aY rfl akE (HT1.out.at0)) ?_;refine aw rfl (aA call76 rfl (evc akE evn)) ?_;refine (dR w1 HF).mono ?_;rintro e w2 ⟨rfl, hb⟩;have HT2 := ae (HT1.out.call hb);clear hb HT1;refine aO ?_;refine aH 1 ?_;go_upto_region 3 with fail;refine aR (B := w2.heap.size) (by kernel_rfl) ?_;refine akC (fun _ hw => aY rfl akE (HT2.out.above hw)) ?_;refine bW rfl (fun _ => aA call178 rfl (evc akE (evc evk evn))) (bH aj fun w' hw => fv w' HA) ?_;simp only [aa];refine akC (fun _ hw => aY rfl akE (HT2.out.above hw)) ?_;refine bW rfl (fun _ => aA call178 rfl (evc akE (evc evk evn))) (bH aj fun w' hw => fv w' HC) ?_;simp only [aa];refine cE 2 ?_;refine wpQuiet_nil ?_;intro w3 hw;have HT3 := ae (HT2.out.call hw);clear hw HT2;go_upto_region 4 with fail;refine aI 2 ?_;refine aku (bJ rfl akE akE HN) ?_;refine aH 1 ?_;go_upto_region 5 with fail;refine aI 1 ?_;refine aku (dC false rfl akE evk HG) ?_;refine aH 1 ?_;go_upto_region 6 with fail;refine aI 1 ?_;refine aku (aF true rfl akE evk H1) ?_;refine runs 1 ?_;refine akB (ax rfl akE wy) ?_;refine akB (aC rfl akE (vV (HO.out ▸ HT3.out.at0.cells.2.2.2.2))) ?_;refine aH 2 ?_;go_upto_region 8 with fail;refine af ?_;refine aku (ax rfl akE wy) ?_;refine aku (aC rfl akE (vV (HO.out ▸ HT3.out.at0.cells.2.2.2.2))) ?_;refine aH 1 ?_;go_upto_region 10 with fail;refine aI 1 ?_;refine aku (aF true rfl akE evk H2) ?_;refine aH 1 ?_;go_upto_region 11 with fail;refine co 1 ?_;go_wp2_with fail;go_ret;exact ⟨rfl, HT3.out.bel⟩
theorem zX {x : Ros} {a c n : Nat} (hf : a7 x = true) (ha : many x 1 = a) (hc : many x 2 = c) (hn : IntKind.i64.wrap ((a : Int) + (c : Int)) = (n : Int)) (hg : decide ((2 : Int) <= (n : Int)) = false) (h1 : ((n : Int) == 1) = true) (ho : x.gone = false) (h2 : ((c : Int) == 1) = false) (h3 : ((a : Int) == 1) = true) (w : World) : Calls prog 197 #[ros x] w fun e w' => e = .returned (.int .i64 2) /\ Below w.heap.size w w' := by
 have HT1 := ae (iX.new w x);have HF := ae hf;have HA := ae ha;have HC := ae hc;have HN := ae hn;have HG := ae hg;have H1 := ae h1;have HO := ae ho;have H2 := ae h2;have H3 := ae h3;clear hf ha hc hn hg h1 ho h2 h3;go_enter func197, ntmps197;go_upto_region 1 with (first | (refine av rfl (bg rfl rfl) ?_) | fail);generalize w.alloc (.cells (aX x).toArray 86) = w1 at *;refine af ?_;refine aku (aY rfl akE (HT1.out.at0)) ?_;refine aw rfl (aA call76 rfl (evc akE evn)) ?_;refine (dR w1 HF).mono ?_;rintro e w2 ⟨rfl, hb⟩;have HT2 := ae (HT1.out.call hb);clear hb HT1;refine aO ?_;refine aH 1 ?_;go_upto_region 3 with fail;refine aR (B := w2.heap.size) (by kernel_rfl) ?_;refine akC (fun _ hw => aY rfl akE (HT2.out.above hw)) ?_;refine bW rfl (fun _ => aA call178 rfl (evc akE (evc evk evn))) (bH aj fun w' hw => fv w' HA) ?_;simp only [aa];refine akC (fun _ hw => aY rfl akE (HT2.out.above hw)) ?_;refine bW rfl (fun _ => aA call178 rfl (evc akE (evc evk evn))) (bH aj fun w' hw => fv w' HC) ?_;simp only [aa];refine cE 2 ?_;refine wpQuiet_nil ?_;intro w3 hw;have HT3 := ae (HT2.out.call hw);clear hw HT2;go_upto_region 4 with fail;refine aI 2 ?_;refine aku (bJ rfl akE akE HN) ?_;refine aH 1 ?_;go_upto_region 5 with fail;refine aI 1 ?_;refine aku (dC false rfl akE evk HG) ?_;refine aH 1 ?_;go_upto_region 6 with fail;refine aI 1 ?_;refine aku (aF true rfl akE evk H1) ?_;refine runs 1 ?_;refine akB (ax rfl akE wy) ?_;refine akB (aC rfl akE (vV (HO.out ▸ HT3.out.at0.cells.2.2.2.2))) ?_;refine aH 2 ?_;go_upto_region 8 with fail;refine af ?_;refine aku (ax rfl akE wy) ?_;refine aku (aC rfl akE (vV (HO.out ▸ HT3.out.at0.cells.2.2.2.2))) ?_;refine aH 1 ?_;go_upto_region 10 with fail;refine aI 1 ?_;refine aku (aF false rfl akE evk H2) ?_;refine aH 1 ?_;go_upto_region 12 with fail;refine aI 1 ?_;refine aku (aF true rfl akE evk H3) ?_;refine aH 1 ?_;go_upto_region 13 with fail;refine co 1 ?_;go_wp2_with fail;go_ret;exact ⟨rfl, HT3.out.bel⟩
theorem aaG {x : Ros} {a c n : Nat} (hf : a7 x = true) (ha : many x 1 = a) (hc : many x 2 = c) (hn : IntKind.i64.wrap ((a : Int) + (c : Int)) = (n : Int)) (hg : decide ((2 : Int) <= (n : Int)) = false) (h1 : ((n : Int) == 1) = false) (ho : x.gone = false) (h2 : ((c : Int) == 1) = false) (h3 : ((a : Int) == 1) = false) (w : World) : Calls prog 197 #[ros x] w fun e w' => e = .returned (.int .i64 1) /\ Below w.heap.size w w' := by
 have HT1 := ae (iX.new w x);have HF := ae hf;have HA := ae ha;have HC := ae hc;have HN := ae hn;have HG := ae hg;have H1 := ae h1;have HO := ae ho;have H2 := ae h2;have H3 := ae h3;clear hf ha hc hn hg h1 ho h2 h3;go_enter func197, ntmps197;go_upto_region 1 with (first | (refine av rfl (bg rfl rfl) ?_) | fail);generalize w.alloc (.cells (aX x).toArray 86) = w1 at *;refine af ?_;refine aku (aY rfl akE (HT1.out.at0)) ?_;refine aw rfl (aA call76 rfl (evc akE evn)) ?_;refine (dR w1 HF).mono ?_;rintro e w2 ⟨rfl, hb⟩;have HT2 := ae (HT1.out.call hb);clear hb HT1;refine aO ?_;refine aH 1 ?_;go_upto_region 3 with fail;refine aR (B := w2.heap.size) (by kernel_rfl) ?_;refine akC (fun _ hw => aY rfl akE (HT2.out.above hw)) ?_;refine bW rfl (fun _ => aA call178 rfl (evc akE (evc evk evn))) (bH aj fun w' hw => fv w' HA) ?_;simp only [aa];refine akC (fun _ hw => aY rfl akE (HT2.out.above hw)) ?_;refine bW rfl (fun _ => aA call178 rfl (evc akE (evc evk evn))) (bH aj fun w' hw => fv w' HC) ?_;simp only [aa];refine cE 2 ?_;refine wpQuiet_nil ?_;intro w3 hw;have HT3 := ae (HT2.out.call hw);clear hw HT2;go_upto_region 4 with fail;refine aI 2 ?_;refine aku (bJ rfl akE akE HN) ?_;refine aH 1 ?_;go_upto_region 5 with fail;refine aI 1 ?_;refine aku (dC false rfl akE evk HG) ?_;refine aH 1 ?_;go_upto_region 6 with fail;refine aI 1 ?_;refine aku (aF false rfl akE evk H1) ?_;refine bj 2 rfl (aM rfl akE) (by kernel_rfl) ?_;simp only [bQ, ac, aa];refine aH 2 ?_;go_upto_region 8 with fail;refine af ?_;refine aku (ax rfl akE wy) ?_;refine aku (aC rfl akE (vV (HO.out ▸ HT3.out.at0.cells.2.2.2.2))) ?_;refine aH 1 ?_;go_upto_region 10 with fail;refine aI 1 ?_;refine aku (aF false rfl akE evk H2) ?_;refine aH 1 ?_;go_upto_region 12 with fail;refine aI 1 ?_;refine aku (aF false rfl akE evk H3) ?_;refine aH 1 ?_;go_upto_region 14 with fail;refine co 1 ?_;go_wp2_with fail;go_ret;exact ⟨rfl, HT3.out.bel⟩
theorem abq {x : Ros} (hf : a7 x = true) : stN x = if 2 <= outs x \/ (outs x = 1 /\ x.gone = true) then 5 else if x.gone = true then 4 else if dF x = 1 then 3 else if outs x = 1 then 2 else 1 := by unfold stN; rw [if_pos hf]
theorem ahm (x : Ros) (w : World) : Calls prog 197 #[ros x] w fun e w' => e = .returned (.int .i64 (stN x : Nat)) /\ Below w.heap.size w w' := by
 cases hf : a7 x
 ·rw [show stN x = 0 from by unfold stN; rw [hf]; rfl]; exact abu hf w
 have hn := abU (nP x 1) (nP x 2) (ra (eF hf).2.1).symm;have ho := ra (eF hf).2.1;have hh := io x;have hm := nP x 1;have hm2 := nP x 2;rw [abq hf];by_cases c1 : 2 <= outs x
 ·rw [if_pos (.inl c1)]; exact zP hf rfl rfl hn (ao (by omega)) w
 have hg : decide ((2 : Int) <= (outs x : Int)) = false := am (by omega);cases hgo : x.gone
 ·rw [if_neg (by rintro (h | ⟨_, h⟩); exact c1 h; cases h), if_neg (by decide), hh];by_cases n1 : outs x = 1
  ·have e1 : ((outs x : Int) == 1) = true := by rw [n1]; rfl
   by_cases k1 : many x 2 = 1
   ·rw [if_pos k1]; exact aaS hf rfl rfl hn hg e1 hgo (by rw [k1]; rfl) w
   ·rw [if_neg k1, if_pos n1]; exact zX hf rfl rfl hn hg e1 hgo (by simp; omega) (by simp; omega) w
  ·have e1 : ((outs x : Int) == 1) = false := by simp; omega
   rw [if_neg (by omega), if_neg n1]; exact aaG hf rfl rfl hn hg e1 hgo (by simp; omega) (by simp; omega) w
 ·by_cases n1 : outs x = 1
  ·rw [if_pos (.inr ⟨n1, rfl⟩)]; exact yW hf rfl rfl hn hg (by rw [n1]; rfl) hgo w
  ·rw [if_neg (by omega), if_pos rfl]; exact ach hf rfl rfl hn hg (by simp; omega) hgo w
theorem tu {x : Ros} {n : Nat} (w : World) (h : stN x = n) : Calls prog 197 #[ros x] w fun e w' => e = .returned (.int .i64 (n : Nat)) /\ Below w.heap.size w w' := by subst h; exact ahm x w
section
variable (x : Ros) {j : Nat} (hj : j < 16)
include hj
theorem re : (aX x).set (3 + j) (.int .u8 1) = aX (gG x j 1) := adR x hj 1
end
theorem yJ {y : Ros} {b : Bool} (w : World) (h : a7 y = b) : Calls prog 74 #[ros y] w fun e w' => e = .returned (.bool b) /\ Below w.heap.size w w' := by subst h; exact agq y w
theorem afp {x : Ros} {m : Int} (hf : a7 x = false) (w : World) : Calls prog 198 #[ros x, .int .i64 m] w fun e w' => e = .returned (.tuple #[ros (x), .bool false]) /\ Below w.heap.size w w' := by
 have HT1 := ae (lh.new w x);have HF := ae hf;clear hf;go_enter func198, ntmps198;go_upto_region 1 with (first | (refine av rfl (bg rfl rfl) ?_) | (refine av rfl (cW rfl) ?_) | fail);generalize (w.alloc (.cells (aX x).toArray 86)).alloc (.cells (aX bP).toArray 86) = w1 at *;refine af ?_;refine aku (aY rfl akE (HT1.out.at0)) ?_;refine aw rfl (aA call76 rfl (evc akE evn)) ?_;refine (dR w1 HF).mono ?_;rintro e w2 ⟨rfl, hb⟩;have HT2 := ae (HT1.out.call hb);clear hb HT1;refine aO ?_;refine runs 1 ?_;refine bj 4 rfl (aM rfl akE) (by kernel_rfl) ?_;simp only [bQ, ac, aa];refine aH 1 ?_;go_upto_region 2 with fail;refine af ?_;refine aku (aY rfl akE (HT2.out.at0)) ?_;refine aG rfl (dV rfl (ev rfl) (ev rfl) HT2.out.at1) ?_;simp only [aa];have HT3 := ae (HT2.out.put (x));generalize i1 w2 (w.heap.size + 1) (x) = w3 at HT3 ⊢;clear HT2;refine aH 1 ?_;go_wp2_with fail;exact bodyPost_ret (ly rfl _ _ _ rfl HT3.out.at1) rfl ⟨rfl, HT3.out.bel⟩
theorem aeh {x : Ros} {m : Int} (hf : a7 x = true) (hq : fj x m = false) (w : World) : Calls prog 198 #[ros x, .int .i64 m] w fun e w' => e = .returned (.tuple #[ros (x), .bool false]) /\ Below w.heap.size w w' := by
 have HT1 := ae (lh.new w x);have HF := ae hf;have HQ := ae hq;clear hf hq;go_enter func198, ntmps198;go_upto_region 1 with (first | (refine av rfl (bg rfl rfl) ?_) | (refine av rfl (cW rfl) ?_) | fail);generalize (w.alloc (.cells (aX x).toArray 86)).alloc (.cells (aX bP).toArray 86) = w1 at *;refine af ?_;refine aku (aY rfl akE (HT1.out.at0)) ?_;refine aw rfl (aA call76 rfl (evc akE evn)) ?_;refine (dR w1 HF).mono ?_;rintro e w2 ⟨rfl, hb⟩;have HT2 := ae (HT1.out.call hb);clear hb HT1;refine aO ?_;refine runs 2 ?_;refine akB (aY rfl akE (HT2.out.at0)) ?_;refine runs 1 ?_;refine aw akp (aA call177 rfl (evc akE (evc akE evn))) ?_;refine (eL w2 HQ).mono ?_;rintro e w3 ⟨rfl, hb⟩;have HT3 := ae (HT2.out.call hb);clear hb HT2;refine aO ?_;refine aH 2 ?_;go_upto_region 2 with fail;refine af ?_;refine aku (aY rfl akE (HT3.out.at0)) ?_;refine aG rfl (dV rfl (ev rfl) (ev rfl) HT3.out.at1) ?_;simp only [aa];have HT4 := ae (HT3.out.put (x));generalize i1 w3 (w.heap.size + 1) (x) = w4 at HT4 ⊢;clear HT3;refine aH 1 ?_;go_wp2_with fail;exact bodyPost_ret (ly rfl _ _ _ rfl HT4.out.at1) rfl ⟨rfl, HT4.out.bel⟩
theorem ae4 {x : Ros} {j : Nat} (hj : j < 16) (hf : a7 x = true) (hq : fj x (j : Int) = true) (h1 : (sta x j == 1) = true) (w : World) : Calls prog 198 #[ros x, .int .i64 (j : Int)] w fun e w' => e = .returned (.tuple #[ros (x), .bool false]) /\ Below w.heap.size w w' := by
 have HT1 := ae (lh.new w x);have HF := ae hf;have HQ := ae hq;have H1 := ae h1;clear hf hq h1;go_enter func198, ntmps198;go_upto_region 1 with (first | (refine av rfl (bg rfl rfl) ?_) | (refine av rfl (cW rfl) ?_) | fail);generalize (w.alloc (.cells (aX x).toArray 86)).alloc (.cells (aX bP).toArray 86) = w1 at *;refine af ?_;refine aku (aY rfl akE (HT1.out.at0)) ?_;refine aw rfl (aA call76 rfl (evc akE evn)) ?_;refine (dR w1 HF).mono ?_;rintro e w2 ⟨rfl, hb⟩;have HT2 := ae (HT1.out.call hb);clear hb HT1;refine aO ?_;refine runs 2 ?_;refine akB (aY rfl akE (HT2.out.at0)) ?_;refine runs 1 ?_;refine aw akp (aA call177 rfl (evc akE (evc akE evn))) ?_;refine (eL w2 HQ).mono ?_;rintro e w3 ⟨rfl, hb⟩;have HT3 := ae (HT2.out.call hb);clear hb HT2;refine aO ?_;refine aH 2 ?_;go_upto_region 3 with fail;refine aI 1 ?_;refine aku (ax rfl akE nI) ?_;refine aku (cH rfl akE akE (qj hj)) ?_;refine aku (aC rfl akE (qt ((HT3.out.at0).sta hj))) ?_;refine ah ?_;go_upto_region 4 with fail;refine af ?_;refine aku (aF true rfl akE evk H1) ?_;refine aH 1 ?_;go_upto_region 5 with fail;refine af ?_;refine aku (aY rfl akE (HT3.out.at0)) ?_;refine aG rfl (dV rfl (ev rfl) (ev rfl) HT3.out.at1) ?_;simp only [aa];have HT4 := ae (HT3.out.put (x));generalize i1 w3 (w.heap.size + 1) (x) = w4 at HT4 ⊢;clear HT3;refine aH 1 ?_;go_wp2_with fail;exact bodyPost_ret (ly rfl _ _ _ rfl HT4.out.at1) rfl ⟨rfl, HT4.out.bel⟩
theorem agc {x : Ros} {j : Nat} (hj : j < 16) (hf : a7 x = true) (hq : fj x (j : Int) = true) (h1 : (sta x j == 1) = false) (h2 : (sta x j == 2) = true) (w : World) : Calls prog 198 #[ros x, .int .i64 (j : Int)] w fun e w' => e = .returned (.tuple #[ros (gG (mM x 0) j 1), .bool true]) /\ Below w.heap.size w w' := by
 have HT1 := ae (lh.new w x);have HF := ae hf;have HQ := ae hq;have H1 := ae h1;have H2 := ae h2;clear hf hq h1 h2;go_enter func198, ntmps198;go_upto_region 1 with (first | (refine av rfl (bg rfl rfl) ?_) | (refine av rfl (cW rfl) ?_) | fail);generalize (w.alloc (.cells (aX x).toArray 86)).alloc (.cells (aX bP).toArray 86) = w1 at *;refine af ?_;refine aku (aY rfl akE (HT1.out.at0)) ?_;refine aw rfl (aA call76 rfl (evc akE evn)) ?_;refine (dR w1 HF).mono ?_;rintro e w2 ⟨rfl, hb⟩;have HT2 := ae (HT1.out.call hb);clear hb HT1;refine aO ?_;refine runs 2 ?_;refine akB (aY rfl akE (HT2.out.at0)) ?_;refine runs 1 ?_;refine aw akp (aA call177 rfl (evc akE (evc akE evn))) ?_;refine (eL w2 HQ).mono ?_;rintro e w3 ⟨rfl, hb⟩;have HT3 := ae (HT2.out.call hb);clear hb HT2;refine aO ?_;refine aH 2 ?_;go_upto_region 3 with fail;refine aI 1 ?_;refine aku (ax rfl akE nI) ?_;refine aku (cH rfl akE akE (qj hj)) ?_;refine aku (aC rfl akE (qt ((HT3.out.at0).sta hj))) ?_;refine ah ?_;go_upto_region 4 with fail;refine af ?_;refine aku (aF false rfl akE evk H1) ?_;refine aH 1 ?_;go_upto_region 6 with fail;refine af ?_;refine aku (aF true rfl akE evk H2) ?_;refine aH 1 ?_;go_upto_region 7 with fail;refine af ?_;refine aku (ax rfl akE aax) ?_;refine aG rfl (ab5 rfl (ev rfl) evk (HT3.out.at0.there (by omega))) ?_;simp only [aa];have HT4 := ae (HT3.out.set (acK _ (0)));generalize setW w3 w.heap.size (19) (.int .i64 (0)) = w4 at HT4 ⊢;clear HT3;refine ah ?_;go_upto_region 8 with fail;refine aI 1 ?_;refine aku (ax rfl akE nI) ?_;refine aku (cH rfl akE akE (qj hj)) ?_;refine aG rfl (t8 rfl (ev rfl) evk (HT4.out.at0.there (by omega))) ?_;simp only [aa];have HT5 := ae (HT4.out.set (re _ hj));generalize setW w4 w.heap.size (3 + j) (.int .u8 1) = w5 at HT5 ⊢;clear HT4;refine ah ?_;go_upto_region 9 with fail;refine af ?_;refine aku (aY rfl akE (HT5.out.at0)) ?_;refine aG rfl (dV rfl (ev rfl) (ev rfl) HT5.out.at1) ?_;simp only [aa];have HT6 := ae (HT5.out.put (gG (mM x 0) j 1));generalize i1 w5 (w.heap.size + 1) (gG (mM x 0) j 1) = w6 at HT6 ⊢;clear HT5;refine aH 1 ?_;go_wp2_with fail;exact bodyPost_ret (ly rfl _ _ _ rfl HT6.out.at1) rfl ⟨rfl, HT6.out.bel⟩
theorem aeD {x : Ros} {j : Nat} (hj : j < 16) (hf : a7 x = true) (hq : fj x (j : Int) = true) (h1 : (sta x j == 1) = false) (h2 : (sta x j == 2) = false) (w : World) : Calls prog 198 #[ros x, .int .i64 (j : Int)] w fun e w' => e = .returned (.tuple #[ros (gG x j 1), .bool true]) /\ Below w.heap.size w w' := by
 have HT1 := ae (lh.new w x);have HF := ae hf;have HQ := ae hq;have H1 := ae h1;have H2 := ae h2;clear hf hq h1 h2;go_enter func198, ntmps198;go_upto_region 1 with (first | (refine av rfl (bg rfl rfl) ?_) | (refine av rfl (cW rfl) ?_) | fail);generalize (w.alloc (.cells (aX x).toArray 86)).alloc (.cells (aX bP).toArray 86) = w1 at *;refine af ?_;refine aku (aY rfl akE (HT1.out.at0)) ?_;refine aw rfl (aA call76 rfl (evc akE evn)) ?_;refine (dR w1 HF).mono ?_;rintro e w2 ⟨rfl, hb⟩;have HT2 := ae (HT1.out.call hb);clear hb HT1;refine aO ?_;refine runs 2 ?_;refine akB (aY rfl akE (HT2.out.at0)) ?_;refine runs 1 ?_;refine aw akp (aA call177 rfl (evc akE (evc akE evn))) ?_;refine (eL w2 HQ).mono ?_;rintro e w3 ⟨rfl, hb⟩;have HT3 := ae (HT2.out.call hb);clear hb HT2;refine aO ?_;refine aH 2 ?_;go_upto_region 3 with fail;refine aI 1 ?_;refine aku (ax rfl akE nI) ?_;refine aku (cH rfl akE akE (qj hj)) ?_;refine aku (aC rfl akE (qt ((HT3.out.at0).sta hj))) ?_;refine ah ?_;go_upto_region 4 with fail;refine af ?_;refine aku (aF false rfl akE evk H1) ?_;refine aH 1 ?_;go_upto_region 6 with fail;refine af ?_;refine aku (aF false rfl akE evk H2) ?_;refine aH 1 ?_;go_upto_region 8 with fail;refine aI 1 ?_;refine aku (ax rfl akE nI) ?_;refine aku (cH rfl akE akE (qj hj)) ?_;refine aG rfl (t8 rfl (ev rfl) evk (HT3.out.at0.there (by omega))) ?_;simp only [aa];have HT4 := ae (HT3.out.set (re _ hj));generalize setW w3 w.heap.size (3 + j) (.int .u8 1) = w4 at HT4 ⊢;clear HT3;refine ah ?_;go_upto_region 9 with fail;refine af ?_;refine aku (aY rfl akE (HT4.out.at0)) ?_;refine aG rfl (dV rfl (ev rfl) (ev rfl) HT4.out.at1) ?_;simp only [aa];have HT5 := ae (HT4.out.put (gG x j 1));generalize i1 w4 (w.heap.size + 1) (gG x j 1) = w5 at HT5 ⊢;clear HT4;refine aH 1 ?_;go_wp2_with fail;exact bodyPost_ret (ly rfl _ _ _ rfl HT5.out.at1) rfl ⟨rfl, HT5.out.bel⟩
theorem ai2 (x : Ros) (m : Int) (w : World) : Calls prog 198 #[ros x, .int .i64 m] w fun e w' => e = .returned (.tuple #[ros (fA x m), .bool (me x m)]) /\ Below w.heap.size w w' := by
 unfold fA;cases hf : a7 x
 ·rw [show me x m = false from by unfold me; rw [hf]; rfl]; exact afp hf w
 cases hq : fj x m
 ·rw [show me x m = false from by unfold me; rw [hf, hq]; rfl]; exact aeh hf hq w
 have hm := nT hq;have hg := fw (eF hf).1;obtain ⟨j, rfl⟩ := Int.eq_ofNat_of_zero_le hm.1;have hj : j < 16 := by omega
 have e : me x (j : Int) = decide (sta x j ≠ 1) := by unfold me; rw [hf, hq]; rfl
 rw [e];by_cases h1 : sta x j = 1
 ·rw [am (by simpa using h1)]; exact ae4 hj hf hq (by simpa using h1) w
 rw [ao (by simpa using h1), if_pos rfl]
 show Calls _ _ _ _ fun e w' => e = .returned (.tuple #[ros (if sta x j = 2 then gG (mM x 0) j 1 else gG x j 1), .bool true]) /\ Below w.heap.size w w'
 by_cases h2 : sta x j = 2
 ·rw [if_pos h2]; exact agc hj hf hq (by simpa using h1) (by simpa using h2) w
 ·rw [if_neg h2]; exact aeD hj hf hq (by simpa using h1) (by simpa using h2) w
theorem akf (w : World) (y : Ros) : (w.alloc (.cells (eN y).toArray 24)).heap[w.heap.size]? = some (.cells (eN y).toArray 24 (0, 0)) := heap_alloc_new w _
structure mQ (w0 w : World) (y z : Ros) : Prop where
 bel : Below w0.heap.size w0 w
 at0 : w.rangeAt w0.heap.size 0 (eN y)
 lt0 : w0.heap.size < w.heap.size
 at1 : bO w (w0.heap.size + 1) z
theorem mQ.new (w : World) (y : Ros) : mQ w ((w.alloc (.cells (eN y).toArray 24)).alloc (.cells (aX bP).toArray 86)) y bP := by
 refine ⟨((Below.refl _ w).alloc aj _).alloc (by simp) _, aQ (t := 24) (bz (akf w y) _), by simp only [World.size_alloc]; omega, ?_⟩;have := bO.new (w.alloc (.cells (eN y).toArray 24)) bP;rwa [World.size_alloc] at this
section
variable {w0 w w' : World} {y z : Ros}
theorem mQ.call (h : mQ w0 w y z) (hb : Below w.heap.size w w') : mQ w0 w' y z :=
 ⟨h.bel.trans (hb.mono h.bel.size), ex h.at0 h.lt0 hb, ar h.lt0 hb.size, h.at1.below (aV h.at1) hb⟩
theorem mQ.put (h : mQ w0 w y z) (z' : Ros) : mQ w0 (i1 w (w0.heap.size + 1) z') y z' :=
 ⟨ij h.bel (by omega), (fun j v hj => by
  have := World.rangeAt_setCells_apart h.at0 (w0.heap.size + 1) 0 (aX z') (.inl (by omega));exact this j v hj), by rw [q7]; exact h.lt0, jL h.at1⟩
end
section
variable {ρ : Operand -> Value} {o : Oper} {x : Operand} {w : World}
theorem mD {y : Ros} (ho : o.op = .box 24 x) (hx : ρ x = geo y) : (execOp ρ o).run prog w = .ok (.value (.pointer (some ⟨w.heap.size, 0, none⟩))) (w.alloc (.cells (eN y).toArray 24)) := ch ho hx
theorem abc (y : Ros) (w : World) : (Instr.build 86 #[(0, geo y)]).run prog w = .ok (ros (gz y)) w := by
 obtain ⟨m, s, r, st, cur, gone⟩ := y
 kernel_rfl
theorem qS {y : Ros} (ho : o.op = .build 86 #[(0, x)]) (hx : ρ x = geo y) : (execOp ρ o).run prog w = .ok (.value (ros (gz y))) w := by
 unfold execOp;simp only [ho, hx, List.map_toArray, List.map_cons, List.map_nil, Sem.run_bind, abc, Result.andThen_ok, Sem.run_pure]
end
theorem mQ.third {w0 w : World} {y z : Ros} (h : mQ w0 w y z) {b : Nat} (x : Ros) (hb : w0.heap.size + 1 < b) : mQ w0 (i1 w b x) y z :=
 ⟨ij h.bel (by omega), fun j v hj => World.rangeAt_setCells_apart h.at0 b 0 (aX x) (.inl (by omega)) j v hj, by rw [q7]; exact h.lt0, (uW (by omega)).trans h.at1⟩
theorem ahU {y : Ros} (hg : a7 (gz y) = false) (w : World) : Calls prog 30 #[geo y] w fun e w' => e = .returned (.tuple #[ros (bP), .int .i64 2]) /\ Below w.heap.size w w' := by
 have HT1 := ae (mQ.new w y);have HG := ae hg;clear hg;go_enter func30, ntmps30;go_upto_region 1 with (first | (refine av rfl (mD rfl rfl) ?_) | (refine av rfl (cW rfl) ?_) | fail);generalize (w.alloc (.cells (eN y).toArray 24)).alloc (.cells (aX bP).toArray 86) = w1 at *;refine af ?_;refine aku (eD (c := y) rfl akE HT1.out.at0) ?_;refine aku (qS (y := y) rfl akE) ?_;refine aku (cW rfl) ?_;have HA := ae (bO.new w1 bP);have HT2 := ae (HT1.out.call (w' := w1.alloc (.cells (aX bP).toArray 86)) (ak.alloc aj _));have HB3 : Hid (w.heap.size + 1 < w1.heap.size) := ae (aV HT1.out.at1);clear HT1;generalize w1.alloc (.cells (aX bP).toArray 86) = w2 at *;generalize w1.heap.size = ba at *;refine aG rfl (dV rfl (ev rfl) (ev rfl) HA.out) ?_;simp only [aa];have HA2 := ae (jL (x := gz y) HA);have HT3 := ae (HT2.out.third (gz y) HB3);clear HT2 HA;have HA := HA2;clear HA2;generalize i1 w2 ba (gz y) = w3 at *;refine ah ?_;go_upto_region 2 with fail;refine af ?_;refine aku (aY rfl akE HA) ?_;refine aw rfl (aA call74 rfl (evc akE evn)) ?_;refine (yJ w3 HG).mono ?_;rintro e w4 ⟨rfl, hb⟩;have HT4 := ae (HT3.out.call hb);have HA2 := ae (HA.out.below (aV HA) hb);clear hb HT3 HA;have HA := HA2;clear HA2;refine aO ?_;refine aH 1 ?_;go_upto_region 3 with fail;refine af ?_;refine aku (pC rfl) ?_;refine aG rfl (dV rfl (ev rfl) (ev rfl) HT4.out.at1) ?_;simp only [aa];have HT5 := ae (HT4.out.put (bP));generalize i1 w4 (w.heap.size + 1) (bP) = w5 at HT5 ⊢;clear HT4;refine aH 1 ?_;go_wp2_with fail;exact bodyPost_ret (ly rfl _ _ _ rfl HT5.out.at1) rfl ⟨rfl, HT5.out.bel⟩
theorem ah1 {y : Ros} (hg : a7 (gz y) = true) (w : World) : Calls prog 30 #[geo y] w fun e w' => e = .returned (.tuple #[ros (gz y), .int .i64 0]) /\ Below w.heap.size w w' := by
 have HT1 := ae (mQ.new w y);have HG := ae hg;clear hg;go_enter func30, ntmps30;go_upto_region 1 with (first | (refine av rfl (mD rfl rfl) ?_) | (refine av rfl (cW rfl) ?_) | fail);generalize (w.alloc (.cells (eN y).toArray 24)).alloc (.cells (aX bP).toArray 86) = w1 at *;refine af ?_;refine aku (eD (c := y) rfl akE HT1.out.at0) ?_;refine aku (qS (y := y) rfl akE) ?_;refine aku (cW rfl) ?_;have HA := ae (bO.new w1 bP);have HT2 := ae (HT1.out.call (w' := w1.alloc (.cells (aX bP).toArray 86)) (ak.alloc aj _));have HB3 : Hid (w.heap.size + 1 < w1.heap.size) := ae (aV HT1.out.at1);clear HT1;generalize w1.alloc (.cells (aX bP).toArray 86) = w2 at *;generalize w1.heap.size = ba at *;refine aG rfl (dV rfl (ev rfl) (ev rfl) HA.out) ?_;simp only [aa];have HA2 := ae (jL (x := gz y) HA);have HT3 := ae (HT2.out.third (gz y) HB3);clear HT2 HA;have HA := HA2;clear HA2;generalize i1 w2 ba (gz y) = w3 at *;refine ah ?_;go_upto_region 2 with fail;refine af ?_;refine aku (aY rfl akE HA) ?_;refine aw rfl (aA call74 rfl (evc akE evn)) ?_;refine (yJ w3 HG).mono ?_;rintro e w4 ⟨rfl, hb⟩;have HT4 := ae (HT3.out.call hb);have HA2 := ae (HA.out.below (aV HA) hb);clear hb HT3 HA;have HA := HA2;clear HA2;refine aO ?_;refine aH 1 ?_;go_upto_region 4 with fail;refine af ?_;refine aku (aY rfl akE HA) ?_;refine aG rfl (dV rfl (ev rfl) (ev rfl) HT4.out.at1) ?_;simp only [aa];have HT5 := ae (HT4.out.put (gz y));generalize i1 w4 (w.heap.size + 1) (gz y) = w5 at HT5 ⊢;clear HT4;refine aH 1 ?_;go_wp2_with fail;exact bodyPost_ret (ly rfl _ _ _ rfl HT5.out.at1) rfl ⟨rfl, HT5.out.bel⟩
theorem aki (y : Ros) (w : World) : Calls prog 30 #[geo y] w fun e w' => e = .returned (.tuple #[ros (adn y), .int .i64 (tJ y : Nat)]) /\ Below w.heap.size w w' := by
 unfold adn tJ;have h := xM y;cases hg : dO y
 ·exact ahU (h.trans hg) w
 ·exact ah1 (h.trans hg) w
structure Cel where
 b : Nat
 t : TypeId
 cs : List Value
section
variable {ρ : Operand -> Value} {o : Oper} {x y : Operand} {w : World} {b : Nat} {c d : Ros} {t r : TypeId}
theorem aa4 {fn : Func} {p : Tmp} (h : fn.results = #[.cell p 86]) (tmps : Array Value) (w : World) (b : Nat) (hp : tmps.getD p undef = .pointer (some ⟨b, 0, none⟩)) (hc : bO w b c) :
  (results fn tmps).run prog w = .ok (ros c) w := mg h tmps w b hp hc.range underlying86 rfl (by rw [bD]; exact sX)
end
section
variable {x y : Ros} {g b : Bool} {m : Int} {e : Nat} (w : World)
theorem ahP (h : adn x = y) (he : tJ x = e) : Calls prog 30 #[geo x] w fun r w' => r = .returned (.tuple #[ros y, .int .i64 (e : Nat)]) /\ Below w.heap.size w w' := by subst h he; exact aki x w
theorem xU (h : fA x m = y) (hb : me x m = b) : Calls prog 198 #[ros x, .int .i64 m] w fun r w' => r = .returned (.tuple #[ros y, .bool b]) /\ Below w.heap.size w w' := by subst h hb; exact ai2 x m w
theorem acC {s : Int} (h : hasB x m s = b) : Calls prog 138 #[ros x, .int .i64 m, .int .i64 s] w fun r w' => r = .returned (.bool b) /\ Below w.heap.size w w' := by subst h; exact ajP x m s w
end
theorem agL {N : Nat} {s : Int} (hN : N <= 16) (hs : 1 <= s /\ s <= 64) : je (szK N s) := by
 refine ⟨by rw [nL]; omega, by rw [nL]; omega, fun k hk => ?_⟩;unfold szK at hk;rcases List.mem_append.1 hk with h | h
 ·have := (List.mem_replicate.1 h).2; omega
 ·simp at h; omega
theorem aeX {N : Nat} {s : Int} (h1 : 3 <= N) (h2 : N <= 16) (h3 : 1 <= s /\ s <= 64) {ev : Nat} (hev : ev <= 2305843009213693952) : gA (ir (szK N s)) 9 ev (neR N s) = true := by
 have hsec : ∀ k, k <= N -> l6 (ir (szK N s)) (neR N s) k = true := fun k hk => by
  induction k with
  |zero => rfl
  |succ k ih =>
   refine mE (ih (by omega)) ?_;have e : iF (ir (szK N s)) (k : Int) = ((2 + s).toNat : Int) := by
    unfold iF;rw [if_pos (xT (by rw [tP]; omega))]
    show (((ir (szK N s)).ds.getD k dm).S.length : Int) = _
    rw [aep (by omega)]
    show ((List.replicate (2 + s).toNat aD).length : Int) = _
    rw [List.length_replicate]
   rw [e]
   show ¬ (((2 + s).toNat : Nat) : Int) < 2 + s
   omega
 unfold gA;rw [tl h1 h2 h3.1 h3.2, tP, show (neR N s).m.toNat = N from ajD N s, hsec N aj, am (show ¬ (9 : Nat) = 0 by decide), am (show ¬ 2305843009213693952 < ev by omega), ao (show ((N + 1 : Nat) : Int) = (neR N s).m + 1 from rfl)]
 rfl
theorem agY {N : Nat} {s : Int} (h1 : 3 <= N) (h2 : N <= 16) (h3 : 1 <= s /\ s <= 64) : adn (neR N s) = neR N s /\ tJ (neR N s) = 0 := by
 have hg : dO (neR N s) = true := ao ⟨by show 3 <= (N : Int); omega, by show (N : Int) <= 16; omega, h3.1, h3.2, by show (40 : Int) <= 40; omega, by show (40 : Int) <= 256; omega⟩
 constructor
 ·unfold adn; rw [hg]; rfl
 ·unfold tJ; rw [hg]; rfl
structure RJ (w : World) (F : Nat -> Prop) (p q : Nat) (h : HuS) : Prop where
 bn : dl.Bn w F q h.M
 hu : RHu w p q h.id h.ev h.R
 np : ¬ F p
 fine : a7 h.R = true
 idb : h.id < 18446744073709551616
def ftJ (p : Nat) (F : Nat -> Prop) (b : Nat) : Prop := b = p \/ F b
theorem uH (C : iV) (N : Nat) (w : World) (T : Tab w) (h1 : 3 <= N) (h2 : N <= 16) : Calls prog 10 #[geo (neR N 8)] w fun e w' => ∃ p q p2 q2 F2, e = .returned (.tuple #[.pointer (some ⟨p, 0, none⟩), .pointer (some ⟨q, 0, none⟩), .pointer (some ⟨p2, 0, none⟩)]) /\ HAt C w w.heap.size (ftJ p2 F2) w' q p ⟨ir (szK N 8), 9, 0, neR N 8⟩ /\ RJ w' F2 p2 q2 ⟨ir (szK N 8), 9, 0, neR N 8⟩ /\ ∀ b, ftJ p2 F2 b -> w.heap.size <= b := by
 have HT := ae T;have HN := ae h2;have HOK := ae (agL (N := N) (s := 8) h2 (by omega));have HNW := ae (agY (N := N) (s := 8) h1 h2 (by omega));have HFN := ae (tl (N := N) (s := 8) h1 h2 (by omega) (by omega));have HH := ae (aeX (N := N) (s := 8) h1 h2 (by omega) (ev := 0) (by omega));have hbx := (Below.refl w.heap.size w).alloc aj (.cells (eN (neR N 8)).toArray 24);have HB1 := ae hbx;have HG1 := ae (heap_alloc_new w (.cells (eN (neR N 8)).toArray 24));clear T h1 h2 hbx;go_enter func10, ntmps10;go_upto_region 0 with fail;refine af ?_;refine aku (ch (cs := eN (neR N 8)) rfl akE) ?_;generalize w.alloc (.cells (eN (neR N 8)).toArray 24) = w1 at *;refine aH 3 ?_;go_wp2_with fail
 go_loopw [5, 6] (fun v z wr => ∃ i : Nat, z = .int .i64 i /\ i <= N /\ aP bY wr w.heap.size v (List.replicate i (2 + 8)) /\ Below w.heap.size w wr /\ wr.heap[w.heap.size]? = some (.cells (eN (neR N 8)).toArray 24 (0, 0))) (fun _ z _ => N - (intOf z).toNat)
 case atStart => exact ⟨0, by go_num, Nat.zero_le _, aP.nil _ _, HB1, HG1⟩
 case round =>
  obtain ⟨i, rfl, hi, hm, hb, hg⟩ := hrel;have HM := ae hm;have HW := ae hb;have HG := ae hg;have HBS : Hid (w.heap.size <= wr.heap.size) := ae hb.size;clear hm hb hg;by_cases hlt : i < N
  ·have HI := ae hlt;have HLT : Hid (decide ((i : Int) < (N : Int)) = true) := ae (ao (by omega));have HA : Hid (IntKind.i64.wrap ((i : Int) + 1) = ((i + 1 : Nat) : Int)) := ae (by have := HN.out; rw [eV ⟨by omega, by omega⟩]; omega);have hsz : (wr.alloc (.cells #[.int .i64 10] 3)).heap.size = wr.heap.size + 1 := al;have hal := aB HG ((Below.refl wr.heap.size wr).alloc aj (.cells #[.int .i64 10] 3));obtain ⟨v2, w2, hrun, hm2, hg2⟩ := gB bY (wr.alloc (.cells #[.int .i64 10] 3)) 48 w.heap.size (wr.heap.size + 1) 1 1 u5 (List.replicate i (2 + 8)) [10] (some ⟨wr.heap.size, 0, none⟩) (aP.below HM (ak.alloc aj _)) (fg (E := bY) (l := [10]) wr #[.int .i64 10] 3 rfl) (by have := HBS.out; omega) (by have := HN.out; simp; omega);have HRUN := ae hrun;have HM2 : Hid (aP bY w2 w.heap.size v2 (List.replicate (i + 1) (2 + 8))) := ae (by rw [List.replicate_succ']; exact hm2);have HW2 : Hid (Below w.heap.size w w2) := ae ((HW.out.trans (ak.alloc HBS _)).grown hg2 (by have := HBS.out; omega) (fun j' hj' => HM.out.gH j' hj'));have HG2 : Hid (w2.heap[w.heap.size]? = some (.cells (eN (neR N 8)).toArray 24 (0, 0))) := ae ((hg2.block w.heap.size (aV hal) (fun e => (aP.dN (aP.below HM (ak.alloc aj (.cells #[.int .i64 10] 3))) hal (by decide)) e.symm)).trans hal);clear hi hlt hsz hrun hm2 hg2 hal;go_upto_region 3 with fail;refine aI 1 ?_;refine aku (ax rfl akE oG) ?_;refine aku (aC rfl akE (bS (k := (N : Int)) ((aQ HG) 0 _ rfl))) ?_;refine aku (aZ true rfl akE akE HLT) ?_;refine ah ?_;go_upto_region 5 with fail;refine aI 1 ?_;refine aku (ax rfl akE acb) ?_;refine aku (aC rfl akE (bS (k := 8) ((aQ HG) 1 _ rfl))) ?_;refine aku (bJ rfl evk akE (show IntKind.i64.wrap (2 + 8) = 10 from rfl)) ?_;refine aku (du (E := bY) (a := 10) rfl akE rfl (by decide)) ?_;refine aku (fN (E := bY) rfl akE akE HRUN) ?_;refine aH 1 ?_;go_upto_region 4 with fail;refine aI 1 ?_;refine aku (bJ rfl akE evk HA) ?_;refine aH 1 ?_;go_wp2_with fail;go_roundw
   case rel => exact ⟨i + 1, by go_num, HI, HM2, HW2, HG2⟩
   case measure => have := HI.out; simp [intOf]; omega
  have hin : i = N := by omega
  subst hin;have HLT : Hid (decide ((i : Int) < (i : Int)) = false) := ae (am (by omega));have hsz : (wr.alloc (.cells #[.int .i64 50] 3)).heap.size = wr.heap.size + 1 := al;have hal := aB HG ((Below.refl wr.heap.size wr).alloc aj (.cells #[.int .i64 50] 3));obtain ⟨v2, w2, hrun, hm2, hg2⟩ := gB bY (wr.alloc (.cells #[.int .i64 50] 3)) 48 w.heap.size (wr.heap.size + 1) 1 1 u5 (List.replicate i (2 + 8)) [50] (some ⟨wr.heap.size, 0, none⟩) (aP.below HM (ak.alloc aj _)) (fg (E := bY) (l := [50]) wr #[.int .i64 50] 3 rfl) (by have := HBS.out; omega) (by have := HN.out; simp; omega);have HRUN := ae hrun;have HM2 : Hid (aP bY w2 w.heap.size v2 (szK i 8)) := ae hm2;have HB2 : Hid (Below w.heap.size w w2) := ae ((HW.out.trans (ak.alloc HBS _)).grown hg2 (by have := HBS.out; omega) (fun j' hj' => HM.out.gH j' hj'));have HG2 : Hid (w2.heap[w.heap.size]? = some (.cells (eN (neR i 8)).toArray 24 (0, 0))) := ae ((hg2.block w.heap.size (aV hal) (fun e => (aP.dN (aP.below HM (ak.alloc aj (.cells #[.int .i64 50] 3))) hal (by decide)) e.symm)).trans hal);clear hi hlt hsz hrun hm2 hg2 hal;go_upto_region 3 with fail;refine aI 1 ?_;refine aku (ax rfl akE oG) ?_;refine aku (aC rfl akE (bS (k := (i : Int)) ((aQ HG) 0 _ rfl))) ?_;refine aku (aZ false rfl akE akE HLT) ?_;refine ah ?_;go_upto_region 6 with fail;refine aI 1 ?_;refine aku (du (E := bY) (a := 50) rfl evk rfl (by decide)) ?_;refine aku (fN (E := bY) rfl akE akE HRUN) ?_;refine aH 1 ?_;obtain ⟨A2, c2, rfl, e21, e22⟩ := HM2.out.form;have HR2 := ae HM2.out.rd;have HC2 := ae (And.intro e21 e22);clear e21 e22;go_upto_region 7 with fail;refine aI 1 ?_;refine aw rfl (aA call28 rfl (evc akE evn)) ?_;refine (C.R.new HR2 HC2.out.1 HC2.out.2).mono ?_;rintro e w3 ⟨b3, h3⟩;obtain ⟨_, q, F, rfl, n3, f3⟩ | ⟨h3, _⟩ := h3;rotate_left 1
  ·exact absurd HOK h3
  have HB3 := ae (HB2.out.trans (b3.mono HB2.out.size));have HN3 := ae n3;have HF3 : Hid (∀ b, F b -> w.heap.size <= b) := ae fun b hb => aq HB2.out.size (f3 b hb)
  have HFL : Hid (∀ b, F b -> b < w3.heap.size) := ae fun b hb => C.R.toBen.lt n3 b hb
  have HR3 := ae (HM2.out.below b3).rd;have HG3 := ae (aB HG2 b3);clear b3 n3 f3;refine aO ?_;refine runs 3 ?_;refine aH 2 ?_;go_upto_region 8 with fail;refine aI 1 ?_;refine aw rfl (aA call29 rfl (evc akE evn)) ?_;refine (dl.new HR3 HC2.out.1 HC2.out.2).mono ?_;rintro e w5 ⟨b5, h5⟩;obtain ⟨_, q5, F5, rfl, n5, f5⟩ | ⟨h5, _⟩ := h5;rotate_left 1
  ·exact absurd HOK h5
  have HB5 := ae (HB3.out.trans (b5.mono HB3.out.size));have HN5 := ae (C.R.toBen.below HN3 b5);have HD5 := ae n5;have HF5 := ae f5;have HG5 := ae (aB HG3 b5);clear b5 n5 f5;refine aO ?_;refine runs 3 ?_;refine aH 2 ?_;go_upto_region 9 with fail;refine af ?_;refine aku (eD (c := neR i 8) rfl akE (aQ HG5)) ?_;refine aw rfl (aA call30 rfl (evc akE evn)) ?_;refine (ahP (x := neR i 8) (w := w5) HNW.out.1 HNW.out.2).mono ?_;rintro e w6 ⟨rfl, b6⟩;have HB6 := ae (HB5.out.trans (b6.mono HB5.out.size));have HN6 := ae (C.R.toBen.below HN5 b6);have HD6 := ae (dl.below HD5 b6);clear b6;refine aO ?_;refine runs 3 ?_;refine aku (cW rfl) ?_;refine aG rfl (lI rfl (ev rfl) (ev rfl)) ?_;simp only [aa];have hx := (Below.refl w6.heap.size w6).alloc aj (.cells (aX (neR i 8)).toArray 86);have HB7 := ae (HB6.out.trans (hx.mono HB6.out.size));have HN7 := ae (C.R.toBen.below HN6 hx);have HD7 := ae (dl.below HD6 hx);have HX7 := ae (bO.new w6 (neR i 8));clear hx;obtain ⟨qx, hqx⟩ : ∃ qx, w6.heap.size = qx := ⟨_, rfl⟩;rw [hqx] at HX7 ⊢;clear hqx;generalize w6.alloc (.cells (aX (neR i 8)).toArray 86) = w7 at *;refine aH 1 ?_;go_upto_region 10 with fail;refine aI 1 ?_;refine aku (aL false rfl akE evk rfl) ?_;refine runs 2 ?_;refine akB (aL false rfl akE evk rfl) ?_;refine runs 3 ?_;refine akB (aL false rfl akE evk rfl) ?_;refine aH 1 ?_;go_upto_region 12 with fail;refine aI 1 ?_;refine aku (bu rfl akE HX7.out.range) ?_;refine aw rfl (aA call31 rfl (evc akE (evc evk (evc evk (evc akE evn))))) ?_;refine (C.new_ 9 0 (neR i 8) (by omega) (by omega) HN7).mono ?_;rintro e w8 ⟨b8, h8⟩;obtain ⟨_, p, G, rfl, j8, g8⟩ | ⟨h8, _⟩ := h8;rotate_left 1
  ·exact absurd (HH.out.symm.trans h8) (by decide)
  have HB8 := ae (HB7.out.trans (b8.mono HB7.out.size));have HX8 := ae (HX7.out.below (aV HX7) b8);have HD8 := ae (dl.below HD7 b8);have HJ8 := ae j8;have HGG : Hid (∀ b, G b -> w.heap.size <= b) := ae fun b hb => by
   rcases g8 b hb with e | e
   ·exact HF3.out b e
   ·exact aq HB7.out.size e
  have HAP : Hid (∀ b, F5 b -> ¬ G b) := ae fun b h5 hg => by
   rcases g8 b hg with e | e
   ·have h1 := HFL.out b e; have h2 := HF5.out b h5; omega
   ·have h1 := dl.lt HD7 b h5; omega
  clear b8 j8 g8;refine aO ?_;refine runs 3 ?_;refine aH 2 ?_;go_upto_region 13 with fail;refine aI 1 ?_;refine aku (bu rfl akE HX8.out.range) ?_;refine aw rfl (aA call32 rfl (evc akE (evc evk (evc evk (evc akE evn))))) ?_;refine (aiH 9 0 (neR i 8) w8 HD8).mono ?_;rintro e w9 ⟨b9, h9⟩;obtain ⟨_, p2, rfl, j9, g9⟩ | ⟨h9, _⟩ := h9;rotate_left 1
  ·exact absurd (HH.out.symm.trans h9) (by decide)
  have HB9 := ae (HB8.out.trans (b9.mono HB8.out.size));have HJ9 := ae (C.below HJ8 b9);have HD9 := ae (dl.below HD8 b9);have HP9 : Hid (RJ w9 F5 p2 q5 ⟨ir (szK i 8), 9, 0, neR i 8⟩) := ae ⟨HD9, j9, fun e => by have := dl.lt HD8 _ e; omega, HFN, by show 9 < _; omega⟩;have HPL : Hid (∀ b, ftJ p2 F5 b -> ¬ G b /\ b < w9.heap.size) := ae fun b e => by
   rcases e with e | e
   ·exact ⟨fun hg => by subst e; have := C.lt HJ8 b hg; omega, by subst e; exact aV j9⟩
   ·exact ⟨HAP.out b e, dl.lt HD9 b e⟩
  have HLO : Hid (∀ b, ftJ p2 F5 b -> w.heap.size <= b) := ae fun b e => by
   rcases e with e | e
   ·subst e; exact aq HB8.out.size g9
   ·exact aq HB3.out.size (HF5.out b e)
  clear b9 j9 g9;refine aO ?_;refine runs 3 ?_;refine aH 2 ?_;go_upto_region 14 with fail;refine aI 1 ?_;refine aku (aL false rfl akE evk rfl) ?_;refine runs 2 ?_;refine akB (aL false rfl akE evk rfl) ?_;refine aH 1 ?_;go_upto_region 16 with fail;refine aI 3 ?_;refine aH 3 ?_;go_wp2_with fail
  go_ret3
  exact ⟨p, q, p2, q5, F5, rfl, ⟨G, HJ9, HGG, HB9, zn.start HT, HPL⟩, HP9, HLO⟩
theorem aiC (C : iV) (D : ShI C) (s m n : Int) (z : Bool) (w : World) (T : Tab w) : Calls prog 5 #[.agg #[.int .i64 s, .int .i64 m], .int .i64 n, .bool z] w fun e w' => e = .returned (.bool true) /\ Below w.heap.size w w' := by
 have HB0 : Hid (Below w.heap.size w w) := ae ak;have HT := ae T;clear T;go_enter func5, ntmps5;go_upto_region 0 with fail;refine af ?_;refine aku (ch (cs := ([.int .i64 s, .int .i64 m] : List Value)) rfl akE) ?_;have hbx := (Below.refl w.heap.size w).alloc aj (.cells ([.int .i64 s, .int .i64 m] : List Value).toArray 43);have HB1 := ae (HB0.out.trans (hbx.mono HB0.out.size));have P1 := ae (heap_alloc_new w (.cells ([.int .i64 s, .int .i64 m] : List Value).toArray 43));clear hbx;generalize w.alloc (.cells ([.int .i64 s, .int .i64 m] : List Value).toArray 43) = w1 at *;refine aH 1 ?_;go_upto_region 1 with fail;refine co 1 ?_;cases z
 ·go_upto_region 2 with fail;refine co 1 ?_;obtain ⟨w2, hw2⟩ : ∃ w2, w1 = w2 := ⟨_, rfl⟩;have HB2 := HB1;have P2 := P1;rw [hw2] at HB2 P2;have HN2 := ae (D.no_nil w2);rw [hw2];clear hw2;go_upto_region 4 with fail;refine af ?_;refine aw rfl (aA call6 rfl (evc evk evn)) ?_;refine (lS 0 3 w2 (by omega) rfl).mono ?_;rintro e w3 ⟨rfl, b3⟩;have HB3 := ae (HB2.out.trans (b3.mono HB2.out.size));have P3 := ae (aB P2 b3);have HN3 := ae (D.no_below HN2 b3);clear b3;refine aO ?_;refine aw rfl (aA call10 rfl (evc akE evn)) ?_;refine (uH C 3 w3 (fun i hi => (World.cell?_of_block (w := w) (HB3.out.block _ (zn.start HT).lo)).trans (HT.out i hi)) (by omega) (by omega)).mono ?_;rintro e w4 ⟨p, q, p2, q2, F2, rfl, a4, _⟩;have b4 := a4.bel;have HB4 := ae (HB3.out.trans (b4.mono HB3.out.size));have P4 := ae (aB P3 b4);have HN4 := ae (D.no_below HN3 b4);obtain ⟨G4, j4, _⟩ := a4;have HJ4 := ae j4;clear b4 j4;refine aO ?_;refine runs 3 ?_;refine runs 3 ?_;refine aH 1 ?_;go_upto_region 5 with fail;refine af ?_;refine aw rfl (aA call6 rfl (evc evk evn)) ?_;refine (lS 0 3 w4 (by omega) rfl).mono ?_;rintro e w5 ⟨rfl, b3⟩;have HB5 := ae (HB4.out.trans (b3.mono HB4.out.size));have P5 := ae (aB P4 b3);have HN5 := ae (D.no_below HN4 b3);have HJ5 := ae (C.below HJ4 b3);clear b3;refine aO ?_;refine aw rfl (aA call7 rfl (evc akE (evc evk evn))) ?_;refine (D.new_ok (N := 3) (T := 8) (room := 1) (r := 40) w5 (by decide) (by omega) (by omega)).mono ?_;rintro e w6 ⟨t, S, rfl, p6, b6, _⟩;have HB6 := ae (HB5.out.trans (b6.mono HB5.out.size));have P6 := ae (aB P5 b6);have HN6 := ae (D.no_below HN5 b6);have HJ6 := ae (C.below HJ5 b6);have HP6 := ae p6;clear p6 b6;refine aO ?_;refine runs 3 ?_;refine aH 2 ?_;go_upto_region 6 with fail;refine aI 2 ?_;refine aku (bL (cs := ([.int .i64 s, .int .i64 m] : List Value)) underlying43 rfl (by kernel_rfl) rfl akE (aQ P6)) ?_;refine aw rfl (aA call15 rfl (evc akE (evc akE (evc akE evn)))) ?_;refine (D.no_read w6 _ G4 q p _ s m HN6 HJ6).mono ?_;rintro e w7 ⟨⟨y, rfl⟩, b3⟩;have HB7 := ae (HB6.out.trans (b3.mono HB6.out.size));have P7 := ae (aB P6 b3);have HN7 := ae (D.no_below HN6 b3);have HJ7 := ae (C.below HJ6 b3);have HP7 := ae (D.below HP6 b3);clear b3;refine aO ?_;refine runs 3 ?_;refine aku (aU rfl) ?_;refine aG rfl (dy (c := y) rfl (ev rfl) (ev rfl)) ?_;simp only [aa];have hbx := (Below.refl w7.heap.size w7).alloc aj (.cells (cel y).toArray 45);have HB8 := ae (HB7.out.trans (hbx.mono HB7.out.size));have P8 := ae (aB P7 hbx);have HN8 := ae (D.no_below HN7 hbx);have HJ8 := ae (C.below HJ7 hbx);have HP8 := ae (D.below HP7 hbx);clear hbx;generalize w7.alloc (.cells (cel y).toArray 45) = w8 at *;refine aH 1 ?_;go_upto_region 7 with fail;refine aI 1 ?_;refine aku (bL (cs := ([.int .i64 s, .int .i64 m] : List Value)) underlying43 rfl (by kernel_rfl) rfl akE (aQ P8)) ?_;refine aw rfl (aA call15 rfl (evc akE (evc evk (evc akE evn)))) ?_;refine (D.read_no s m HP8).mono ?_;rintro e w9 ⟨⟨y2, rfl⟩, b3⟩;have HB9 := ae (HB8.out.trans (b3.mono HB8.out.size));have P9 := ae (aB P8 b3);have HN9 := ae (D.no_below HN8 b3);have HJ9 := ae (C.below HJ8 b3);have HP9 := ae (D.below HP8 b3);clear b3;refine aO ?_;refine runs 3 ?_;refine aku (aU rfl) ?_;refine aG rfl (dy (c := y2) rfl (ev rfl) (ev rfl)) ?_;simp only [aa];have hbx := (Below.refl w9.heap.size w9).alloc aj (.cells (cel y2).toArray 45);have HB10 := ae (HB9.out.trans (hbx.mono HB9.out.size));have P10 := ae (aB P9 hbx);have HN10 := ae (D.no_below HN9 hbx);have HJ10 := ae (C.below HJ9 hbx);have HP10 := ae (D.below HP9 hbx);clear hbx;generalize w9.alloc (.cells (cel y2).toArray 45) = w10 at *;refine aH 1 ?_;go_upto_region 8 with fail;refine aI 1 ?_;refine aku (aF true rfl akE evk rfl) ?_;refine runs 2 ?_;refine akB (aF true rfl akE evk rfl) ?_;refine runs 3 ?_;refine akB (aF true rfl akE evk rfl) ?_;refine runs 3 ?_;refine aw akp (aA call13 rfl (evc akE (evc evk (evc evk evn)))) ?_;refine (D.no_put w10 _ 1 HN10).mono ?_;rintro e w11 ⟨rfl, b3⟩;have HB11 := ae (HB10.out.trans (b3.mono HB10.out.size));have P11 := ae (aB P10 b3);have HN11 := ae (D.no_below HN10 b3);have HJ11 := ae (C.below HJ10 b3);have HP11 := ae (D.below HP10 b3);clear b3;refine aO ?_;refine akB (aF true rfl akE evk rfl) ?_;refine runs 3 ?_;refine runs 1 ?_;refine aw akp (aA call19 rfl (evc akE (evc akE evn))) ?_;refine (D.no_clean w11 _ n HN11).mono ?_;rintro e w12 ⟨rfl, b3⟩;have HB12 := ae (HB11.out.trans (b3.mono HB11.out.size));have P12 := ae (aB P11 b3);have HN12 := ae (D.no_below HN11 b3);have HJ12 := ae (C.below HJ11 b3);have HP12 := ae (D.below HP11 b3);clear b3;refine aO ?_;refine akB (aF true rfl akE evk rfl) ?_;refine runs 3 ?_;refine runs 1 ?_;refine aw akp (aA call20 rfl (evc akE (evc akE evn))) ?_;refine (D.no_drop w12 _ n HN12).mono ?_;rintro e w13 ⟨rfl, b3⟩;have HB13 := ae (HB12.out.trans (b3.mono HB12.out.size));have P13 := ae (aB P12 b3);have HN13 := ae (D.no_below HN12 b3);have HJ13 := ae (C.below HJ12 b3);have HP13 := ae (D.below HP12 b3);clear b3;refine aO ?_;refine akB (aF true rfl akE evk rfl) ?_;refine runs 3 ?_;refine runs 1 ?_;refine aw akp (aA call21 rfl (evc akE (evc akE evn))) ?_;refine (D.no_known w13 _ n HN13).mono ?_;rintro e w14 ⟨⟨A13, c13, rfl⟩, b3⟩;have HB14 := ae (HB13.out.trans (b3.mono HB13.out.size));have P14 := ae (aB P13 b3);have HN14 := ae (D.no_below HN13 b3);have HJ14 := ae (C.below HJ13 b3);have HP14 := ae (D.below HP13 b3);clear b3;refine aO ?_;refine akB (fI underlying67 rfl akE) ?_;refine akB (aF true rfl akE evk rfl) ?_;refine runs 3 ?_;refine runs 1 ?_;refine aw akp (aA call22 rfl (evc akE (evc akE evn))) ?_;refine (D.no_cells w14 _ n HN14).mono ?_;rintro e w15 ⟨⟨A14, c14, rfl⟩, b3⟩;have HB15 := ae (HB14.out.trans (b3.mono HB14.out.size));have P15 := ae (aB P14 b3);have HN15 := ae (D.no_below HN14 b3);have HJ15 := ae (C.below HJ14 b3);have HP15 := ae (D.below HP14 b3);clear b3;refine aO ?_;refine akB (fI underlying47 rfl akE) ?_;refine akB (aF true rfl akE evk rfl) ?_;refine runs 3 ?_;refine aw akp (aA call17 rfl (evc akE evn)) ?_;refine (D.no_dirty w15 _ HN15).mono ?_;rintro e w16 ⟨⟨A15, c15, rfl⟩, b3⟩;have HB16 := ae (HB15.out.trans (b3.mono HB15.out.size));have P16 := ae (aB P15 b3);have HN16 := ae (D.no_below HN15 b3);have HJ16 := ae (C.below HJ15 b3);have HP16 := ae (D.below HP15 b3);clear b3;refine aO ?_;refine akB (fI underlying48 rfl akE) ?_;refine akB (aF true rfl akE evk rfl) ?_;refine runs 3 ?_;refine aw akp (aA call18 rfl (evc akE evn)) ?_;refine (D.no_stripes w16 _ HN16).mono ?_;rintro e w17 ⟨⟨A16, c16, rfl⟩, b3⟩;have HB17 := ae (HB16.out.trans (b3.mono HB16.out.size));have P17 := ae (aB P16 b3);have HN17 := ae (D.no_below HN16 b3);have HJ17 := ae (C.below HJ16 b3);have HP17 := ae (D.below HP16 b3);clear b3;refine aO ?_;refine akB (fI underlying48 rfl akE) ?_;refine akB (aF true rfl akE evk rfl) ?_;refine runs 3 ?_;refine aw akp (aA call23 rfl (evc akE evn)) ?_;refine (D.no_first w17 _ HN17).mono ?_;rintro e w18 ⟨rfl, b3⟩;have HB18 := ae (HB17.out.trans (b3.mono HB17.out.size));have P18 := ae (aB P17 b3);have HN18 := ae (D.no_below HN17 b3);have HJ18 := ae (C.below HJ17 b3);have HP18 := ae (D.below HP17 b3);clear b3;refine aO ?_;refine akB (aF true rfl akE evk rfl) ?_;refine runs 3 ?_;refine aw akp (aA call24 rfl (evc akE (evc evk evn))) ?_;refine (D.no_fits w18 _ HN18).mono ?_;rintro e w19 ⟨rfl, b3⟩;have HB19 := ae (HB18.out.trans (b3.mono HB18.out.size));have P19 := ae (aB P18 b3);have HN19 := ae (D.no_below HN18 b3);have HJ19 := ae (C.below HJ18 b3);have HP19 := ae (D.below HP18 b3);clear b3;refine aO ?_;refine runs 3 ?_;refine aw akp (aA call9 rfl evn) ?_;refine (yD D.toShPr w19).mono ?_;rintro e wz ⟨rfl, b9⟩;have HZ := ae (HB19.out.trans (b9.mono HB19.out.size));clear b9;refine aO ?_;refine aH 2 ?_;go_wp2_with fail;go_ret;exact ⟨rfl, HZ⟩
 ·go_upto_region 2 with fail;refine co 1 ?_;go_upto_region 3 with fail;refine af ?_;refine aku (jb rfl (D.bld0 _)) ?_;refine aku (ch (cs := D.zc) rfl akE) ?_;have hbx := (Below.refl w1.heap.size w1).alloc aj (.cells D.zc.toArray 66);have HN2 := ae (D.no_zero w1);have HB2 := ae (HB1.out.trans (hbx.mono HB1.out.size));have P2 := ae (aB P1 hbx);clear hbx;generalize w1.alloc (.cells D.zc.toArray 66) = w2 at *;refine aH 1 ?_;go_upto_region 4 with fail;refine af ?_;refine aw rfl (aA call6 rfl (evc evk evn)) ?_;refine (lS 0 3 w2 (by omega) rfl).mono ?_;rintro e w3 ⟨rfl, b3⟩;have HB3 := ae (HB2.out.trans (b3.mono HB2.out.size));have P3 := ae (aB P2 b3);have HN3 := ae (D.no_below HN2 b3);clear b3;refine aO ?_;refine aw rfl (aA call10 rfl (evc akE evn)) ?_;refine (uH C 3 w3 (fun i hi => (World.cell?_of_block (w := w) (HB3.out.block _ (zn.start HT).lo)).trans (HT.out i hi)) (by omega) (by omega)).mono ?_;rintro e w4 ⟨p, q, p2, q2, F2, rfl, a4, _⟩;have b4 := a4.bel;have HB4 := ae (HB3.out.trans (b4.mono HB3.out.size));have P4 := ae (aB P3 b4);have HN4 := ae (D.no_below HN3 b4);obtain ⟨G4, j4, _⟩ := a4;have HJ4 := ae j4;clear b4 j4;refine aO ?_;refine runs 3 ?_;refine runs 3 ?_;refine aH 1 ?_;go_upto_region 5 with fail;refine af ?_;refine aw rfl (aA call6 rfl (evc evk evn)) ?_;refine (lS 0 3 w4 (by omega) rfl).mono ?_;rintro e w5 ⟨rfl, b3⟩;have HB5 := ae (HB4.out.trans (b3.mono HB4.out.size));have P5 := ae (aB P4 b3);have HN5 := ae (D.no_below HN4 b3);have HJ5 := ae (C.below HJ4 b3);clear b3;refine aO ?_;refine aw rfl (aA call7 rfl (evc akE (evc evk evn))) ?_;refine (D.new_ok (N := 3) (T := 8) (room := 1) (r := 40) w5 (by decide) (by omega) (by omega)).mono ?_;rintro e w6 ⟨t, S, rfl, p6, b6, _⟩;have HB6 := ae (HB5.out.trans (b6.mono HB5.out.size));have P6 := ae (aB P5 b6);have HN6 := ae (D.no_below HN5 b6);have HJ6 := ae (C.below HJ5 b6);have HP6 := ae p6;clear p6 b6;refine aO ?_;refine runs 3 ?_;refine aH 2 ?_;go_upto_region 6 with fail;refine aI 2 ?_;refine aku (bL (cs := ([.int .i64 s, .int .i64 m] : List Value)) underlying43 rfl (by kernel_rfl) rfl akE (aQ P6)) ?_;refine aw rfl (aA call15 rfl (evc akE (evc akE (evc akE evn)))) ?_;refine (D.no_read w6 _ G4 q p _ s m HN6 HJ6).mono ?_;rintro e w7 ⟨⟨y, rfl⟩, b3⟩;have HB7 := ae (HB6.out.trans (b3.mono HB6.out.size));have P7 := ae (aB P6 b3);have HN7 := ae (D.no_below HN6 b3);have HJ7 := ae (C.below HJ6 b3);have HP7 := ae (D.below HP6 b3);clear b3;refine aO ?_;refine runs 3 ?_;refine aku (aU rfl) ?_;refine aG rfl (dy (c := y) rfl (ev rfl) (ev rfl)) ?_;simp only [aa];have hbx := (Below.refl w7.heap.size w7).alloc aj (.cells (cel y).toArray 45);have HB8 := ae (HB7.out.trans (hbx.mono HB7.out.size));have P8 := ae (aB P7 hbx);have HN8 := ae (D.no_below HN7 hbx);have HJ8 := ae (C.below HJ7 hbx);have HP8 := ae (D.below HP7 hbx);clear hbx;generalize w7.alloc (.cells (cel y).toArray 45) = w8 at *;refine aH 1 ?_;go_upto_region 7 with fail;refine aI 1 ?_;refine aku (bL (cs := ([.int .i64 s, .int .i64 m] : List Value)) underlying43 rfl (by kernel_rfl) rfl akE (aQ P8)) ?_;refine aw rfl (aA call15 rfl (evc akE (evc evk (evc akE evn)))) ?_;refine (D.read_no s m HP8).mono ?_;rintro e w9 ⟨⟨y2, rfl⟩, b3⟩;have HB9 := ae (HB8.out.trans (b3.mono HB8.out.size));have P9 := ae (aB P8 b3);have HN9 := ae (D.no_below HN8 b3);have HJ9 := ae (C.below HJ8 b3);have HP9 := ae (D.below HP8 b3);clear b3;refine aO ?_;refine runs 3 ?_;refine aku (aU rfl) ?_;refine aG rfl (dy (c := y2) rfl (ev rfl) (ev rfl)) ?_;simp only [aa];have hbx := (Below.refl w9.heap.size w9).alloc aj (.cells (cel y2).toArray 45);have HB10 := ae (HB9.out.trans (hbx.mono HB9.out.size));have P10 := ae (aB P9 hbx);have HN10 := ae (D.no_below HN9 hbx);have HJ10 := ae (C.below HJ9 hbx);have HP10 := ae (D.below HP9 hbx);clear hbx;generalize w9.alloc (.cells (cel y2).toArray 45) = w10 at *;refine aH 1 ?_;go_upto_region 8 with fail;refine aI 1 ?_;refine aku (aF true rfl akE evk rfl) ?_;refine runs 2 ?_;refine akB (aF true rfl akE evk rfl) ?_;refine runs 3 ?_;refine akB (aF true rfl akE evk rfl) ?_;refine runs 3 ?_;refine aw akp (aA call13 rfl (evc akE (evc evk (evc evk evn)))) ?_;refine (D.no_put w10 _ 1 HN10).mono ?_;rintro e w11 ⟨rfl, b3⟩;have HB11 := ae (HB10.out.trans (b3.mono HB10.out.size));have P11 := ae (aB P10 b3);have HN11 := ae (D.no_below HN10 b3);have HJ11 := ae (C.below HJ10 b3);have HP11 := ae (D.below HP10 b3);clear b3;refine aO ?_;refine akB (aF true rfl akE evk rfl) ?_;refine runs 3 ?_;refine runs 1 ?_;refine aw akp (aA call19 rfl (evc akE (evc akE evn))) ?_;refine (D.no_clean w11 _ n HN11).mono ?_;rintro e w12 ⟨rfl, b3⟩;have HB12 := ae (HB11.out.trans (b3.mono HB11.out.size));have P12 := ae (aB P11 b3);have HN12 := ae (D.no_below HN11 b3);have HJ12 := ae (C.below HJ11 b3);have HP12 := ae (D.below HP11 b3);clear b3;refine aO ?_;refine akB (aF true rfl akE evk rfl) ?_;refine runs 3 ?_;refine runs 1 ?_;refine aw akp (aA call20 rfl (evc akE (evc akE evn))) ?_;refine (D.no_drop w12 _ n HN12).mono ?_;rintro e w13 ⟨rfl, b3⟩;have HB13 := ae (HB12.out.trans (b3.mono HB12.out.size));have P13 := ae (aB P12 b3);have HN13 := ae (D.no_below HN12 b3);have HJ13 := ae (C.below HJ12 b3);have HP13 := ae (D.below HP12 b3);clear b3;refine aO ?_;refine akB (aF true rfl akE evk rfl) ?_;refine runs 3 ?_;refine runs 1 ?_;refine aw akp (aA call21 rfl (evc akE (evc akE evn))) ?_;refine (D.no_known w13 _ n HN13).mono ?_;rintro e w14 ⟨⟨A13, c13, rfl⟩, b3⟩;have HB14 := ae (HB13.out.trans (b3.mono HB13.out.size));have P14 := ae (aB P13 b3);have HN14 := ae (D.no_below HN13 b3);have HJ14 := ae (C.below HJ13 b3);have HP14 := ae (D.below HP13 b3);clear b3;refine aO ?_;refine akB (fI underlying67 rfl akE) ?_;refine akB (aF true rfl akE evk rfl) ?_;refine runs 3 ?_;refine runs 1 ?_;refine aw akp (aA call22 rfl (evc akE (evc akE evn))) ?_;refine (D.no_cells w14 _ n HN14).mono ?_;rintro e w15 ⟨⟨A14, c14, rfl⟩, b3⟩;have HB15 := ae (HB14.out.trans (b3.mono HB14.out.size));have P15 := ae (aB P14 b3);have HN15 := ae (D.no_below HN14 b3);have HJ15 := ae (C.below HJ14 b3);have HP15 := ae (D.below HP14 b3);clear b3;refine aO ?_;refine akB (fI underlying47 rfl akE) ?_;refine akB (aF true rfl akE evk rfl) ?_;refine runs 3 ?_;refine aw akp (aA call17 rfl (evc akE evn)) ?_;refine (D.no_dirty w15 _ HN15).mono ?_;rintro e w16 ⟨⟨A15, c15, rfl⟩, b3⟩;have HB16 := ae (HB15.out.trans (b3.mono HB15.out.size));have P16 := ae (aB P15 b3);have HN16 := ae (D.no_below HN15 b3);have HJ16 := ae (C.below HJ15 b3);have HP16 := ae (D.below HP15 b3);clear b3;refine aO ?_;refine akB (fI underlying48 rfl akE) ?_;refine akB (aF true rfl akE evk rfl) ?_;refine runs 3 ?_;refine aw akp (aA call18 rfl (evc akE evn)) ?_;refine (D.no_stripes w16 _ HN16).mono ?_;rintro e w17 ⟨⟨A16, c16, rfl⟩, b3⟩;have HB17 := ae (HB16.out.trans (b3.mono HB16.out.size));have P17 := ae (aB P16 b3);have HN17 := ae (D.no_below HN16 b3);have HJ17 := ae (C.below HJ16 b3);have HP17 := ae (D.below HP16 b3);clear b3;refine aO ?_;refine akB (fI underlying48 rfl akE) ?_;refine akB (aF true rfl akE evk rfl) ?_;refine runs 3 ?_;refine aw akp (aA call23 rfl (evc akE evn)) ?_;refine (D.no_first w17 _ HN17).mono ?_;rintro e w18 ⟨rfl, b3⟩;have HB18 := ae (HB17.out.trans (b3.mono HB17.out.size));have P18 := ae (aB P17 b3);have HN18 := ae (D.no_below HN17 b3);have HJ18 := ae (C.below HJ17 b3);have HP18 := ae (D.below HP17 b3);clear b3;refine aO ?_;refine akB (aF true rfl akE evk rfl) ?_;refine runs 3 ?_;refine aw akp (aA call24 rfl (evc akE (evc evk evn))) ?_;refine (D.no_fits w18 _ HN18).mono ?_;rintro e w19 ⟨rfl, b3⟩;have HB19 := ae (HB18.out.trans (b3.mono HB18.out.size));have P19 := ae (aB P18 b3);have HN19 := ae (D.no_below HN18 b3);have HJ19 := ae (C.below HJ18 b3);have HP19 := ae (D.below HP18 b3);clear b3;refine aO ?_;refine runs 3 ?_;refine aw akp (aA call9 rfl evn) ?_;refine (yD D.toShPr w19).mono ?_;rintro e wz ⟨rfl, b9⟩;have HZ := ae (HB19.out.trans (b9.mono HB19.out.size));clear b9;refine aO ?_;refine aH 2 ?_;go_wp2_with fail;go_ret;exact ⟨rfl, HZ⟩
def kyL (d : Nat -> Bool) (o : List Nat) : List Ky := o.map fun (n : Nat) => (⟨(n : Int), d n⟩ : Ky)
section
variable {d e : Nat -> Bool} {o : List Nat} {n i room : Nat} {s : ShS}
theorem cO : (kyL d o).length = o.length := List.length_map _
theorem r4 : fy (kyL d o) = o.map fun (n : Nat) => (n : Int) := by unfold fy kyL; rw [List.map_map]; rfl
theorem mF (hi : i < o.length) : (kyL d o).getD i ky0 = ⟨((o.getD i 0 : Nat) : Int), d (o.getD i 0)⟩ := getD_map (fun (n : Nat) => (⟨(n : Int), d n⟩ : Ky)) o 0 ky0 hi
theorem qR (h : ∀ n ∈ o, d n = e n) : kyL d o = kyL e o := List.map_congr_left fun n hn => by rw [h n hn]
theorem cY : plc (n : Int) (kyL d o) < (kyL d o).length ↔ n ∈ o := by
 rw [lO, r4, List.mem_map]
 constructor
 ·rintro ⟨j, h1, h2⟩;have : j = n := by omega
  subst this; exact h1
 ·intro h; exact ⟨n, h, rfl⟩
theorem lN (h : n ∈ o) : o.getD (plc (n : Int) (kyL d o)) 0 = n := by
 have h1 := cY (d := d).2 h;have h2 := oZ h1;rw [mF (by rw [cO] at h1; exact h1)] at h2;exact Int.ofNat.inj h2
theorem rM : ∀ {o : List Nat} {i : Nat}, o.Nodup -> i < o.length -> wo o i = dB o (o.getD i 0)
 |[], i, _, hi => by simp at hi
 |x :: r, 0, hd, _ => by
  obtain ⟨h1, h2⟩ := List.nodup_cons.1 hd;have e : dB (x :: r) x = dB r x := by unfold dB; simp
  show wo (x :: r) 0 = dB (x :: r) x
  rw [e, jF h1]
  rfl
 |x :: r, i + 1, hd, hi => by
  obtain ⟨h1, h2⟩ := List.nodup_cons.1 hd;have hi' : i < r.length := by simpa using hi
  have ih := rM h2 hi';have hm : r.getD i 0 ∈ r := cz hi';have hne : x ≠ r.getD i 0 := fun e => h1 (by rw [e]; exact hm)
  show wo (x :: r) (i + 1) = dB (x :: r) (r.getD i 0)
  have e : dB (x :: r) (r.getD i 0) = x :: dB r (r.getD i 0) := by
   unfold dB;rw [List.filter_cons, if_pos (by rw [am hne]; rfl)]
  rw [e, <- ih];unfold wo;simp
theorem wE (hd : o.Nodup) (hi : i < o.length) : wo (kyL d o) i = kyL d (dB o (o.getD i 0)) := by
 rw [<- rM hd hi];exact (mP _ o i).symm
theorem sr : lu (kyL d o) = luD d o := abd _ _ (by unfold kyL; rw [List.map_map]; rfl) fun k hk n hn => by
 obtain ⟨j, _, rfl⟩ := List.mem_map.1 hk;have : j = n := Int.ofNat.inj hn;subst this; rfl
theorem yq (hd : o.Nodup) (n : Nat) : xk (n : Int) (kyL d o) = kyL d (dB o n) := by
 unfold xk;by_cases h : n ∈ o
 ·rw [if_pos (cY.2 h), wE hd (by have := cY (d := d).2 h; rw [cO] at this; exact this), lN h]
 ·rw [if_neg (fun e => h (cY.1 e)), jF h]
theorem yS (hd : o.Nodup) (n : Nat) (is : Bool) : mW (n : Int) is (kyL d o) = kyL (dj d n is) o := by
 unfold mW;by_cases h : n ∈ o
 ·have hl := cY (d := d).2 h;have hl' : plc (n : Int) (kyL d o) < o.length := by rw [cO] at hl; exact hl
  have hp := lN (d := d) h;rw [if_pos hl];refine List.ext_getElem (by rw [List.length_set, cO, cO]) fun j h1 h2 => ?_
  have hj : j < o.length := by rw [cO] at h2; exact h2
  rw [List.getElem_set];have g : (kyL (dj d n is) o)[j] = ⟨((o.getD j 0 : Nat) : Int), dj d n is (o.getD j 0)⟩ := by
   rw [<- mF hj, List.getD, List.getElem?_eq_getElem h2]; rfl
  rw [g]
  split
  ·rename_i e; rw [<- e, hp, dc]
  ·rename_i e
   have g2 : (kyL d o)[j]'(by rw [cO]; exact hj) = ⟨((o.getD j 0 : Nat) : Int), d (o.getD j 0)⟩ := by
    rw [<- mF hj, List.getD, List.getElem?_eq_getElem (by rw [cO]; exact hj)]; rfl
   rw [g2, cj];intro e2;have p1 := kX hd hj;rw [e2, <- hp, kX hd hl'] at p1;exact e p1
 ·rw [if_neg (fun e => h (cY.1 e))];exact qR fun j hj => (cj d is fun e => h (by rw [<- e]; exact hj)).symm
theorem aeC (h : cf s) (n : Nat) : ql (n : Int) (kyL s.dty s.o) = s.dty n := by
 unfold ql;by_cases hn : n ∈ s.o
 ·have hl := cY (d := s.dty).2 hn;rw [ao hl, mF (by rw [cO] at hl; exact hl), lN hn]
  rfl
 ·rw [am fun e => hn (cY.1 e)];cases e : s.dty n
  ·rfl
  ·exact absurd ((h.mem n).2 (eW e)) hn
theorem cf.ki (h : cf s) (n : Nat) : (s.ln n).isNone = true ↔ n ∉ s.o := by
 rw [h.mem n]; cases s.ln n <;> simp
theorem i6 (h : cf s) (n : Nat) :
  (n ∈ s.o /\ s.goes n = false /\ s.eA n = true /\ s.cut n = s) \/
  (n ∉ s.o /\ s.o.length < s.room /\ s.goes n = false /\ s.eA n = true /\ s.cut n = s) \/
  (n ∉ s.o /\ ¬ s.o.length < s.room /\ luD s.dty s.o = 0 /\ s.goes n = true /\ s.eA n = false) \/
  (n ∉ s.o /\ ¬ s.o.length < s.room /\ 0 < luD s.dty s.o /\ s.goes n = true /\ s.eA n = true /\ s.cut n = { s.dn s.gone none with o := dB s.o s.gone }) := by
 have hb : ∀ g, s.goes n = g -> s.eA n = !(g && decide (luD s.dty s.o = 0)) := fun g e => by unfold ShS.eA; rw [e]
 have hc : s.goes n = false -> s.cut n = s := fun e => by unfold ShS.cut; rw [e]; rfl
 by_cases hn : n ∈ s.o
 ·have g : s.goes n = false := by
   unfold ShS.goes;cases e : (s.ln n).isNone
   ·rfl
   ·exact absurd hn ((h.ki n).1 e)
  exact .inl ⟨hn, g, by rw [hb _ g]; rfl, hc g⟩
 ·have hi := (h.ki n).2 hn;by_cases hl : s.o.length < s.room
  ·have g : s.goes n = false := by unfold ShS.goes; rw [hi, am (by omega)]; rfl
   exact .inr (.inl ⟨hn, hl, g, by rw [hb _ g]; rfl, hc g⟩)
  ·have g : s.goes n = true := by unfold ShS.goes; rw [hi, ao (by omega)]; rfl
   rcases Nat.eq_zero_or_pos (luD s.dty s.o) with h0 | h0
   ·exact .inr (.inr (.inl ⟨hn, hl, h0, g, by rw [hb _ g, ao h0]; rfl⟩))
   ·exact .inr (.inr (.inr ⟨hn, hl, h0, g, by rw [hb _ g, am (by omega)]; rfl, by unfold ShS.cut; rw [if_pos g]⟩))
theorem adS (h : cf s) (n : Nat) : vG s.room n (kyL s.dty s.o) = if s.eA n = true then 0 else 10 := by
 unfold vG;rw [sr, cO];rcases i6 h n with ⟨h1, _, h3, _⟩ | ⟨h1, h2, _, h3, _⟩ | ⟨h1, h2, h4, _, h3⟩ | ⟨h1, h2, h4, _, h3, _⟩
 ·rw [if_pos (by have := cY (d := s.dty).2 h1; rwa [cO] at this), if_pos h3]
 ·rw [if_neg (fun e => h1 (cY (d := s.dty).1 (by rw [cO]; exact e))), if_pos h2, if_pos h3]
 ·rw [if_neg (fun e => h1 (cY (d := s.dty).1 (by rw [cO]; exact e))), if_neg h2, if_pos h4, h3]; rfl
 ·rw [if_neg (fun e => h1 (cY (d := s.dty).1 (by rw [cO]; exact e))), if_neg h2, if_neg (by omega), if_pos h3]
theorem adl (h : cf s) (n : Nat) : wQ s.room n (kyL s.dty s.o) = (s.goes n && s.eA n) := by
 unfold wQ;rw [sr, cO];rcases i6 h n with ⟨h1, g, h3, _⟩ | ⟨h1, h2, g, h3, _⟩ | ⟨h1, h2, h4, g, h3⟩ | ⟨h1, h2, h4, g, h3, _⟩
 ·rw [if_pos (by have := cY (d := s.dty).2 h1; rwa [cO] at this), g]; rfl
 ·rw [if_neg (fun e => h1 (cY (d := s.dty).1 (by rw [cO]; exact e))), if_pos h2, g]; rfl
 ·rw [if_neg (fun e => h1 (cY (d := s.dty).1 (by rw [cO]; exact e))), if_neg h2, if_pos h4, g, h3]; rfl
 ·rw [if_neg (fun e => h1 (cY (d := s.dty).1 (by rw [cO]; exact e))), if_neg h2, if_neg (by omega), g, h3]; rfl
theorem ade (h : cf s) (n : Nat) (hg : s.goes n = true) (hb : s.eA n = true) : tW s.room n (kyL s.dty s.o) = (s.gone : Int) := by
 unfold tW;rw [sr, cO];rcases i6 h n with ⟨h1, g, h3, _⟩ | ⟨h1, h2, g, h3, _⟩ | ⟨h1, h2, h4, g, h3⟩ | ⟨h1, h2, h4, g, h3, _⟩
 ·rw [hg] at g; cases g
 ·rw [hg] at g; cases g
 ·rw [hb] at h3; cases h3
 ·have := xm (d := s.dty) s.o;rw [if_neg (fun e => h1 (cY (d := s.dty).1 (by rw [cO]; exact e))), if_neg h2, if_neg (by omega), mF (by omega)]
  rfl
theorem uI (s : ShS) (n : Nat) : (s.tch n).o = if s.eA n = true then n :: dB (s.cut n).o n else s.o := by unfold ShS.tch; split <;> rfl
theorem ace (h : cf s) (n : Nat) : vg s.room n (kyL s.dty s.o) = kyL s.dty (s.tch n).o := by
 unfold vg;rw [sr, cO, uI];have d0 : n ∉ s.o -> s.dty n = false := fun hn => by
  cases e : s.dty n
  ·rfl
  ·exact absurd ((h.mem n).2 (eW e)) hn
 rcases i6 h n with ⟨h1, g, h3, hc⟩ | ⟨h1, h2, g, h3, hc⟩ | ⟨h1, h2, h4, g, h3⟩ | ⟨h1, h2, h4, g, h3, hc⟩
 ·have hl : plc (n : Int) (kyL s.dty s.o) < s.o.length := by have := cY (d := s.dty).2 h1; rwa [cO] at this
  rw [if_pos hl, if_pos h3, hc, wE h.nd hl, mF hl, lN h1]
  rfl
 ·rw [if_neg (fun e => h1 (cY (d := s.dty).1 (by rw [cO]; exact e))), if_pos h2, if_pos h3, hc, jF h1]
  show _ = (⟨(n : Int), s.dty n⟩ : Ky) :: kyL s.dty s.o
  rw [d0 h1]
 ·rw [if_neg (fun e => h1 (cY (d := s.dty).1 (by rw [cO]; exact e))), if_neg h2, if_pos h4, h3]; rfl
 ·have hle := xm (d := s.dty) s.o;rw [if_neg (fun e => h1 (cY (d := s.dty).1 (by rw [cO]; exact e))), if_neg h2, if_neg (by omega), if_pos h3, hc, wE h.nd (by omega)]
  show _ = (⟨(n : Int), s.dty n⟩ : Ky) :: kyL s.dty (dB (dB s.o s.gone) n)
  rw [d0 h1, jF (n := n) (o := dB s.o s.gone) fun e => h1 (gC.1 e).1]
  rfl
end
open Go.Maps (Keyed)
def ptO : Option Nat -> Value
 |none => .pointer none
 |some b => .pointer (some ⟨b, 0, none⟩)
def ptD : Option Nat -> DataW Unit
 |none => .nil
 |some b => .lit (.int .i64 (b : Int))
def ptR : Value -> Option (DataW Unit × List MemPlace)
 |.pointer none => some (.nil, [])
 |.pointer (some ⟨b, 0, none⟩) => some (.lit (.int .i64 (b : Int)), [])
 |_ => none
theorem adv (m : Option Nat) : ptR (ptO m) = some (ptD m, []) := by cases m <;> rfl
theorem yK {v : Value} {m : Option Nat} {ps : List MemPlace} (h : ptR v = some (ptD m, ps)) : v = ptO m := by
 unfold ptR at h
 split at h
 ·cases m with
  |none => rfl
  |some b => simp [ptD] at h
 ·rename_i b
  cases m with
  |none => simp [ptD] at h
  |some b' =>
   simp [ptD] at h;have : b = b' := by omega
   subst this; rfl
 ·cases h
theorem fB : Keyed prog 3 := Maps.int_keyed underlying3
theorem qq {k : Int} (hw : (Lit.int .i64 k).wf = true) : keyOf prog 3 (.int .i64 k) = some (.int .i64 k) := Maps.keyOf_int_mk underlying3 hw
theorem ajz (w : World) : (zeroValue 118).run prog w = .ok (.pointer none) w := by kernel_rfl
def dG (w : World) (b N : Nat) (M : Int -> Option Nat) : Prop :=
 ∃ D : DataW Unit, w.ownsMap prog 3 ptR b N D /\ Maps.size D = N /\ ∀ k, (Lit.int .i64 k).wf = true -> D.atKey (.int .i64 k) .nil = ptD (M k) /\ Maps.has D (.int .i64 k) = (M k).isSome
theorem lT {w : World} {b n : Nat} {D : DataW Unit} (h : w.ownsMap prog 3 ptR b n D) : w.ownsMap prog 3 ptR b (Maps.size D) D := by
 obtain ⟨es, clock, hb, F, hs, rfl⟩ := h;exact ⟨es, clock, hb, F, by simp [Maps.size, length_sorted], rfl⟩
section
variable {w w' : World} {b N : Nat} {M : Int -> Option Nat} {k : Int}
theorem dG.kept (h : dG w b N M) (hk : ∀ es c, w.heap[b]? = some (.map es c) -> w'.heap[b]? = some (.map es c)) : dG w' b N M := by
 obtain ⟨D, ⟨es, c, hb, r⟩, h2⟩ := h;exact ⟨D, ⟨es, c, hk es c hb, r⟩, h2⟩
theorem dG.obj (h : dG w b N M) : ∃ es c, w.heap[b]? = some (.map es c) := by
 obtain ⟨D, ⟨es, c, hb, r⟩, h2⟩ := h;exact ⟨es, c, hb⟩
theorem dG.made (w : World) : dG (w.alloc (.map #[] 0)) w.heap.size 0 (fun _ => none) :=
 ⟨.map [], World.ownsMap_made _ _ _ _, rfl, fun k _ => ⟨rfl, rfl⟩⟩
theorem dG.look (h : dG w b N M) (hw : (Lit.int .i64 k).wf = true) : (Instr.lookup 121 (.map (some b)) (.int .i64 k) false).run prog w = .ok (ptO (M k)) w := by
 obtain ⟨D, h1, _, h3⟩ := h;obtain ⟨v, ps, hr, hv⟩ := h1.lookup fB underlying121 (ajz w) (zd := .nil) (zp := []) rfl (qq hw);rw [(h3 k hw).1] at hv;rw [hr, yK hv]
theorem dG.len (h : dG w b N M) (ty : TypeId) : (Builtin.len_ #[121] ty #[.map (some b)]).run prog w = .ok (.int .i64 (N : Int)) w := by
 obtain ⟨D, h1, h2, _⟩ := h;rw [h1.len underlying121 ty, h2]
theorem jC {j k : Int} (h : j ≠ k) : Lit.int .i64 j ≠ Lit.int .i64 k := fun e => h (by injection e)
theorem dG.store (h : dG w b N M) (hw : (Lit.int .i64 k).wf = true) (hn : M k = none) (hN : N < maxLen) (q : Nat) :
  ∃ w', (Instr.mapUpdate 121 (.map (some b)) (.int .i64 k) (.pointer (some ⟨q, 0, none⟩))).run prog w = .ok () w' /\ dG w' b (N + 1) (fun j => if j = k then some q else M j) /\ w.mapTurned w' b := by
 obtain ⟨D, h1, h2, h3⟩ := h;obtain ⟨w', hr, ho, ht⟩ := h1.store fB underlying121 hN (qq hw) (adv (some q));have hT := h1.tidy fB;have hk : WideAt.IsKeyLit (Lit.int .i64 k) := fB.key (qq hw);have hs : Maps.size (D.put (.int .i64 k) (ptD (some q))) = N + 1 := by
  rw [Maps.size_put hT, (h3 k hw).2, hn, h2]; rfl
 refine ⟨w', hr, ⟨_, by rw [<- hs]; exact lT ho, hs, fun j hj => ?_⟩, ht⟩;by_cases e : j = k
 ·subst e;dsimp only;rw [if_pos rfl, Maps.atKey_put_same hT.isMap hk, Maps.has_put_same hT.isMap hk];exact ⟨rfl, rfl⟩
 ·dsimp only;rw [if_neg e, Maps.atKey_put_other (jC e), Maps.has_put_other (jC e)];exact h3 j hj
theorem dG.del (h : dG w b (N + 1) M) (hw : (Lit.int .i64 k).wf = true) (hn : (M k).isSome = true) (ty : TypeId) :
  ∃ w', (Builtin.delete_ #[121, 3] ty #[.map (some b), .int .i64 k]).run prog w = .ok (.tuple #[]) w' /\ dG w' b N (fun j => if j = k then none else M j) /\ w.mapTurned w' b := by
 obtain ⟨D, h1, h2, h3⟩ := h;obtain ⟨w', hr, ho, ht⟩ := h1.drop fB underlying121 (qq hw) ty;have hT := h1.tidy fB;have hs : Maps.size (D.del (.int .i64 k)) = N := by
  have := Maps.size_del (k := .int .i64 k) hT;rw [(h3 k hw).2, hn, h2] at this
  simpa using this
 refine ⟨w', hr, ⟨_, by rw [<- hs]; exact lT ho, hs, fun j hj => ?_⟩, ht⟩;by_cases e : j = k
 ·subst e;dsimp only;rw [if_pos rfl, Maps.atKey_del_same, Maps.has_del_same];exact ⟨rfl, rfl⟩
 ·dsimp only;rw [if_neg e, Maps.atKey_del_other (jC e), Maps.has_del_other (jC e)];exact h3 j hj
end
section
variable {ρ : Operand -> Value} {o : Oper} {x y z : Operand} {w w' : World} {t r te : TypeId} {b N : Nat} {M : Int -> Option Nat} {p q s v : Value} {ad a1 a2 : Addr}
theorem cX (ho : o.op = .lookup t x y false) (hx : ρ x = p) (hy : ρ y = q) (h : (Instr.lookup t p q false).run prog w = .ok v w) : (execOp ρ o).run prog w = .ok (.value v) w := by
 unfold execOp;simp only [ho, hx, hy, Sem.run_bind, h, Result.andThen_ok, Sem.run_pure]
theorem i7 (ho : o.op = .mapUpdate t x y z) (hx : ρ x = p) (hy : ρ y = q) (hz : ρ z = s) (h : (Instr.mapUpdate t p q s).run prog w = .ok () w') : (execOp ρ o).run prog w = .ok .skip w' := by
 unfold execOp;simp only [ho, hx, hy, hz, Sem.run_bind, h, Result.andThen_ok, Sem.run_pure]
theorem oD (ho : o.op = .makeMap t none) : (execOp ρ o).run prog w = .ok (.value (.map (some w.heap.size))) (w.alloc (.map #[] 0)) := by
 unfold execOp;simp [ho, run_makeMap, Result.andThen]
theorem mH (ho : o.op = .call { callee := .builtin .len, args := #[x], argTypes := #[121] }) (hx : ρ x = .map (some b)) (h : dG w b N M) : (execOp ρ o).run prog w = .ok (.value (.int .i64 (N : Int))) w := by
 simp [execOp, ho, resolve, invoke, builtin, hx, h.len, Result.andThen]
theorem tA {t1 t2 : TypeId} (ho : o.op = .call { callee := .builtin .delete, args := #[x, y], argTypes := #[t1, t2] }) (hx : ρ x = p) (hy : ρ y = q) (h : (Builtin.delete_ #[t1, t2] o.type #[p, q]).run prog w = .ok v w') : (execOp ρ o).run prog w = .ok (.value v) w' := by
 simp [execOp, ho, resolve, invoke, builtin, hx, hy, h, Result.andThen]
theorem jw {ad : Addr} {a : Option Addr} (h : w.cell? ad = some (.pointer a)) : (Instr.loadAt 118 (.pointer (some ad))).run prog w = .ok (.pointer a) w := by simp [go_sem, h]
theorem pJ {ad : Addr} {a : Option Nat} (h : w.cell? ad = some (.map a)) : (Instr.loadAt 121 (.pointer (some ad))).run prog w = .ok (.map a) w := by simp [go_sem, h]
theorem sV {ad : Addr} {a : Bool} (h : w.cell? ad = some (.bool a)) : (Instr.loadAt 4 (.pointer (some ad))).run prog w = .ok (.bool a) w := by simp [go_sem, h]
theorem aaN {ad : Addr} {u : Value} {a : Option Addr} (h : w.cell? ad = some u) (hf : w.frozen? ad = false) : (Instr.storeAt 118 (.pointer (some ad)) (.pointer a)).run prog w = .ok () (w.setCell ad (.pointer a)) := by simp [go_sem, h, hf]
theorem ajd {ad : Addr} {u : Value} {a : Bool} (h : w.cell? ad = some u) (hf : w.frozen? ad = false) : (Instr.storeAt 4 (.pointer (some ad)) (.bool a)).run prog w = .ok () (w.setCell ad (.bool a)) := by simp [go_sem, h, hf]
theorem aca : (Instr.fieldAt 120 (.pointer (some ⟨b, 0, none⟩)) 0).run prog w = .ok (.pointer (some ⟨b, 0, none⟩)) w := by kernel_rfl
theorem yl : (Instr.fieldAt 120 (.pointer (some ⟨b, 0, none⟩)) 1).run prog w = .ok (.pointer (some ⟨b, 1, none⟩)) w := by kernel_rfl
theorem nw : (Instr.fieldAt 120 (.pointer (some ⟨b, 0, none⟩)) 2).run prog w = .ok (.pointer (some ⟨b, 2, none⟩)) w := by kernel_rfl
theorem mv : (Instr.fieldAt 120 (.pointer (some ⟨b, 0, none⟩)) 3).run prog w = .ok (.pointer (some ⟨b, 3, none⟩)) w := by kernel_rfl
theorem adr : (Instr.fieldAt 123 (.pointer (some ⟨b, 0, none⟩)) 0).run prog w = .ok (.pointer (some ⟨b, 0, none⟩)) w := by kernel_rfl
theorem nq : (Instr.fieldAt 123 (.pointer (some ⟨b, 0, none⟩)) 1).run prog w = .ok (.pointer (some ⟨b, 1, none⟩)) w := by kernel_rfl
theorem kz : (Instr.fieldAt 123 (.pointer (some ⟨b, 0, none⟩)) 2).run prog w = .ok (.pointer (some ⟨b, 2, none⟩)) w := by kernel_rfl
end
theorem agt : ∃ j, prog.info? 120 = some j /\ j.size ≠ 0 := by
 have h : (prog.info? 120).map (·.size) = some 4 := by kernel_rfl
 cases hq : prog.info? 120 with
 |none => rw [hq] at h; cases h
 |some j => rw [hq] at h; exact ⟨j, rfl, by simp at h; omega⟩
def qp (x : Ky) (u v : Value) : List Value := [.int .i64 x.n, .bool x.pin, u, v]
def dz (w : World) (b : Nat) (x : Ky) (u v : Value) : Prop := w.heap[b]? = some (.cells (qp x u v).toArray 120 (0, 0))
section
variable {w w' : World} {b q : Nat} {x : Ky} {u v : Value}
theorem dz.c0 (h : dz w b x u v) : w.cell? ⟨b, 0, none⟩ = some (.int .i64 x.n) := (aQ h) 0 _ rfl
theorem dz.c1 (h : dz w b x u v) : w.cell? ⟨b, 1, none⟩ = some (.bool x.pin) := (aQ h) 1 _ rfl
theorem dz.c2 (h : dz w b x u v) : w.cell? ⟨b, 2, none⟩ = some u := (aQ h) 2 _ rfl
theorem dz.c3 (h : dz w b x u v) : w.cell? ⟨b, 3, none⟩ = some v := (aQ h) 3 _ rfl
theorem dz.fz (h : dz w b x u v) (j : Nat) : w.frozen? ⟨b, j, none⟩ = false := frozen_of_row w b j _ _ h
theorem dz.s1 (h : dz w b x u v) (is : Bool) : dz (w.setCell ⟨b, 1, none⟩ (.bool is)) b ⟨x.n, is⟩ u v := by
 have := heap_setCell_same w b 1 _ _ (.bool is) h
 simpa [dz, qp] using this
theorem dz.s2 (h : dz w b x u v) (s : Value) : dz (w.setCell ⟨b, 2, none⟩ s) b x s v := by
 have := heap_setCell_same w b 2 _ _ s h
 simpa [dz, qp] using this
theorem dz.s3 (h : dz w b x u v) (s : Value) : dz (w.setCell ⟨b, 3, none⟩ s) b x u s := by
 have := heap_setCell_same w b 3 _ _ s h
 simpa [dz, qp] using this
theorem dz.other (h : dz w b x u v) {p : Addr} (hp : b ≠ p.block) (s : Value) : dz (w.setCell p s) b x u v := by
 unfold dz;rw [heap_setCell_other w p b s hp];exact h
end
def ptB (b : Nat) : Value := .pointer (some ⟨b, 0, none⟩)
def Lnk (w : World) (ky : Nat -> Ky) (pv nx : Nat -> Nat) (S : List Nat) : Prop := ∀ b ∈ S, dz w b (ky b) (ptB (pv b)) (ptB (nx b))
section
variable {w w' : World} {ky : Nat -> Ky} {pv nx : Nat -> Nat} {S S' : List Nat} {x y : Nat}
theorem Lnk.sub (h : Lnk w ky pv nx S) (hs : ∀ b ∈ S', b ∈ S) : Lnk w ky pv nx S' := fun b hb => h b (hs b hb)
theorem Lnk.s2 (h : Lnk w ky pv nx S) (y : Nat) (hx : x ∈ S) : Lnk (w.setCell ⟨x, 2, none⟩ (ptB y)) ky (dj pv x y) nx S := fun b hb => by
 by_cases e : b = x
 ·subst e; rw [dc]; exact (h b hb).s2 _
 ·rw [cj _ _ e]; exact (h b hb).other e _
theorem Lnk.s3 (h : Lnk w ky pv nx S) (y : Nat) (hx : x ∈ S) : Lnk (w.setCell ⟨x, 3, none⟩ (ptB y)) ky pv (dj nx x y) S := fun b hb => by
 by_cases e : b = x
 ·subst e; rw [dc]; exact (h b hb).s3 _
 ·rw [cj _ _ e]; exact (h b hb).other e _
theorem Lnk.s1 (h : Lnk w ky pv nx S) (is : Bool) (hx : x ∈ S) : Lnk (w.setCell ⟨x, 1, none⟩ (.bool is)) (dj ky x ⟨(ky x).n, is⟩) pv nx S := fun b hb => by
 by_cases e : b = x
 ·subst e; rw [dc]; exact (h b hb).s1 _
 ·rw [cj _ _ e]; exact (h b hb).other e _
theorem Lnk.add (h : Lnk w ky pv nx S) (hx : dz w x (ky x) (ptB (pv x)) (ptB (nx x))) : Lnk w ky pv nx (x :: S) := fun b hb => by
 rcases List.mem_cons.1 hb with rfl | hb
 ·exact hx
 ·exact h b hb
theorem Lnk.keep (h : Lnk w ky pv nx S) (hk : ∀ (b : Nat) (cs : Array Value), w.heap[b]? = some (Obj.cells cs 120 (0, 0)) -> w'.heap[b]? = some (Obj.cells cs 120 (0, 0))) : Lnk w' ky pv nx S := fun b hb => hk b _ (h b hb)
end
def tF : Obj -> Prop
 |.map _ _ => True
 |.cells _ t _ => t = 120 \/ t = 123
 |_ => False
end Go.Proofs.YtdmhelalbemlcaaGreatDoor
