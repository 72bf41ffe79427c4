import Derived.Test.YtdmhelalbemlcaaGreatDoorSlaj
namespace Go.Proofs.YtdmhelalbemlcaaGreatDoor
set_option maxHeartbeats 8000000
open Go.Proofs.Tryz
open Go.RowKit
set_option linter.unusedVariables false
set_option linter.unusedSimpArgs false
set_option maxRecDepth 100000
structure PSt (w0 : World) (S0 : Nat -> Prop) (w : World) (t lp mp : Nat) (FL : Nat -> Prop) (L : List Ky) (c : Nat) (m : Nat -> Option Nat) (ln : Nat -> Option LnS) (N T room : Nat) (r : Int) : Prop where
 u : PRu w t lp mp FL L c m ln N T room r
 on : Only S0 w0 w
 gr : Grow w0 S0 (qi t mp FL m)
section
variable {w0 w w' : World} {S0 : Nat -> Prop} {t lp mp c N T room n b : Nat} {FL FL' : Nat -> Prop} {L L' : List Ky} {m : Nat -> Option Nat} {ln : Nat -> Option LnS} {r : Int}
theorem PSt.start (h : PRu w t lp mp FL L c m ln N T room r) : PSt w (qi t mp FL m) w t lp mp FL L c m ln N T room r := ⟨h, Only.refl _ _, Grow.same _ _⟩
theorem PSt.below (h : PSt w0 S0 w t lp mp FL L c m ln N T room r) (hb : Below w.heap.size w w') : PSt w0 S0 w' t lp mp FL L c m ln N T room r := ⟨h.u.below hb, h.on.ii hb, h.gr⟩
theorem PSt.step {F : Nat -> Prop} (h : PSt w0 S0 w t lp mp FL L c m ln N T room r) (hk : Only F w w') (hF : ∀ b, F b -> qi t mp FL m b) : Only S0 w0 w' :=
 h.on.trans hk fun b hb => h.gr b (hF b hb)
theorem PSt.list {B : Nat -> Prop} (h : PSt w0 S0 w t lp mp FL L c m ln N T room r) (hB : B = fun b => FL b \/ w.heap.size <= b) (hl : PLF w' B lp room L') (hk : f6 B w w') : ∃ FL', PSt w0 S0 w' t lp mp FL' L' c m ln N T room r := by
 subst hB;have hs := hk.size;have ho : Only FL w w' := ⟨hk.only.os, hk.only.tape, hk.only.output, hk.only.size, fun b hb hn => hk.only.block b hb fun e => e.elim hn fun e2 => by omega⟩;refine ⟨fun b => (FL b \/ w.heap.size <= b) /\ b < w'.heap.size, h.u.list ho (hl.mono fun b h1 h2 => ⟨h1, h2⟩) (fun b hb => hb.1) fun b hb => hb.2, h.step ho fun b hb => .inr (.inr (.inl hb)), fun b hb => ?_⟩;have hsz := h.on.size;rcases hb with e | e | e | e
 ·exact h.gr b (.inl e)
 ·exact h.gr b (.inr (.inl e))
 ·rcases e.1 with e | e
  ·exact h.gr b (.inr (.inr (.inl e)))
  ·exact .inr (by omega)
 ·exact h.gr b (.inr (.inr (.inr e)))
theorem PSt.line {y : LnS} (h : PSt w0 S0 w t lp mp FL L c m ln N T room r) (hn : m n = some b) (hk : bU lU (fun j => j = b) w w') (hl : mR w' (fun j => j = b) b y) : PSt w0 S0 w' t lp mp FL L c m (fun j => if j = n then some y else ln j) N T room r :=
 ⟨h.u.line hn hk.only hl.1 hl.2.2, h.step hk.only fun j hj => .inr (.inr (.inr ⟨n, by rw [hj]; exact hn⟩)), h.gr⟩
theorem PSt.del (h : PSt w0 S0 w t lp mp FL L (c + 1) m ln N T room r) (hk : w.mapTurned w' mp) (hm : dG w' mp c (fun j => if j = (n : Int) then none else mLn m j)) : PSt w0 S0 w' t lp mp FL L c (fun j => if j = n then none else m j) (fun j => if j = n then none else ln j) N T room r := by
 refine ⟨h.u.del hk hm, h.step (fC (F := fun j => j = mp) hk rfl) fun j hj => .inr (.inl hj), fun b hb => ?_⟩;rcases hb with e | e | e | ⟨j, e⟩
 ·exact h.gr b (.inl e)
 ·exact h.gr b (.inr (.inl e))
 ·exact h.gr b (.inr (.inr (.inl e)))
 ·try dsimp only at e
  by_cases ej : j = n
  ·rw [if_pos ej] at e; cases e
  ·rw [if_neg ej] at e; exact h.gr b (.inr (.inr (.inr ⟨j, e⟩)))
theorem PSt.add {y : LnS} {w1 : World} (h : PSt w0 S0 w t lp mp FL L c m ln N T room r) (hn : m n = none) (hw1 : Below w.heap.size w w1) (hb : LnA w1 b (lf y)) (hbw : w.heap.size <= b) (hy : dI y) (hk : w1.mapTurned w' mp) (hm : dG w' mp (c + 1) (fun j => if j = (n : Int) then some b else mLn m j)) : PSt w0 S0 w' t lp mp FL L (c + 1) (fun j => if j = n then some b else m j) (fun j => if j = n then some y else ln j) N T room r := by
 have h1 := h.below hw1;have hs := h.u.size;refine ⟨h1.u.add hn hb hy (fun e => by have := h.u.lt b e; omega) (fun j e => by have := hs b (.inr (.inr (.inr ⟨j, e⟩))); omega) hk hm, h1.step (fC (F := fun j => j = mp) hk rfl) fun j hj => .inr (.inl hj), fun q hq => ?_⟩;have hsz := h.on.size;rcases hq with e | e | e | ⟨j, e⟩
 ·exact h.gr q (.inl e)
 ·exact h.gr q (.inr (.inl e))
 ·exact h.gr q (.inr (.inr (.inl e)))
 ·try dsimp only at e
  by_cases ej : j = n
  ·rw [if_pos ej] at e; cases e; exact .inr (by omega)
  ·rw [if_neg ej] at e; exact h.gr q (.inr (.inr (.inr ⟨j, e⟩)))
end
theorem ny {ops : Array Oper} {rest : List Oper} {o : Oper} {a : Act} {w : World} {M : Int -> Option Nat} {k : Int} {Q : Exit -> Act -> World -> Prop} {x y : Operand} {N b : Nat} (hg : o.guard = none) (ho : o.op = .call { callee := .builtin .delete, args := #[x, y], argTypes := #[64, 3] })
  (hx : a.eval x = .map (some b)) (hy : a.eval y = .int .i64 k) (h : dG w b (N + 1) M) (hw : (Lit.int .i64 k).wf = true) (hn : (M k).isSome = true)
  (hk : ∀ w', dG w' b N (fun j => if j = k then none else M j) -> w.mapTurned w' b -> wpList prog ops Q rest (a.put o.dst (.tuple #[])) w') : wpList prog ops Q (o :: rest) a w := by
 obtain ⟨w', h1, h2, h3⟩ := h.aj9 hw hn o.type;exact av hg (tA ho hx hy h1) (hk w' h2 h3)
def PSx (w0 : World) (S0 : Nat -> Prop) (w : World) (t : Nat) (s : ShS) : Prop := ∃ lp mp FL m r, PSt w0 S0 w t lp mp FL (kyL s.dty s.o) s.o.length m s.ln s.N s.T s.room r /\ cf s
section
variable {w0 w w' : World} {S0 S : Nat -> Prop} {t K : Nat} {s : ShS}
theorem PSh.x (h : PSh w S t K s) : PSx w S w t s := by
 obtain ⟨lp, mp, FL, m, r, h1, h2, rfl⟩ := h;exact ⟨lp, mp, FL, m, r, PSt.start h1, h2⟩
theorem PSx.res (h : PSx w0 S0 w t s) (K : Nat) : ∃ S', PSh w S' t K s /\ Only S0 w0 w /\ Grow w0 S0 S' := by
 obtain ⟨lp, mp, FL, m, r, h1, h2⟩ := h;exact ⟨_, ⟨lp, mp, FL, m, r, h1.u, h2, rfl⟩, h1.on, h1.gr⟩
theorem PSx.below (h : PSx w0 S0 w t s) (hb : Below w.heap.size w w') : PSx w0 S0 w' t s := by
 obtain ⟨lp, mp, FL, m, r, h1, h2⟩ := h;exact ⟨lp, mp, FL, m, r, h1.below hb, h2⟩
theorem PSx.ok (h : PSx w0 S0 w t s) : cf s := by obtain ⟨lp, mp, FL, m, r, h1, h2⟩ := h; exact h2
theorem PSx.only (h : PSx w0 S0 w t s) : Only S0 w0 w := by obtain ⟨lp, mp, FL, m, r, h1, h2⟩ := h; exact h1.on
end
theorem mK {o : List Nat} {n : Nat} (hd : o.Nodup) (h : n ∈ o) : (dB o n).length + 1 = o.length := by
 have hl := cY (d := fun _ => false) (o := o).2 h;have hl' : plc (n : Int) (kyL (fun _ => false) o) < o.length := by rw [cO] at hl; exact hl
 have := ol (L := o) hl';rwa [rM hd hl', lN h] at this
theorem abC {s : ShS} (h : cf s) (n : Nat) : (s.tch n).dty = s.dty := funext fun j => h.yp n j
theorem oI (s : ShS) (n : Nat) (h : s.eA n = true) : (s.tch n).ln = fun j => if j = n then some (s.bX n) else (s.cut n).ln j := by unfold ShS.tch; rw [if_pos h]; rfl
theorem acX (s : ShS) (n : Nat) (h : s.eA n = false) : s.tch n = s := by unfold ShS.tch; rw [if_neg (by rw [h]; decide)]
def tcE (s : ShS) (n : Nat) : Int := if s.eA n = true then 0 else 10
theorem mh {w0 w : World} {S0 : Nat -> Prop} {t n : Nat} {s : ShS} (h : PSx w0 S0 w t s) (hn : n < s.T) : Calls prog 59 #[.pointer (some ⟨t, 0, none⟩), .int .i64 (n : Int)] w fun e w' => e = .returned (.int .i64 (tcE s n)) /\ PSx w0 S0 w' t (s.tch n) := by
 obtain ⟨lp, mp, FL, m, r, h, hok⟩ := h;have hn64 : n < 64 := by have := hok.t64; omega
 have HW := ae (gI hn64);have HOK := ae hok;have HOK2 := ae (hok.tch hn);have HS := ae h;have HL : Hid (PLF w (fun b => FL b \/ w.heap.size <= b) lp s.room (kyL s.dty s.o)) := ae (h.u.li.mono fun b h1 _ => .inl h1);have HN1 : Hid (1 <= s.N) := ae (by have := hok.n3; omega);have HN2 : Hid (s.N <= 16) := ae hok.n16;have HEQ := ae (adS hok n);have HWQ := ae (adl hok n);have HSQ : Hid (vg s.room (n : Int) (kyL s.dty s.o) = kyL (s.tch n).dty (s.tch n).o) := ae (by rw [ace hok n, abC hok n]);have HNQ := ae (s.ph n);have HM64 : Hid (s.o.length <= 64) := ae (by have := hok.len; have := hok.r64; omega);obtain ⟨g0, hg0⟩ : ∃ g0, tW s.room (n : Int) (kyL s.dty s.o) = g0 := ⟨_, rfl⟩;have HG0 := ae hg0;have htc := i6 hok n;clear hg0 h hn hn64;go_enter func59, ntmps59;rcases htc with ⟨c1, c2, c3, c4⟩ | ⟨c1, cl, c2, c3, c4⟩ | ⟨c1, cl, c0, c2, c3⟩ | ⟨c1, cl, c0, c2, c3, c4⟩
 ·have HTB := ae c3;have HTE : Hid ((if s.eA n = true then (0 : Int) else 10) = 0) := ae (if_pos c3);have HTW : Hid ((s.goes n && s.eA n) = false) := ae (by rw [c2]; rfl);obtain ⟨x, hx⟩ := Option.isSome_iff_exists.1 ((hok.mem n).1 c1);have hl := HS.out.u.ln n;rw [hx] at hl;obtain ⟨a, ha, _, _⟩ := hl.some_;have HA := ae ha;have HF : Hid ((s.tch n).o.length = s.o.length /\ (s.tch n).ln = s.ln) := ae (by
   refine ⟨by rw [uI, if_pos c3, c4, List.length_cons, mK hok.nd c1], ?_⟩;rw [oI s n c3, c4]
   funext j
   by_cases e : j = n
   ·subst e; rw [if_pos rfl, dW hx, hx]
   ·rw [if_neg e])
  clear c1 c2 c3 c4 hok hx hl ha;go_upto_region 1 with fail;refine aI 2 ?_;refine aku (ax rfl akE jP) ?_;refine aku (aC rfl akE (nA (PRu.c3 HS.out.u))) ?_;refine runs 1 ?_;refine aw rfl (aA call112 rfl (evc akE (evc akE evn))) ?_;refine (kV w (fun b hb => .inr hb) HL HW).mono ?_;rintro e w1 ⟨rfl, l1, t1⟩;rw [HSQ.out] at l1;obtain ⟨FL1, hs1⟩ := HS.out.list rfl l1 t1;have HS1 := ae hs1;rw [HEQ.out, HWQ.out, HG0.out, HTE.out, HTW.out];clear l1 t1 hs1;refine aO ?_;refine runs 3 ?_;refine runs 3 ?_;refine aH 1 ?_;go_upto_region 2 with fail;refine aI 1 ?_;refine aku (aL false rfl akE evk rfl) ?_;refine ah ?_;have HK : Hid ((Instr.lookup 64 (.map (some mp)) (.int .i64 (n : Int)) false).run prog w1 = .ok (.pointer (some ⟨a, 0, none⟩)) w1) := ae (by
   have := HS1.out.u.map.jT HW;rwa [show mLn m (n : Int) = some a from by unfold mLn; rw [if_pos (by omega), Int.toNat_natCast, HA.out]] at this)
  have HSF : Hid (PSt w0 S0 w1 t lp mp FL1 (kyL (s.tch n).dty (s.tch n).o) (s.tch n).o.length m (s.tch n).ln (s.tch n).N (s.tch n).T (s.tch n).room r) := ae (by rw [HF.out.1, HF.out.2, HNQ.out.1, HNQ.out.2.1, HNQ.out.2.2]; exact HS1);go_upto_region 4 with fail;refine co 1 ?_;go_upto_region 6 with fail;refine aI 2 ?_;refine aku (ax rfl akE fV) ?_;refine aku (aC rfl akE (jW (PRu.c4 HS1.out.u))) ?_;refine runs 1 ?_;refine aku (cX rfl akE akE HK) ?_;refine aku (cI false underlying109 rfl akE evk rfl) ?_;refine ah ?_;go_upto_region 8 with fail;refine co 2 ?_;go_wp2_with fail;go_ret;exact ⟨by unfold tcE; rw [HTB.out]; rfl, lp, mp, _, _, r, HSF, HOK2⟩
 ·have HTB := ae c3;have HTE : Hid ((if s.eA n = true then (0 : Int) else 10) = 0) := ae (if_pos c3);have HTW : Hid ((s.goes n && s.eA n) = false) := ae (by rw [c2]; rfl);have hx : s.ln n = none := by
   have := (hok.ki n).2 c1;cases e : s.ln n with
   |none => rfl
   |some y => rw [e] at this; cases this
  have hl := HS.out.u.ln n;rw [hx] at hl;have HMJ := ae hl.none_;have HMN : Hid (mLn m (n : Int) = none) := ae (by unfold mLn; rw [if_pos (by omega), Int.toNat_natCast, hl.none_]);have HCN := HM64;have HF : Hid ((s.tch n).o.length = s.o.length + 1 /\ (s.tch n).ln = fun j => if j = n then some (dQ s.N) else s.ln j) := ae (by
   refine ⟨by rw [uI, if_pos c3, c4, List.length_cons, jF c1], ?_⟩;rw [oI s n c3, c4, gW hx])
  clear c1 cl c2 c3 c4 hok hx hl;go_upto_region 1 with fail;refine aI 2 ?_;refine aku (ax rfl akE jP) ?_;refine aku (aC rfl akE (nA (PRu.c3 HS.out.u))) ?_;refine runs 1 ?_;refine aw rfl (aA call112 rfl (evc akE (evc akE evn))) ?_;refine (kV w (fun b hb => .inr hb) HL HW).mono ?_;rintro e w1 ⟨rfl, l1, t1⟩;rw [HSQ.out] at l1;obtain ⟨FL1, hs1⟩ := HS.out.list rfl l1 t1;have HS1 := ae hs1;rw [HEQ.out, HWQ.out, HG0.out, HTE.out, HTW.out];clear l1 t1 hs1;refine aO ?_;refine runs 3 ?_;refine runs 3 ?_;refine aH 1 ?_;go_upto_region 2 with fail;refine aI 1 ?_;refine aku (aL false rfl akE evk rfl) ?_;refine ah ?_;have HK : Hid ((Instr.lookup 64 (.map (some mp)) (.int .i64 (n : Int)) false).run prog w1 = .ok (.pointer none) w1) := ae (by
   have := HS1.out.u.map.jT HW;rwa [HMN.out] at this)
  go_upto_region 4 with fail;refine co 1 ?_;go_upto_region 6 with fail;refine aI 2 ?_;refine aku (ax rfl akE fV) ?_;refine aku (aC rfl akE (jW (PRu.c4 HS1.out.u))) ?_;refine runs 1 ?_;refine aku (cX rfl akE akE HK) ?_;refine aku (cI true underlying109 rfl akE evk rfl) ?_;refine ah ?_;go_upto_region 7 with fail;refine wp_region_held (S := fun w' => w'.cell? ⟨t, 0, none⟩ = some (.int .i64 (s.N : Int)) /\ w'.cell? ⟨t, 4, none⟩ = some (.map (some mp))) (by kernel_rfl) ?_;change wpAnyH _ _ _ _ _ 16 _ _ w1.drew;refine akR 0 rfl ⟨HS1.out.u.c0, HS1.out.u.c4⟩ ?_;refine akT 1 rfl ⟨HS1.out.u.c0, HS1.out.u.c4⟩ ?_;refine akx 2 rfl (fun _ hw => ax rfl akE fV) ⟨HS1.out.u.c0, HS1.out.u.c4⟩ ?_;refine akx 3 rfl (fun _ hw => aC rfl akE (jW hw.2)) ⟨HS1.out.u.c0, HS1.out.u.c4⟩ ?_;refine akR 4 rfl ⟨HS1.out.u.c0, HS1.out.u.c4⟩ ?_;refine akR 5 rfl ⟨HS1.out.u.c0, HS1.out.u.c4⟩ ?_;refine akT 6 rfl ⟨HS1.out.u.c0, HS1.out.u.c4⟩ ?_;refine akx 7 rfl (fun _ hw => ax rfl akE uE) ⟨HS1.out.u.c0, HS1.out.u.c4⟩ ?_;refine akx 8 rfl (fun _ hw => ax rfl akE acc) ⟨HS1.out.u.c0, HS1.out.u.c4⟩ ?_;refine akx 9 rfl (fun _ hw => aC rfl akE (bS hw.1)) ⟨HS1.out.u.c0, HS1.out.u.c4⟩ ?_;refine dU 10 rfl (by kernel_rfl) rfl (aA call113 rfl (evc akE evn)) ?_;refine (x9 s.N _ HN1 HN2).mono ?_;rintro e wA ⟨q, rfl, ⟨hq1, hq2⟩, bA⟩;have bA' : Below w1.heap.size w1 wA := ((Below.refl _ w1).drew).trans bA;have hsA := HS1.out.below bA';obtain ⟨wB, hrB, hmB, htB⟩ := hsA.u.map.abe HW HMN (by unfold maxLen; have := HCN.out; omega) q;have HRB := ae hrB;have HSB := ae (HS1.out.add HMJ bA' hq1 hq2 (dI.new HN1 HN2) htB hmB);have HSA : Hid (wA.cell? ⟨t, 0, none⟩ = some (.int .i64 (s.N : Int)) /\ wA.cell? ⟨t, 4, none⟩ = some (.map (some mp))) := ae ⟨hsA.u.c0, hsA.u.c4⟩;have HSC : Hid (wB.cell? ⟨t, 0, none⟩ = some (.int .i64 (s.N : Int)) /\ wB.cell? ⟨t, 4, none⟩ = some (.map (some mp))) := ae ⟨HSB.out.u.c0, HSB.out.u.c4⟩;clear hq1 hq2 bA bA' hsA hrB hmB htB;refine ⟨_, rfl, HSA, ?_⟩;simp only [aa];refine akR 11 rfl HSA ?_;refine akU 12 rfl HSA ?_;refine akU 13 rfl HSA ?_;refine dr 14 rfl (by kernel_rfl) rfl (i7 rfl (ev rfl) (ev rfl) (ev rfl) HRB.out) HSC.out ?_;simp only [Act.put];refine akS 15 rfl HSC ?_;refine wpAnyH_done (by kernel_rfl) ?_ _;have HSF : Hid (PSt w0 S0 wB t lp mp FL1 (kyL (s.tch n).dty (s.tch n).o) (s.tch n).o.length (fun j => if j = n then some q else m j) (s.tch n).ln (s.tch n).N (s.tch n).T (s.tch n).room r) := ae (by rw [HF.out.1, HF.out.2, HNQ.out.1, HNQ.out.2.1, HNQ.out.2.2]; exact HSB);go_upto_region 8 with fail;refine co 2 ?_;go_wp2_with fail;go_ret;exact ⟨by unfold tcE; rw [HTB.out]; rfl, lp, mp, _, _, r, HSF, HOK2⟩
 ·have HTB := ae c3;have HTE : Hid ((if s.eA n = true then (0 : Int) else 10) = 10) := ae (if_neg (by rw [c3]; decide));have HTW : Hid ((s.goes n && s.eA n) = false) := ae (by rw [c3, Bool.and_false]);have HF := ae (acX s n c3);clear c1 cl c0 c2 c3 hok;go_upto_region 1 with fail;refine aI 2 ?_;refine aku (ax rfl akE jP) ?_;refine aku (aC rfl akE (nA (PRu.c3 HS.out.u))) ?_;refine runs 1 ?_;refine aw rfl (aA call112 rfl (evc akE (evc akE evn))) ?_;refine (kV w (fun b hb => .inr hb) HL HW).mono ?_;rintro e w1 ⟨rfl, l1, t1⟩;rw [HSQ.out] at l1;obtain ⟨FL1, hs1⟩ := HS.out.list rfl l1 t1;have HS1 := ae hs1;rw [HEQ.out, HWQ.out, HG0.out, HTE.out, HTW.out];clear l1 t1 hs1;refine aO ?_;refine runs 3 ?_;refine runs 3 ?_;refine aH 1 ?_;go_upto_region 2 with fail;refine aI 1 ?_;refine aku (aL true rfl akE evk rfl) ?_;refine ah ?_;go_upto_region 3 with fail;refine co 2 ?_;go_wp2_with fail;go_ret;exact ⟨by unfold tcE; rw [HTB.out]; rfl, lp, mp, _, _, r, by have := HS1.out; rw [HF.out] at this ⊢; exact this, HOK2⟩
 ·have HTB := ae c3;have HTE : Hid ((if s.eA n = true then (0 : Int) else 10) = 0) := ae (if_pos c3);have HTW : Hid ((s.goes n && s.eA n) = true) := ae (by rw [c2, c3]; rfl);have HGQ : Hid (g0 = (s.gone : Int)) := ae (by rw [<- HG0.out]; exact ade hok n c2 c3);obtain ⟨hgm, _⟩ := hok.gone c0;have hgT := hok.lt _ hgm;have hx : s.ln n = none := by
   have := (hok.ki n).2 c1;cases e : s.ln n with
   |none => rfl
   |some y => rw [e] at this; cases this
  have hl := HS.out.u.ln n;rw [hx] at hl;obtain ⟨xg, hxg⟩ := Option.isSome_iff_exists.1 ((hok.mem s.gone).1 hgm);have hlg := HS.out.u.ln s.gone;rw [hxg] at hlg;obtain ⟨ag, hag, _, _⟩ := hlg.some_;have hne : n ≠ s.gone := fun e => c1 (by rw [e]; exact hgm)
  obtain ⟨gn, hgn⟩ : ∃ gn, s.gone = gn := ⟨_, rfl⟩;obtain ⟨cn, hcn⟩ : ∃ cn, s.o.length = cn + 1 := ⟨s.o.length - 1, by have := List.length_pos_of_mem hgm; omega⟩;have HCN : Hid (cn <= 64) := ae (by have := HM64.out; omega);have HMJ : Hid ((fun j => if j = gn then none else m j) n = none) := ae (by dsimp only; rw [if_neg (by rw [<- hgn]; exact hne)]; exact hl.none_);have HMN : Hid (mLn (fun j => if j = gn then none else m j) (n : Int) = none) := ae (by unfold mLn; rw [if_pos (by omega), Int.toNat_natCast]; exact HMJ);have HMG : Hid ((mLn m (gn : Int)).isSome = true) := ae (by unfold mLn; rw [if_pos (by omega), Int.toNat_natCast, <- hgn, hag]; rfl);have HWG := ae (gI (n := gn) (by rw [<- hgn]; have := hok.t64; omega));have HF : Hid ((s.tch n).o.length = cn + 1 /\ (s.tch n).ln = fun j => if j = n then some (dQ s.N) else (if j = gn then none else s.ln j)) := ae (by
   refine ⟨?_, ?_⟩
   ·rw [uI, if_pos c3, c4, List.length_cons]
    show (dB (dB s.o s.gone) n).length + 1 = _
    rw [jF (n := n) (o := dB s.o s.gone) fun e => c1 (gC.1 e).1, mK hok.nd hgm, hcn]
   ·rw [oI s n c3, c4, gW hx, <- hgn]
    rfl)
  rw [hgn] at HGQ;have HCQ := ae hcn;clear c1 cl c0 c2 c3 c4 hok hx hl hgm hgT hxg hlg hag hne hgn hcn;go_upto_region 1 with fail;refine aI 2 ?_;refine aku (ax rfl akE jP) ?_;refine aku (aC rfl akE (nA (PRu.c3 HS.out.u))) ?_;refine runs 1 ?_;refine aw rfl (aA call112 rfl (evc akE (evc akE evn))) ?_;refine (kV w (fun b hb => .inr hb) HL HW).mono ?_;rintro e w1 ⟨rfl, l1, t1⟩;rw [HSQ.out] at l1;obtain ⟨FL1, hs1⟩ := HS.out.list rfl l1 t1;have HS1 := ae hs1;rw [HEQ.out, HWQ.out, HG0.out, HTE.out, HTW.out];clear l1 t1 hs1;refine aO ?_;refine runs 3 ?_;refine runs 3 ?_;refine aH 1 ?_;go_upto_region 2 with fail;refine aI 1 ?_;refine aku (aL false rfl akE evk rfl) ?_;refine ah ?_;have HS1' : Hid (PSt w0 S0 w1 t lp mp FL1 (kyL (s.tch n).dty (s.tch n).o) (cn + 1) m s.ln s.N s.T s.room r) := ae (by have := HS1.out; rwa [HCQ.out] at this);rw [HGQ.out];go_upto_region 4 with fail;refine co 1 ?_;go_upto_region 5 with fail;refine aI 2 ?_;refine aku (ax rfl akE fV) ?_;refine aku (aC rfl akE (jW (PRu.c4 HS1.out.u))) ?_;refine runs 1 ?_;refine ny rfl rfl akE akE HS1'.out.u.map HWG HMG ?_;intro w2 hm2 ht2;simp only [aa];refine ah ?_;have HS2 := ae (HS1'.out.del ht2 hm2);clear hm2 ht2;have HK : Hid ((Instr.lookup 64 (.map (some mp)) (.int .i64 (n : Int)) false).run prog w2 = .ok (.pointer none) w2) := ae (by
   have := HS2.out.u.map.jT HW;rwa [HMN.out] at this)
  go_upto_region 6 with fail;refine aI 2 ?_;refine aku (ax rfl akE fV) ?_;refine aku (aC rfl akE (jW (PRu.c4 HS2.out.u))) ?_;refine runs 1 ?_;refine aku (cX rfl akE akE HK) ?_;refine aku (cI true underlying109 rfl akE evk rfl) ?_;refine ah ?_;go_upto_region 7 with fail;refine wp_region_held (S := fun w' => w'.cell? ⟨t, 0, none⟩ = some (.int .i64 (s.N : Int)) /\ w'.cell? ⟨t, 4, none⟩ = some (.map (some mp))) (by kernel_rfl) ?_;change wpAnyH _ _ _ _ _ 16 _ _ w2.drew;refine akR 0 rfl ⟨HS2.out.u.c0, HS2.out.u.c4⟩ ?_;refine akT 1 rfl ⟨HS2.out.u.c0, HS2.out.u.c4⟩ ?_;refine akx 2 rfl (fun _ hw => ax rfl akE fV) ⟨HS2.out.u.c0, HS2.out.u.c4⟩ ?_;refine akx 3 rfl (fun _ hw => aC rfl akE (jW hw.2)) ⟨HS2.out.u.c0, HS2.out.u.c4⟩ ?_;refine akR 4 rfl ⟨HS2.out.u.c0, HS2.out.u.c4⟩ ?_;refine akR 5 rfl ⟨HS2.out.u.c0, HS2.out.u.c4⟩ ?_;refine akT 6 rfl ⟨HS2.out.u.c0, HS2.out.u.c4⟩ ?_;refine akx 7 rfl (fun _ hw => ax rfl akE uE) ⟨HS2.out.u.c0, HS2.out.u.c4⟩ ?_;refine akx 8 rfl (fun _ hw => ax rfl akE acc) ⟨HS2.out.u.c0, HS2.out.u.c4⟩ ?_;refine akx 9 rfl (fun _ hw => aC rfl akE (bS hw.1)) ⟨HS2.out.u.c0, HS2.out.u.c4⟩ ?_;refine dU 10 rfl (by kernel_rfl) rfl (aA call113 rfl (evc akE evn)) ?_;refine (x9 s.N _ HN1 HN2).mono ?_;rintro e wA ⟨q, rfl, ⟨hq1, hq2⟩, bA⟩;have bA' : Below w2.heap.size w2 wA := ((Below.refl _ w2).drew).trans bA;have hsA := HS2.out.below bA';obtain ⟨wB, hrB, hmB, htB⟩ := hsA.u.map.abe HW HMN (by unfold maxLen; have := HCN.out; omega) q;have HRB := ae hrB;have HSB := ae (HS2.out.add HMJ bA' hq1 hq2 (dI.new HN1 HN2) htB hmB);have HSA : Hid (wA.cell? ⟨t, 0, none⟩ = some (.int .i64 (s.N : Int)) /\ wA.cell? ⟨t, 4, none⟩ = some (.map (some mp))) := ae ⟨hsA.u.c0, hsA.u.c4⟩;have HSC : Hid (wB.cell? ⟨t, 0, none⟩ = some (.int .i64 (s.N : Int)) /\ wB.cell? ⟨t, 4, none⟩ = some (.map (some mp))) := ae ⟨HSB.out.u.c0, HSB.out.u.c4⟩;clear hq1 hq2 bA bA' hsA hrB hmB htB;refine ⟨_, rfl, HSA, ?_⟩;simp only [aa];refine akR 11 rfl HSA ?_;refine akU 12 rfl HSA ?_;refine akU 13 rfl HSA ?_;refine dr 14 rfl (by kernel_rfl) rfl (i7 rfl (ev rfl) (ev rfl) (ev rfl) HRB.out) HSC.out ?_;simp only [Act.put];refine akS 15 rfl HSC ?_;refine wpAnyH_done (by kernel_rfl) ?_ _;have HSF : Hid (PSt w0 S0 wB t lp mp FL1 (kyL (s.tch n).dty (s.tch n).o) (s.tch n).o.length (fun j => if j = n then some q else (fun j => if j = gn then none else m j) j) (s.tch n).ln (s.tch n).N (s.tch n).T (s.tch n).room r) := ae (by rw [HF.out.1, HF.out.2, HNQ.out.1, HNQ.out.2.1, HNQ.out.2.2]; exact HSB);go_upto_region 8 with fail;refine co 2 ?_;go_wp2_with fail;go_ret;exact ⟨by unfold tcE; rw [HTB.out]; rfl, lp, mp, _, _, r, HSF, HOK2⟩
open Go.Maps (Keyed)
def emR : Value -> Option (DataW Unit × List MemPlace)
 |.agg a => if a.size = 0 then some (.nil, []) else none
 |_ => none
def jV (w : World) (b N : Nat) (P : Int -> Bool) : Prop :=
 ∃ D : DataW Unit, w.ownsMap prog 3 emR b N D /\ Maps.size D = N /\ ∀ k, (Lit.int .i64 k).wf = true -> Maps.has D (.int .i64 k) = P k
section
variable {w w' : World} {b N : Nat} {P : Int -> Bool} {k : Int}
theorem jV.kept (h : jV w b N P) (hk : ∀ es c, w.heap[b]? = some (.map es c) -> w'.heap[b]? = some (.map es c)) : jV w' b N P := by
 obtain ⟨D, ⟨es, c, hb, r⟩, h2⟩ := h;exact ⟨D, ⟨es, c, hk es c hb, r⟩, h2⟩
theorem jV.below (h : jV w b N P) (hb : Below w.heap.size w w') : jV w' b N P := h.kept fun es c e => aB e hb
theorem jV.made (w : World) : jV (w.alloc (.map #[] 0)) w.heap.size 0 (fun _ => false) :=
 ⟨.map [], World.ownsMap_made _ _ _ _, rfl, fun k _ => rfl⟩
theorem jV.len (h : jV w b N P) (ty : TypeId) : (Builtin.len_ #[115] ty #[.map (some b)]).run prog w = .ok (.int .i64 (N : Int)) w := by
 obtain ⟨D, h1, h2, _⟩ := h;rw [h1.len underlying115 ty, h2]
theorem jV.store (h : jV w b N P) (hw : (Lit.int .i64 k).wf = true) (hN : N < maxLen) :
  ∃ w', (Instr.mapUpdate 115 (.map (some b)) (.int .i64 k) (.agg #[])).run prog w = .ok () w' /\ jV w' b (if P k = true then N else N + 1) (fun j => decide (j = k) || P j) /\ w.mapTurned w' b := by
 obtain ⟨D, h1, h2, h3⟩ := h;obtain ⟨w', hr, ho, ht⟩ := h1.store fB underlying115 hN (qq hw) (show emR (.agg #[]) = some (.nil, []) from rfl);have hT := h1.tidy fB;have hk : WideAt.IsKeyLit (Lit.int .i64 k) := fB.key (qq hw);have hs : Maps.size (D.put (.int .i64 k) (.nil : DataW Unit)) = if P k = true then N else N + 1 := by
  rw [Maps.size_put hT, h3 k hw, h2]
 refine ⟨w', hr, ⟨_, by
  obtain ⟨es, clock, hb, F, hs', he⟩ := ho;rw [<- hs];exact ⟨es, clock, hb, F, by rw [he]; simp [Maps.size, length_sorted], he⟩, hs, fun j hj => ?_⟩, ht⟩
 by_cases e : j = k
 ·subst e;dsimp only;rw [Maps.has_put_same hT.isMap hk, ao rfl]
  rfl
 ·dsimp only;rw [Maps.has_put_other (jC e), am e, h3 j hj]
  rfl
theorem y7 {ρ : Operand -> Value} {o : Oper} {x : Operand} (ho : o.op = .call { callee := .builtin .len, args := #[x], argTypes := #[115] }) (hx : ρ x = .map (some b)) (h : jV w b N P) : (execOp ρ o).run prog w = .ok (.value (.int .i64 (N : Int))) w := by
 simp [execOp, ho, resolve, invoke, builtin, hx, h.len, Result.andThen]
theorem xS {ρ : Operand -> Value} {o : Oper} (ho : o.op = .build 116 #[]) : (execOp ρ o).run prog w = .ok (.value (.agg #[])) w := by
 have h : (Instr.build 116 #[]).run prog w = .ok (.agg #[]) w := by kernel_rfl
 unfold execOp;simp [ho, h, Result.andThen]
def MapU (w : World) (b : Nat) (U : List Int) : Prop := jV w b U.length (fun j => U.contains j)
theorem MapU.store {U : List Int} (h : MapU w b U) (hw : (Lit.int .i64 k).wf = true) (hN : U.length < maxLen) :
  ∃ w', (Instr.mapUpdate 115 (.map (some b)) (.int .i64 k) (.agg #[])).run prog w = .ok () w' /\ MapU w' b (if U.contains k = true then U else U ++ [k]) /\ w.mapTurned w' b := by
 obtain ⟨w', h1, h2, h3⟩ := jV.store h hw hN;refine ⟨w', h1, ?_, h3⟩;unfold MapU;have e1 : (if U.contains k = true then U else U ++ [k]).length = if U.contains k = true then U.length else U.length + 1 := by split <;> simp
 have e2 : (fun j => (if U.contains k = true then U else U ++ [k]).contains j) = fun j => decide (j = k) || U.contains j := funext fun j => by
  by_cases hc : U.contains k = true
  ·rw [if_pos hc];by_cases e : j = k
   ·subst e; rw [hc, ao rfl]; rfl
   ·rw [am e]; rfl
  ·rw [if_neg hc, Bool.eq_iff_iff];simp [or_comm]
 rw [e1, e2];exact h2
theorem MapU.below {U : List Int} (h : MapU w b U) (hb : Below w.heap.size w w') : MapU w' b U := jV.below h hb
end
section
variable {w : World} {t lp mp K : Nat} {FL : Nat -> Prop} {m : Nat -> Option Nat} {r : Int} {s : ShS}
theorem rO {l : List Int} {A : Option Addr} {nl cl : Nat} (h : PRu w t lp mp FL (kyL s.dty s.o) s.o.length m s.ln s.N s.T s.room r) (hok : cf s) (hl : RdE bY w w.heap.size A nl l) (hwf : ∀ x ∈ l, (Lit.int .i64 x).wf = true) (hbig : l.length <= 17592186043904) : Calls prog 24 #[.pointer (some ⟨t, 0, none⟩), .slice A nl cl] w fun e w' => e = .returned (.bool (s.fits l)) /\ Below w.heap.size w w' := by
 have hnl := hl.1;subst hnl;have HBG := ae hbig;have HOK := ae hok;have HDL : Hid (s.dw.length <= 64) := ae (aq (vm _ _) hok.t64);have HDR := ae hok.adK;have HD64 : Hid (∀ i, i < s.dw.length -> (Lit.int .i64 (s.dw.getD i 0)).wf = true) := ae fun i hi => by
  have hm : s.dw.getD i 0 ∈ s.dw := cz hi;obtain ⟨j, e, hj, _⟩ := i4.1 hm;rw [e];exact gI (by have := hok.t64; omega)
 have HLW : Hid (∀ i, i < l.length -> (Lit.int .i64 (l.getD i 0)).wf = true) := ae fun i hi => hwf _ (cz hi)
 have HUN : Hid (∀ i, fm [] (s.dw.take i) = s.dw.take i) := ae (acf s);obtain ⟨D, hD⟩ : ∃ D, s.dw = D := ⟨_, rfl⟩;have HF0 : Hid (s.fits l = decide ((fm D l).length <= s.room)) := ae (by unfold ShS.fits; rw [hD]);obtain ⟨ft, hft⟩ : ∃ ft, s.fits l = ft := ⟨_, rfl⟩;rw [hft] at HF0;rw [hD] at HDL HDR HD64 HUN;rw [hft];have HDQ := ae hD;clear hD hft;have hbx := (Below.refl w.heap.size w).alloc aj (.map #[] 0);have HS1 := ae (jV.made w);have HH0 := ae h;have HH := ae (h.below hbx);have HL := ae hl;have HB := ae hbx;have HSZ : Hid ((w.alloc (.map #[] 0)).heap.size = w.heap.size + 1) := ae (World.size_alloc ..);clear h hok hl hwf hbig hbx;go_enter func24, ntmps24;go_upto_region 1 with fail;refine aI 1 ?_;refine aw rfl (aA call55 rfl (evc akE evn)) ?_;refine (lc HH0).mono ?_;rintro e w' ⟨rfl, rfl⟩;refine aO ?_;refine aH 1 ?_;go_upto_region 3 with fail;refine af ?_;refine aku (oD rfl) ?_;refine aH 1 ?_;obtain ⟨bm, hbm⟩ : ∃ bm, w.heap.size = bm := ⟨_, rfl⟩;rw [hbm] at HS1 HSZ;have HBM := ae hbm;rw [hbm];generalize w.alloc (.map #[] 0) = w1 at *;clear hbm;go_upto_region 4 with fail;refine aI 1 ?_;refine aw rfl (aA call17 rfl (evc akE evn)) ?_;refine (oL HH HOK).mono ?_;rintro e w2 ⟨v2, rfl, m2, b2⟩;rw [HDQ.out] at m2;obtain ⟨A2, c2, rfl, _, _⟩ := m2.form;have HM2 := ae m2;have HB2 := ae (HB.out.trans (b2.mono HB.out.size));have HH2 := ae (HH.out.below b2);have HS2 := ae (HS1.out.below b2);clear m2 b2;refine aO ?_;refine aku (dH bY rfl akE) ?_;refine aH 1 ?_;go_wp2_with fail
 go_loopw [7, 17] (fun u c wr => ∃ i : Nat, c = .int .i64 i /\ i <= D.length /\ MapU wr bm (D.take i) /\ aP bY wr w1.heap.size (.slice A2 D.length c2) D /\ PRu wr t lp mp FL (kyL s.dty s.o) s.o.length m s.ln s.N s.T s.room r /\ Below bm w wr) (fun _ c _ => D.length - (intOf c).toNat)
 case atStart => exact ⟨0, by go_num, Nat.zero_le _, HS2, HM2, HH2, by have := HB2.out; rwa [HBM.out] at this⟩
 case round =>
  obtain ⟨i, rfl, hi, hs, hm, hh, hb⟩ := hrel;have HSr := ae hs;have HMr := ae hm;have HHr := ae hh;have HWr := ae hb;clear hs hm hh hb;by_cases hlt : i < D.length
  ·have HI := ae hlt;have HT : Hid (decide ((i : Int) < (D.length : Int)) = true) := ae (ao (by omega));have HA : Hid (IntKind.i64.wrap ((i : Int) + 1) = ((i + 1 : Nat) : Int)) := ae (by have := HDL.out; rw [eV ⟨by omega, by omega⟩]; omega);obtain ⟨b, off, hA, _, hc⟩ := HMr.out.rd.int (k := i) hlt;subst hA;have HC := ae hc;obtain ⟨wn, hrn, hmn, htn⟩ := HSr.out.store (HD64.out i hlt) (by unfold maxLen; have := HDL.out; rw [List.length_take]; omega);have hst : (if (D.take i).contains (D.getD i 0) = true then D.take i else D.take i ++ [D.getD i 0]) = D.take (i + 1) := by
    have := pR [] (D.take i) (D.getD i 0);rw [<- vu hlt, HUN.out, HUN.out] at this;exact this.symm
   rw [hst] at hmn;have hg := htn.grown;have hmp : mp ≠ bm := fun e => by
    obtain ⟨es, q, hq⟩ := HH0.out.agT;have := aV hq;rw [HBM.out] at this;omega
   have hlow : ∀ q, qi t mp FL m q -> q ≠ bm := fun q hq e => by
    have := HH0.out.size q hq;rw [HBM.out] at this;omega
   have HRN := ae hrn;have HMN := ae hmn;have HHN := ae (HHr.out.only (fC (F := fun j => j = bm) htn rfl) hlow);have HRD : Hid (aP bY wn w1.heap.size (.slice (some ⟨b, off, none⟩) D.length c2) D) := ae (HMr.out.kept hg (by
    cases ho : (Value.slice (some ⟨b, off, none⟩) D.length c2).ownBlock with
    |none => exact .inl rfl
    |some q =>
     right
     intro e;injection e with e;have := HMr.out.gH q ho;have := HSZ.out;omega))
   have HWN : Hid (Below bm w wn) := ae ((HWr.out).grown hg (aq (Nat.le_of_eq HBM.out.symm) HWr.out.size) fun j hj => by injection hj with hj; subst hj; exact aj);clear hi hlt hc hrn hmn htn hst hg hmp hlow;go_upto_region 5 with fail;refine af ?_;refine aku (aZ true rfl akE akE HT) ?_;refine ah ?_;go_upto_region 6 with fail;refine af ?_;refine aku (cu (E := bY) rfl akE akE HI) ?_;refine aku (aC rfl akE (bS (by rw [show i * bY.n = i from Nat.mul_one i]; exact HC.out))) ?_;refine aH 1 ?_;go_upto_region 7 with fail;refine aI 2 ?_;refine aku (xS rfl) ?_;refine aG rfl (i7 rfl (ev rfl) (ev rfl) (ev rfl) HRN.out) ?_;simp only [aa];refine ah ?_;go_upto_region 8 with fail;refine af ?_;refine aku (bJ rfl akE evk HA) ?_;refine aH 1 ?_;go_wp2_with fail;go_roundw
   case rel => exact ⟨i + 1, by go_num, HI, HMN, HRD, HHN, HWN⟩
   case measure => have := HI.out; simp [intOf]; omega
  have hin : i = D.length := by omega
  have HT : Hid (decide ((i : Int) < (D.length : Int)) = false) := ae (am (by omega));have HSD : Hid (MapU wr bm D) := ae (by have := HSr.out; rwa [hin, List.take_length] at this);clear hlt hi hin;go_upto_region 5 with fail;refine af ?_;refine aku (aZ false rfl akE akE HT) ?_;refine ah ?_;go_upto_region 9 with fail;refine aI 1 ?_;refine aku (dH bY rfl akE) ?_;refine aH 1 ?_;have HLD : Hid (RdE bY wr wr.heap.size A l.length l) := ae (((HL.out).below (by rw [HBM.out]; exact HWr)).more HWr.out.size);go_wp2_with fail
  go_loopw [9, 27] (fun u c wx => ∃ i : Nat, c = .int .i64 i /\ i <= l.length /\ MapU wx bm (fm D (l.take i)) /\ (fm D (l.take i)).length <= s.room /\ PRu wx t lp mp FL (kyL s.dty s.o) s.o.length m s.ln s.N s.T s.room r /\ Below bm w wx) (fun _ c _ => l.length - (intOf c).toNat)
  case atStart => exact ⟨0, by go_num, Nat.zero_le _, HSD, HDR, HHr, HWr⟩
  case round =>
   obtain ⟨i, rfl, hi, hs, hrm, hh, hb⟩ := hrel;have HSx := ae hs;have HHx := ae hh;have HWx := ae hb;have HRM := ae hrm;clear hs hh hb hrm;by_cases hlt : i < l.length
   ·have HI := ae hlt;have HT2 : Hid (decide ((i : Int) < (l.length : Int)) = true) := ae (ao (by omega));have HA : Hid (IntKind.i64.wrap ((i : Int) + 1) = ((i + 1 : Nat) : Int)) := ae (by have := HBG.out; rw [eV ⟨by omega, by omega⟩]; omega);obtain ⟨b, off, hA, _, hc⟩ := ((HL.out).below (by rw [HBM.out]; exact HWx)).int (k := i) hlt;subst hA;have HC := ae hc;have hr64 := HOK.out.r64;obtain ⟨wn, hrn, hmn, htn⟩ := HSx.out.store (HLW.out i hlt) (by unfold maxLen; have := HRM.out; omega);obtain ⟨U, hU⟩ : ∃ U, fm D (l.take (i + 1)) = U := ⟨_, rfl⟩;have hst : (if (fm D (l.take i)).contains (l.getD i 0) = true then fm D (l.take i) else fm D (l.take i) ++ [l.getD i 0]) = U := by
     rw [<- hU, vu hlt, pR]
    rw [hst] at hmn;have hg := htn.grown;have hlow : ∀ q, qi t mp FL m q -> q ≠ bm := fun q hq e => by
     have := HH0.out.size q hq;rw [HBM.out] at this;omega
    have HRN := ae hrn;have HMN := ae hmn;have HHN := ae (HHx.out.only (fC (F := fun j => j = bm) htn rfl) hlow);have HWN : Hid (Below bm w wn) := ae ((HWx.out).grown hg (aq (Nat.le_of_eq HBM.out.symm) HWx.out.size) fun j hj => by injection hj with hj; subst hj; exact aj);have HUQ := ae hU;clear hi hlt hc hrn hmn htn hst hg hlow hr64 hU;go_upto_region 10 with fail;refine af ?_;refine aku (aZ true rfl akE akE HT2) ?_;refine ah ?_;go_upto_region 11 with fail;refine af ?_;refine aku (cu (E := bY) rfl akE akE HI) ?_;refine aku (aC rfl akE (bS (by rw [show i * bY.n = i from Nat.mul_one i]; exact HC.out))) ?_;refine aH 1 ?_;go_upto_region 12 with fail;refine aI 2 ?_;refine aku (xS rfl) ?_;refine aG rfl (i7 rfl (ev rfl) (ev rfl) (ev rfl) HRN.out) ?_;simp only [aa];refine ah ?_;go_upto_region 13 with fail;refine aR (B := wn.heap.size) (by kernel_rfl) ?_;refine cE 1 ?_;refine akC (fun _ hw => y7 rfl akE (MapU.below HMN hw)) ?_;refine cE 2 ?_;refine akC (fun _ hw => ax rfl akE jP) ?_;refine akC (fun _ hw => aC rfl akE (nA (PRu.c3 (HHN.out.below hw)))) ?_;refine bW rfl (fun _ => aA call71 rfl (evc akE evn)) (bH aj fun _ hw => (adA _ (HHN.out.below hw).li).mono fun _ _ h => ⟨h.1, by rw [<- h.2]; exact ak⟩) ?_;simp only [aa];by_cases hq : s.room < U.length
    ·have HQ : Hid (decide ((s.room : Int) < (U.length : Int)) = true) := ae (ao (by omega));have HFF : Hid (ft = false) := ae (by
      rw [HF0.out];have := aam D l (i + 1);rw [HUQ.out] at this;exact am (by omega))
     clear hq;refine akC (fun _ hw => dX true rfl akE akE HQ) ?_;refine wpQuiet_nil ?_;intro w13 hw;have HWZ := ae (HWN.out.trans (hw.mono (aq (Nat.le_of_eq HBM.out.symm) HWN.out.size)));clear hw;go_wp2_with fail;go_ret;exact ⟨by rw [HFF.out]; rfl, by rw [HBM.out]; exact HWZ⟩
    have HQ : Hid (decide ((s.room : Int) < (U.length : Int)) = false) := ae (am (by omega));have HQ2 : Hid (U.length <= s.room) := ae (by omega);clear hq;refine akC (fun _ hw => dX false rfl akE akE HQ) ?_;refine wpQuiet_nil ?_;intro w13 hw;have HWZ := ae (HWN.out.trans (hw.mono (aq (Nat.le_of_eq HBM.out.symm) HWN.out.size)));have HMZ := ae (MapU.below HMN hw);have HHZ := ae (HHN.out.below hw);clear hw;go_upto_region 15 with fail;refine af ?_;refine aku (bJ rfl akE evk HA) ?_;refine aH 1 ?_;go_wp2_with fail;go_roundw
    case rel => exact ⟨i + 1, by go_num, HI, by rw [HUQ.out]; exact HMZ, by rw [HUQ.out]; exact HQ2, HHZ, HWZ⟩
    case measure => have := HI.out; simp [intOf]; omega
   have hin : i = l.length := by omega
   have HT2 : Hid (decide ((i : Int) < (l.length : Int)) = false) := ae (am (by omega));have HFF : Hid (ft = true) := ae (by
    rw [HF0.out];have := HRM.out;rw [hin, List.take_length] at this;exact ao this)
   clear hlt hi hin;go_upto_region 10 with fail;refine af ?_;refine aku (aZ false rfl akE akE HT2) ?_;refine ah ?_;go_wp2_with fail;go_ret;exact ⟨by rw [HFF.out]; rfl, by rw [HBM.out]; exact HWx⟩
end
def pPl (N n : Nat) : Nat := N - 1 - n % N
def kS (N n : Nat) (x : Cl) : Bool := decide (x.s = (n : Int)) && decide (x.m = ((pPl N n : Nat) : Int))
section
variable {s : ShS} {Q i : Nat} {c : List dJ}
theorem lX (hi : i < c.length) : (c.map cR).getD i jQ = cR (c.getD i di) := by
 rw [List.getD, List.getElem?_map, List.getD, List.getElem?_eq_getElem hi]
 rfl
theorem aeA (hi : i < c.length) : (c.take (i + 1)).map dJ.n = (c.take i).map dJ.n ++ [(c.getD i di).n] := by
 rw [List.take_add_one, List.getElem?_eq_getElem hi, List.map_append, List.getD, List.getElem?_eq_getElem hi]
 rfl
theorem acM {f : dJ -> Bool} (hi : i < c.length) : (c.take (i + 1)).all f = ((c.take i).all f && f (c.getD i di)) := by
 rw [List.take_add_one, List.getElem?_eq_getElem hi, List.getD, List.getElem?_eq_getElem hi, List.all_append];simp
theorem afF {f : dJ -> Bool} (hi : i < c.length) (h : f (c.getD i di) = false) : c.all f = false := by
 rw [Bool.eq_false_iff];intro e;have := List.all_eq_true.1 e (c.getD i di) (by rw [List.getD, List.getElem?_eq_getElem hi]; exact List.getElem_mem hi);rw [h] at this;cases this
structure ajg (s : ShS) (Q : Nat) (c : List dJ) (i k m : Nat) : Prop where
 mN : m < s.N
 n : (c.getD i di).n = (k : Int)
 m : (c.getD i di).m = (m : Int)
 kT : k < s.T
 ok : cf ((c.take i).foldl (dM Q) s)
 T : ((c.take i).foldl (dM Q) s).T = s.T
 tok : cf (((c.take i).foldl (dM Q) s).tch k)
 tT : (((c.take i).foldl (dM Q) s).tch k).T = s.T
 tln : (((c.take i).foldl (dM Q) s).tch k).ln k = some (((c.take i).foldl (dM Q) s).bX k)
 nxt : (c.take (i + 1)).foldl (dM Q) s = (((c.take i).foldl (dM Q) s).tch k).dn k (some (eJ (((c.take i).foldl (dM Q) s).bX k) (c.getD i di).m (c.getD i di).b Q))
 nok : cf ((c.take (i + 1)).foldl (dM Q) s)
 tb : ((c.take i).foldl (dM Q) s).eA k = true
 n0 : Q ≠ 0
theorem acz (h : cf s) (hq : iB s Q c = 0) (hQ : Q < 18446744073709551616) (hi : i < c.length) : ∃ k m : Nat, ajg s Q c i k m := by
 obtain ⟨h1, h2, h3⟩ := n7 hq;have hx : c.getD i di ∈ c := by rw [List.getD, List.getElem?_eq_getElem hi]; exact List.getElem_mem hi
 have hp := h1 _ hx;obtain ⟨k, m, e1, hk, e2, hmN⟩ := gk hp;have ih := iY h hq hQ i (Nat.le_of_lt hi);have ih1 := iY h hq hQ (i + 1) hi;have hs := ih.step (p := c.getD i di) h3 hp ((ke _ _).2 (.inr (List.mem_map.2 ⟨_, hx, rfl⟩))) h2 hQ;have ek : (c.getD i di).n.toNat = k := by omega
 rw [ek] at hs;have ht := jk hs.1;refine ⟨k, m, hmN, e1, e2, hk, ih.ok, ih.T, hs.2.1, (ShS.ph _ _).2.1.trans ih.T, ht, ?_, ih1.ok, hs.1, h2⟩;rw [eR _ _ (d := di) hi];generalize (c.take i).foldl (dM Q) s = s1 at *;unfold dM;rw [ek, dW ht]
structure aja (s2 : ShS) (c : List dJ) (i k : Nat) : Prop where
 ok : cf ((c.take i).foldl (cM c) s2)
 N : ((c.take i).foldl (cM c) s2).N = s2.N
 T : ((c.take i).foldl (cM c) s2).T = s2.T
 ln : ((c.take i).foldl (cM c) s2).ln k = some (((c.take i).foldl (cM c) s2).bX k)
 yes : (c.map cR).any (kS ((c.take i).foldl (cM c) s2).N k) = true -> (c.take (i + 1)).foldl (cM c) s2 = (c.take i).foldl (cM c) s2
 no : (c.map cR).any (kS ((c.take i).foldl (cM c) s2).N k) = false -> (c.take (i + 1)).foldl (cM c) s2 = ((c.take i).foldl (cM c) s2).dn k (some (fX (((c.take i).foldl (cM c) s2).bX k) ((pPl ((c.take i).foldl (cM c) s2).N k : Nat) : Int)))
 nok : cf ((c.take (i + 1)).foldl (cM c) s2)
theorem yE (N k : Nat) : (c.map cR).any (kS N k) = rZ N c (k : Int) := by
 rw [List.any_map];unfold rZ
 congr 1
theorem abn {s2 : ShS} {k : Nat} (h : cf s2) (hp : ∀ x ∈ c, (s2.ln x.n.toNat).isSome = true) (hi : i < c.length) (hn : (c.getD i di).n = (k : Int)) : aja s2 c i k := by
 have hx : c.getD i di ∈ c := by rw [List.getD, List.getElem?_eq_getElem hi]; exact List.getElem_mem hi
 have ih := kw h c hp i (Nat.le_of_lt hi);have ih1 := kw h c hp (i + 1) hi;have ek : (c.getD i di).n.toNat = k := by omega
 have hl : (((c.take i).foldl (cM c) s2).ln k).isSome = true := by rw [ih.some, <- ek]; exact hp _ hx
 obtain ⟨y, hy⟩ := Option.isSome_iff_exists.1 hl;refine ⟨ih.ok, ih.N, ih.T, by rw [hy, dW hy], fun e => ?_, fun e => ?_, ih1.ok⟩
 ·rw [yE] at e;rw [eR _ _ (d := di) hi];generalize (c.take i).foldl (cM c) s2 = s1 at *
  show cM c _ (c.getD i di) = _
  unfold cM;rw [hn, if_pos e]
 ·rw [yE] at e;rw [eR _ _ (d := di) hi];generalize (c.take i).foldl (cM c) s2 = s1 at *
  show cM c _ (c.getD i di) = _
  unfold cM pPl;rw [hn, if_neg (by rw [e]; decide), Int.toNat_natCast]
end
def stz (c : List dJ) (n i : Nat) : List Int := (c.take i).map dJ.n ++ List.replicate (n - i) 0
section
variable {c : List dJ} {n i : Nat}
theorem ab1 : stz c n 0 = List.replicate n 0 := by simp [stz]
theorem aeE (h : c.length = n) : stz c n n = c.map dJ.n := by subst h; simp [stz]
theorem afk (h : c.length = n) (hi : i < n) : (stz c n i).set i (c.getD i di).n = stz c n (i + 1) := by
 unfold stz;have hl : ((c.take i).map dJ.n).length = i := by rw [List.length_map, List.length_take]; omega
 obtain ⟨d, hd⟩ : ∃ d, n - i = d + 1 := ⟨n - i - 1, by omega⟩;rw [List.set_append_right _ _ (by omega), hl, Nat.sub_self, hd, List.replicate_succ, List.set_cons_zero, show n - (i + 1) = d by omega, aeA (by omega), List.append_assoc]
 rfl
end
theorem ahZ {w : World} {b k : Nat} {a : Int} (h : w.there b k 1) : (Instr.storeAt 3 (.pointer (some ⟨b, k, none⟩)) (.int .i64 a)).run prog w = .ok () (w.setCells b k (bY.cel a)) := by
 obtain ⟨h1, h2⟩ := h 0 (by omega);rw [Nat.add_zero] at h1 h2;obtain ⟨u, hu⟩ := Option.isSome_iff_exists.1 h1;simp [go_sem, hu, h2, bY, World.setCells]
section
variable {w : World} {t lp mp K : Nat} {FL : Nat -> Prop} {m : Nat -> Option Nat} {r : Int} {s : ShS}
theorem aaL {Q nc cc : Nat} {A : Option Addr} {c : List dJ} (h : PRu w t lp mp FL (kyL s.dty s.o) s.o.length m s.ln s.N s.T s.room r) (hok : cf s) (hn0 : nc <= 1000000) (hc : RdE cQ w w.heap.size A nc (c.map cR)) (hcn : c.length = nc) : Calls prog 50 #[.pointer (some ⟨t, 0, none⟩), .int .u64 (Q : Int), .slice A nc cc] w fun e w' => e = .returned (.int .i64 (iB s Q c)) /\ Below w.heap.size w w' := by
 have HH := ae h;have HOK := ae hok;have HC := ae hc;have HCN := ae hcn;have HN0 := ae hn0;have hmz := qe bY rfl w nc w.heap.size aj hn0;have hb1 := (Below.refl w.heap.size w).alloc aj (.cells (madeCells bY.z.cells (nc * bY.n)) bY.t);have HBZ := ae hb1;have HM0 : Hid (aP bY (w.alloc (.cells (madeCells bY.z.cells (nc * bY.n)) bY.t)) w.heap.size (.slice (some ⟨w.heap.size, 0, none⟩) nc nc) (List.replicate nc 0)) := ae hmz;obtain ⟨pq, hpq⟩ : ∃ pq, iB s Q c = pq := ⟨_, rfl⟩;have HPQ := ae hpq;rw [hpq];clear h hok hc hcn hn0 hmz hb1 hpq;go_enter func50, ntmps50;go_upto_region 1 with fail;refine aI 1 ?_;refine aw rfl (aA call55 rfl (evc akE evn)) ?_;refine (lc HH).mono ?_;rintro e w' ⟨rfl, rfl⟩;refine aO ?_;refine aH 2 ?_;go_upto_region 3 with fail;refine aI 1 ?_;by_cases hq : Q = 0
 ·have HE : Hid (((Q : Int) == 0) = true) := ae (by rw [hq]; rfl);have HZ : Hid (pq = 2) := ae (by
   rw [<- HPQ.out];unfold iB;rw [if_pos hq]
   split <;> rfl)
  clear hq;refine aku (aF true rfl akE evk HE) ?_;refine aH 1 ?_;go_wp2_with fail;go_ret;exact ⟨by rw [HZ.out]; rfl, ak⟩
 have HE : Hid (((Q : Int) == 0) = false) := ae (au (by omega));have HQ0 := ae hq;clear hq;refine aku (aF false rfl akE evk HE) ?_;refine aH 1 ?_;go_upto_region 5 with fail;refine aI 1 ?_;refine aku (dH cQ rfl akE) ?_;refine aku (pG (E := bY) rfl akE akE HN0) ?_;refine aH 1 ?_;generalize w.alloc (.cells (madeCells bY.z.cells (nc * bY.n)) bY.t) = w1 at *;obtain ⟨g, hg⟩ : ∃ g, w.heap.size = g := ⟨_, rfl⟩;rw [hg] at HM0 HBZ ⊢;have HG := ae hg;have HHg : Hid (∀ q, qi t mp FL m q -> q < g) := ae fun q hq => by have := HH.out.size q hq; omega
 clear hg;go_upto_region 6 with fail;refine aI 1 ?_;refine aku (dH cQ rfl akE) ?_;refine aH 1 ?_;go_wp2_with fail
 go_loopw [8, 9, 22] (fun _ _ y wr => ∃ i : Nat, y = .int .i64 i /\ i <= nc /\ (c.take i).all (fun x => s.plc x.n x.m) = true /\ aP bY wr g (.slice (some ⟨g, 0, none⟩) nc nc) (stz c nc i) /\ Below g w wr) (fun _ _ y _ => nc - (intOf y).toNat)
 case atStart => exact ⟨0, by go_num, Nat.zero_le _, rfl, by rw [ab1]; exact HM0, HBZ⟩
 case round =>
  obtain ⟨i, rfl, hi, ha, hm, hb⟩ := hrel;have HAL := ae ha;have HM := ae hm;have HW := ae hb;have hb' : Below w.heap.size w wr := by rw [HG.out]; exact hb
  have HHr := ae (HH.out.below hb');have HCr := ae (HC.out.step hb');have HBS : Hid (g <= wr.heap.size) := ae (by have := hb'.size; rw [HG.out] at this; exact this);clear ha hm hb hb';by_cases hlt : i < nc
  ·have HI := ae hlt;have HIC : Hid (i < c.length) := ae (by rw [HCN.out]; exact hlt);have HT : Hid (decide ((i : Int) < (nc : Int)) = true) := ae (ao (by omega));have HADD : Hid (IntKind.i64.wrap ((i : Int) + 1) = ((i + 1 : Nat) : Int)) := ae (by have := HN0.out; rw [eV ⟨by omega, by omega⟩]; omega);obtain ⟨b, off, rfl, hbb, hcell⟩ := HCr.out.cl hlt;obtain ⟨x, hx⟩ : ∃ x, c.getD i di = x := ⟨_, rfl⟩;rw [lX HIC.out, hx] at hcell;have HCL : Hid (wr.rangeAt b (off + i * cQ.n) (el (cR x))) := ae hcell;have HXX := ae hx;have HB3 : Hid (Below wr.heap.size wr (wr.alloc (.cells (el (cR x)).toArray 56))) := ae (ak.alloc aj _);have HBX := ae (heap_alloc_new wr (.cells (el (cR x)).toArray 56));clear hi hlt hcell hx hbb;go_upto_region 7 with fail;refine af ?_;refine aku (aZ true rfl akE akE HT) ?_;refine ah ?_;go_upto_region 8 with fail;refine aI 1 ?_;refine aku (cu (E := cQ) rfl akE akE HI) ?_;refine aku (iv rfl akE HCL) ?_;refine aku (iL rfl) ?_;refine runs 1 ?_;refine aG rfl (jG rfl (ev rfl) (ev rfl)) ?_;simp only [aa];refine ah ?_;obtain ⟨bx, hbx⟩ : ∃ bx, wr.heap.size = bx := ⟨_, rfl⟩;rw [hbx] at HBX ⊢;generalize wr.alloc (.cells (el (cR x)).toArray 56) = w3 at *;have HH3 := ae (HHr.out.below HB3);have HW3 := ae (HW.out.trans (HB3.out.mono HBS));have HM3 := ae (HM.out.below HB3);have HBXG : Hid (g <= bx) := ae (by rw [<- hbx]; exact HBS);clear hbx;have HPS : Hid (w3.rangeAt bx 0 (er x.n x.m)) := ae (kr (c := cR x) (aQ HBX));cases hp : s.plc x.n x.m
   ·have HP : Hid (decide (0 <= x.n /\ x.n < (s.T : Int) /\ 0 <= x.m /\ x.m < (s.N : Int)) = false) := ae hp;have HZ : Hid (pq = 2) := ae (by
     rw [<- HPQ.out];unfold iB;rw [afF HIC.out (by rw [HXX.out]; exact hp), if_neg (by decide)])
    clear hp;go_upto_region 9 with fail;refine aI 1 ?_;refine aku (ax rfl akE tc) ?_;refine aku (fD rfl akE HPS) ?_;refine aw rfl (aA call57 rfl (evc akE (evc akE evn))) ?_;refine (fF x.n x.m HH3).mono ?_;rintro e w4 ⟨rfl, b4⟩;rw [HP.out];have HB4 := ae b4;clear b4;refine aO ?_;refine aH 1 ?_;go_wp2_with fail;go_ret;exact ⟨by rw [HZ.out]; rfl, by rw [HG.out]; exact HW3.out.trans (HB4.out.mono (aq HBS HB3.out.size))⟩
   have HP : Hid (decide (0 <= x.n /\ x.n < (s.T : Int) /\ 0 <= x.m /\ x.m < (s.N : Int)) = true) := ae hp;have HALN : Hid ((c.take (i + 1)).all (fun x => s.plc x.n x.m) = true) := ae (by rw [acM HIC.out, HAL.out, HXX.out]; exact hp);clear hp;go_upto_region 9 with fail;refine aI 1 ?_;refine aku (ax rfl akE tc) ?_;refine aku (fD rfl akE HPS) ?_;refine aw rfl (aA call57 rfl (evc akE (evc akE evn))) ?_;refine (fF x.n x.m HH3).mono ?_;rintro e w4 ⟨rfl, b4⟩;rw [HP.out];have HB4 := ae b4;clear b4;refine aO ?_;refine aH 1 ?_;have HS34 : Hid (g <= w3.heap.size) := ae (aq HBS HB3.out.size);have HW4 := ae (HW3.out.trans (HB4.out.mono HS34));have HM4 := ae (HM3.out.below HB4);have HPL : Hid (w4.cell? ⟨bx, 0, none⟩ = some (.int .i64 x.n)) := ae (by have := (eH (kr (c := cR x) (aQ (aB HBX HB4)))).1; exact this);have HTH : Hid (w4.there g (0 + i * bY.n) 1) := ae (by have := HM4.out.there HI (j := 0) (m := 1) aj; rw [Nat.add_zero] at this; rwa [Nat.zero_add]);have HM5 : Hid (aP bY (w4.setCells g (0 + i * bY.n) (bY.cel x.n)) g (.slice (some ⟨g, 0, none⟩) nc nc) (stz c nc (i + 1))) := ae (by have := HM4.out.store HI x.n; rw [<- HXX.out, afk HCN.out HI.out, HXX.out] at this; rwa [Nat.zero_add]);have HW5 : Hid (Below g w (w4.setCells g (0 + i * bY.n) (bY.cel x.n))) := ae (below_setCells HW4 aj _);go_upto_region 11 with fail;refine aI 2 ?_;refine aku (ax rfl akE tc) ?_;refine aku (ax rfl akE jR) ?_;refine aku (aC rfl akE (bS HPL)) ?_;refine aku (cu (E := bY) rfl akE akE HI) ?_;refine aG rfl (cZ rfl (ev rfl) (ev rfl) (ahZ HTH.out)) ?_;simp only [aa];generalize w4.setCells g (0 + i * bY.n) (bY.cel x.n) = w5 at *;refine ah ?_;go_upto_region 12 with fail;refine af ?_;refine aku (bJ rfl akE evk HADD) ?_;refine aH 1 ?_;go_wp2_with fail;go_roundw
   case rel => exact ⟨i + 1, by go_num, HI, HALN, HM5, HW5⟩
   case measure => have := HI.out; simp [intOf]; omega
  have hin : i = nc := by omega
  have HT : Hid (decide ((i : Int) < (nc : Int)) = false) := ae (am (by omega));have htk : c.take i = c := List.take_of_length_le (by rw [HCN.out]; omega);rw [htk] at HAL;have HMF : Hid (aP bY wr g (.slice (some ⟨g, 0, none⟩) nc nc) (c.map dJ.n)) := ae (by have := HM.out; rwa [hin, aeE HCN.out] at this);have HSR : Hid (RdE bY wr wr.heap.size (some ⟨g, 0, none⟩) nc (c.map dJ.n)) := ae (by have := aP.rd HMF; exact this);have HWF : Hid (∀ x ∈ c.map dJ.n, (Lit.int .i64 x).wf = true) := ae fun x hx => by
   obtain ⟨y, hy, rfl⟩ := List.mem_map.1 hx;have hp := List.all_eq_true.1 HAL y hy;obtain ⟨k, j, e1, hk, _, _⟩ := gk hp;rw [e1];exact gI (by have := HOK.out.t64; omega)
  clear hlt hi hin htk;go_upto_region 7 with fail;refine af ?_;refine aku (aZ false rfl akE akE HT) ?_;refine ah ?_;cases hf : s.fits (c.map dJ.n)
  ·have HFI := ae hf;have HZ : Hid (pq = 10) := ae (by rw [<- HPQ.out]; unfold iB; rw [HAL.out, if_pos rfl, if_neg HQ0.out, hf, if_neg (by decide)]);clear hf;go_upto_region 13 with fail;refine aI 2 ?_;refine aw rfl (aA call24 rfl (evc akE (evc akE evn))) ?_;refine (rO (l := c.map dJ.n) HHr HOK HSR HWF (by rw [List.length_map]; have := HN0.out; have := HCN.out; omega)).mono ?_;rintro e wB ⟨rfl, b5⟩;rw [HFI.out];have HWB := ae (HW.out.trans (b5.mono HBS));clear b5;refine aO ?_;refine aH 1 ?_;go_wp2_with fail;go_ret;exact ⟨by rw [HZ.out]; rfl, by rw [HG.out]; exact HWB⟩
  have HFI := ae hf;have HZ : Hid (pq = 0) := ae (by rw [<- HPQ.out]; unfold iB; rw [HAL.out, if_pos rfl, if_neg HQ0.out, hf, if_pos rfl]);clear hf;go_upto_region 13 with fail;refine aI 2 ?_;refine aw rfl (aA call24 rfl (evc akE (evc akE evn))) ?_;refine (rO (l := c.map dJ.n) HHr HOK HSR HWF (by rw [List.length_map]; have := HN0.out; have := HCN.out; omega)).mono ?_;rintro e wB ⟨rfl, b5⟩;rw [HFI.out];have HWB := ae (HW.out.trans (b5.mono HBS));clear b5;refine aO ?_;refine aH 1 ?_;go_wp2_with fail;go_ret;exact ⟨by rw [HZ.out]; rfl, by rw [HG.out]; exact HWB⟩
end
section
variable {s : ShS} {n Q j k : Nat} {x : dJ}
theorem yj (h : s.eA k = true) : k ∈ (s.tch k).o := by rw [uI, if_pos h]; exact List.mem_cons_self ..
theorem aiv (h : cf s) (hk : k < s.T) (hb : s.eA k = true) (hQ : Q < 18446744073709551616) : cf ((s.tch k).dn k (some (eJ (s.bX k) x.m x.b Q))) :=
 (h.tch hk).dn (yj hb) ((h.line k).1.set _ _ hQ) (by rw [yG, (h.line k).2]; exact (ShS.ph s k).1.symm)
theorem acR (h : cf s) (hk : k < s.T) (hj : x.m = (j : Int)) (hjN : j < s.N) (hQ : Q ≠ 0) : ((s.tch k).dn k (some (eJ (s.bX k) x.m x.b Q))).dty = dj (s.tch k).dty k true := funext fun i => by
 by_cases e : i = k
 ·subst e;rw [dc];have : ((s.tch i).dn i (some (eJ (s.bX i) x.m x.b Q))).ln i = some (eJ (s.bX i) x.m x.b Q) := by rw [cU, if_pos rfl]
  rw [iA this];exact yT (by rw [hj]; exact gq (by rw [(h.line i).2]; exact hjN)) hQ
 ·rw [cj _ _ e];exact kE (by rw [cU, if_neg e])
end
section
variable {w w1 w2 w' : World} {S S1 : Nat -> Prop} {t K : Nat} {s : ShS}
theorem PSh.lt (h : PSh w S t K s) : ∀ b, S b -> b < w.heap.size := by
 obtain ⟨lp, mp, FL, m, r, h1, h2, rfl⟩ := h;exact h1.size
theorem PSh.below (h : PSh w S t K s) (hb : Below w.heap.size w w1) : PSh w1 S t K s := by
 obtain ⟨lp, mp, FL, m, r, h1, h2, e⟩ := h;exact ⟨lp, mp, FL, m, r, h1.below hb, h2, e⟩
theorem PSx.since (hb : Below w.heap.size w w2) (h : PSx w2 S w' t s) : PSx w S w' t s := by
 obtain ⟨lp, mp, FL, m, r, h1, h2⟩ := h;refine ⟨lp, mp, FL, m, r, ⟨h1.u, (Only.of_below S hb).trans h1.on fun b hb => .inl hb, fun b hb' => ?_⟩, h2⟩;rcases h1.gr b hb' with e | e
 ·exact .inl e
 ·exact .inr (aq hb.size e)
theorem PSx.after (o : Only S w w1) (g : Grow w S S1) (h : PSx w1 S1 w' t s) : PSx w S w' t s := by
 obtain ⟨lp, mp, FL, m, r, h1, h2⟩ := h;refine ⟨lp, mp, FL, m, r, ⟨h1.u, o.trans h1.on g, fun b hb' => ?_⟩, h2⟩;rcases h1.gr b hb' with e | e
 ·exact g b e
 ·exact .inr (aq o.size e)
theorem PSx.keep {b : Nat} {o : Obj} (h : PSx w S w' t s) (hb : w.heap[b]? = some o) (hn : ¬ S b) : w'.heap[b]? = some o := Only.keep h.only hb hn
end
theorem ail {w : World} {S : Nat -> Prop} {t K Q k j : Nat} {s : ShS} {x : dJ} (h : PSh w S t K s) (hk : x.n = (k : Int)) (hj : x.m = (j : Int)) (hkT : k < s.T) (hjN : j < s.N) (hQ0 : Q ≠ 0) (hQ : Q < 18446744073709551616) (htb : s.eA k = true) : Calls prog 51 #[.pointer (some ⟨t, 0, none⟩), clV (cR x), .int .u64 (Q : Int)] w fun e w' => e = .returned (.int .i64 0) /\ PSx w S w' t ((s.tch k).dn k (some (eJ (s.bX k) x.m x.b Q))) := by
 have hok := h.x.ok;have hlt := h.lt;have HOK2 : Hid (cf ((s.tch k).dn k (some (eJ (s.bX k) x.m x.b Q)))) := ae (aiv hok hkT htb hQ);have HDT := ae (acR (Q := Q) hok hkT hj hjN hQ0);have HTE : Hid (tcE s k = 0) := ae (by unfold tcE; rw [if_pos htb]);have HKT := ae hkT;have HQ := ae hQ;have HW := ae (gI (n := k) (by have := hok.t64; omega));have HLN := ae (jk htb);have HSE : Hid (qu (s.bX k) x.m Q = 0) := ae (by rw [hj]; exact ym (by rw [(hok.line k).2]; exact hjN) hQ0);have HND : Hid ((s.tch k).o.Nodup) := ae (hok.tch hkT).nd;have HX := ae (And.intro hk hj);have HMM := ae (yj htb);have hb1 := (Below.refl w.heap.size w).alloc aj (.cells (el (cR x)).toArray 56);have HB1 := ae hb1;have HC1 := ae (heap_alloc_new w (.cells (el (cR x)).toArray 56));have HS := ae h;have HNS : Hid (∀ b, w.heap.size <= b -> ¬ S b) := ae fun b hb hs => by have := hlt b hs; omega
 clear h hok hkT hjN hQ0 hQ htb hk hj hb1 hlt;go_enter func51, ntmps51;go_upto_region 0 with fail;refine af ?_;refine aku (zO rfl akE) ?_;refine aH 1 ?_;have HBC : Hid (¬ S w.heap.size) := ae (HNS.out _ aj);obtain ⟨bc, hbc⟩ : ∃ bc, w.heap.size = bc := ⟨_, rfl⟩;have HBCQ : Hid (w.heap.size <= bc) := ae (Nat.le_of_eq hbc);rw [hbc] at HC1 HBC ⊢;generalize w.alloc (.cells (el (cR x)).toArray 56) = w1 at *;clear hbc;have HP1 : Hid (w1.rangeAt bc 0 (er x.n x.m)) := ae (kr (c := cR x) (aQ HC1));have hb2 := (Below.refl w1.heap.size w1).alloc aj (.cells (er x.n x.m).toArray 43);have HB2 := ae (HB1.out.trans (hb2.mono HB1.out.size));have HC2 := ae (aB HC1 hb2);have HP2 := ae (heap_alloc_new w1 (.cells (er x.n x.m).toArray 43));have HBP : Hid (¬ S w1.heap.size) := ae (HNS.out _ HB1.out.size);clear hb2;go_upto_region 1 with fail;refine af ?_;refine aku (ax rfl akE tc) ?_;refine aku (fD rfl akE HP1) ?_;refine aku (rT rfl) ?_;refine aG rfl (uX rfl (ev rfl) (ev rfl)) ?_;simp only [aa];refine ah ?_;obtain ⟨bp, hbp⟩ : ∃ bp, w1.heap.size = bp := ⟨_, rfl⟩;rw [hbp] at HP2 HBP ⊢;generalize w1.alloc (.cells (er x.n x.m).toArray 43) = w2 at *;have HN2 : Hid (w2.cell? ⟨bp, 0, none⟩ = some (.int .i64 (k : Int))) := ae (by have := (eH (aQ HP2)).1; rwa [HX.out.1] at this);have HS2 := ae (HS.out.below HB2).x;clear hbp HP1 HC1;go_upto_region 2 with fail;refine aI 1 ?_;refine aku (ax rfl akE jR) ?_;refine aku (aC rfl akE (bS HN2)) ?_;refine aw rfl (aA call59 rfl (evc akE (evc akE evn))) ?_;refine (mh HS2 HKT).mono ?_;rintro e w3 ⟨rfl, h3⟩;rw [HTE.out];have HC3 := ae (h3.keep HC2 HBC);have HP3 := ae (h3.keep HP2 HBP);obtain ⟨lp, mp, FL, m, r, hs3, hok3⟩ := h3;have hl3 := hs3.u.ln k;rw [HLN.out] at hl3;obtain ⟨a, ha, hla, hlo⟩ := hl3.some_;have HS3 := ae (hs3.below (ak.drew));have HA := ae ha;have HLA : Hid (mR w3.drew (fun j => j = a) a (s.bX k)) := ae ⟨hla, rfl, hlo⟩;have HLK : Hid ((Instr.lookup 64 (.map (some mp)) (.int .i64 (k : Int)) false).run prog w3.drew = .ok (.pointer (some ⟨a, 0, none⟩)) w3.drew) := ae (by
  have := HS3.out.u.map.jT HW;rwa [show mLn m (k : Int) = some a from by unfold mLn; rw [if_pos (by omega), Int.toNat_natCast, ha]] at this)
 have HN3 : Hid (w3.cell? ⟨bp, 0, none⟩ = some (.int .i64 (k : Int)) /\ w3.cell? ⟨bp, 0 + 1, none⟩ = some (.int .i64 x.m)) := ae (by have := eH (aQ HP3); rw [HX.out.1] at this; exact this);have HBL : Hid (w3.rangeAt bc (0 + 2) (cel x.b)) := ae (ahx (c := cR x) (aQ HC3));clear hs3 hok3 hl3 ha hla hlo;refine aO ?_;refine aH 1 ?_;go_upto_region 3 with fail;refine aI 1 ?_;refine aku (aL false rfl akE evk rfl) ?_;refine ah ?_;go_upto_region 5 with fail;refine wp_region_still_tail 12 (by kernel_rfl) (by kernel_rfl) ?_;simp only [ac];refine aK rfl (aM rfl akE) ?_;simp only [aa];refine aK rfl (bf rfl akE) ?_;simp only [aa];refine aK rfl (ax rfl akE fV) ?_;simp only [aa];refine aK rfl (aC rfl akE (jW (PRu.c4 HS3.out.u))) ?_;simp only [aa];refine aK rfl (ax rfl akE jR) ?_;simp only [aa];refine aK rfl (aC rfl akE (bS HN3.out.1)) ?_;simp only [aa];refine aK rfl (cX rfl akE akE HLK) ?_;simp only [aa];refine aK rfl (ax rfl akE yr) ?_;simp only [aa];refine aK rfl (aC rfl akE (bS HN3.out.2)) ?_;simp only [aa];refine aK rfl (ax rfl akE aj2) ?_;simp only [aa];refine aK rfl (aW rfl akE HBL) ?_;simp only [aa];refine aK rfl (aM rfl akE) ?_;simp only [aa];refine wpStill_nil ?_;change wpList _ _ _ _ _ (World.drew _);refine aw rfl (aA call105 rfl (evc akE (evc akE (evc akE (evc akE evn))))) ?_;refine (afn w3.drew x.m x.b Q HLA HQ).mono ?_;rintro e w4 ⟨rfl, l4, t4⟩;rw [HSE.out];have HS4 := ae (HS3.out.line HA t4 l4);have HP4 := ae (Only.keep HS4.out.on HP2 HBP);have HN4 : Hid (w4.cell? ⟨bp, 0, none⟩ = some (.int .i64 (k : Int))) := ae (by have := (eH (aQ HP4)).1; rwa [HX.out.1] at this);clear l4 t4;refine aO ?_;refine aH 1 ?_;go_upto_region 6 with fail;refine aI 1 ?_;refine aku (aL false rfl akE evk rfl) ?_;refine ah ?_;have HS4d := ae (HS4.out.below (ak.drew));have HL4 : Hid (PLF w4.drew (fun b => FL b \/ w4.drew.heap.size <= b) lp (s.tch k).room (kyL (s.tch k).dty (s.tch k).o)) := ae (HS4d.out.u.li.mono fun b h1 _ => .inl h1);go_upto_region 8 with fail;refine wp_region_still_tail 6 (by kernel_rfl) (by kernel_rfl) ?_;simp only [ac];refine aK rfl (aM rfl akE) ?_;simp only [aa];refine aK rfl (bf rfl akE) ?_;simp only [aa];refine aK rfl (ax rfl akE jP) ?_;simp only [aa];refine aK rfl (aC rfl akE (nA (PRu.c3 HS4d.out.u))) ?_;simp only [aa];refine aK rfl (ax rfl akE jR) ?_;simp only [aa];refine aK rfl (aC rfl akE (bS HN4)) ?_;simp only [aa];refine wpStill_nil ?_;change wpList _ _ _ _ _ (World.drew _);refine aw rfl (aA call67 rfl (evc akE (evc akE (evc evk evn)))) ?_;refine (xV w4.drew HL4 HW true).mono ?_;rintro e w5 ⟨rfl, l5, t5⟩;rw [yS HND.out] at l5;obtain ⟨FL5, hs5⟩ := HS4d.out.list rfl l5 t5;rw [<- HDT.out] at hs5;have HF : Hid (nJ (k : Int) (kyL (s.tch k).dty (s.tch k).o) = 0) := ae (if_pos (cY.2 HMM));rw [HF.out];have HS5 : Hid (PSx w2 S w5 t ((s.tch k).dn k (some (eJ (s.bX k) x.m x.b Q)))) := ae ⟨lp, mp, FL5, m, r, hs5, HOK2⟩;clear l5 t5 hs5;refine aO ?_;refine aH 1 ?_;go_wp2_with fail;go_ret;exact ⟨rfl, HS5.out.since HB2⟩
section
variable {s : ShS} {q j k i : Nat} {x p : dJ} {c : List dJ} {y : LnS} {m : Int} {b : Blk}
def ug (s : ShS) (x : dJ) : Bool := (dd (s.bX x.n.toNat) x.m.toNat).dt
theorem tZ (s : ShS) (k : Nat) (y : LnS) (j : Nat) : (s.dn k (some y)).bX j = if j = k then y else s.bX j := by
 by_cases e : j = k
 ·subst e; rw [if_pos rfl]; exact dW (by rw [cU, if_pos rfl])
 ·rw [if_neg e]; unfold ShS.bX; rw [cU, if_neg e]; rfl
theorem yi (h : cf s) (hd : s.dty j = true) (n : Nat) : (s.tch n).bX j = s.bX j := by
 unfold ShS.bX;rw [h.oI hd, (s.ph n).1]
theorem km (h : cf s) (hp : s.plc x.n x.m = true) (hd : ug s x = true) : s.dty x.n.toNat = true := by
 obtain ⟨k, i, e1, hk, e2, hi⟩ := gk hp;rw [<- vj];refine uz (k := x.m.toNat) hd ?_;rw [(h.line _).2];omega
theorem abh (hr : lnR y m = true) (hq : q ≠ 0) (h : j = m.toNat \/ (dd y j).dt = true) : (dd (eJ y m b q) j).dt = true := by
 obtain ⟨k, e, hk⟩ := jy hr;rw [e, pZ hk hq];unfold dd;rw [ia _ _ _ _ _ hk]
 split
 ·rfl
 ·rename_i hne
  rcases h with h | h
  ·exact absurd (by rw [h, e]; simp) hne
  ·exact h
theorem adx (h : cf s) (hq : iB s q c = 0) (hqb : q < 18446744073709551616) : ∀ i, i <= c.length -> ∀ x ∈ c.take i, ug ((c.take i).foldl (dM q) s) x = true
 |0, _ => fun x hx => by rw [List.take_zero] at hx; cases hx
 |i + 1, hi => fun x hx => by
  obtain ⟨h1, h2, h3⟩ := n7 hq;have hi' : i < c.length := by omega
  have ih := adx h hq hqb i (by omega);have pf := iY h hq hqb i (by omega);have hpm : c.getD i di ∈ c := by rw [List.getD, List.getElem?_eq_getElem hi']; exact List.getElem_mem hi'
  obtain ⟨ht, hto, hr, _⟩ := pf.step (p := c.getD i di) h3 (h1 _ hpm) ((ke _ _).2 (.inr (List.mem_map.2 ⟨_, hpm, rfl⟩))) h2 hqb;rw [eR _ _ (d := di) hi'];rw [show c.take (i + 1) = c.take i ++ [c.getD i di] from by rw [List.take_add_one, List.getD, List.getElem?_eq_getElem hi']; rfl] at hx;generalize c.getD i di = p at *;generalize (c.take i).foldl (dM q) s = s1 at *;unfold ug dM;rw [tZ];rcases List.mem_append.1 hx with hx | hx
  ·have hxm : x ∈ c := List.mem_of_mem_take hx;have hd := ih x hx;have hdy := km pf.ok (by rw [pf.plc]; exact h1 x hxm) hd
   split
   ·rename_i e
    refine abh hr h2 (.inr ?_);rw [<- e, yi pf.ok hdy];exact hd
   ·rw [yi pf.ok hdy];exact hd
  ·have : x = p := by simpa using hx
   subst this;rw [if_pos rfl];exact abh hr h2 (.inl rfl)
theorem aik {N : Nat} (h : (dd y j).dt = true) (hj : (j : Int) ≠ m) (hy : dI y) : (dd (fX y m) j).dt = true := by
 unfold fX
 split
 ·rename_i hr
  obtain ⟨k, e, hk⟩ := jy hr;unfold dd;rw [e, Int.toNat_natCast, ia _ _ _ _ _ hk, if_neg (fun e2 => hj (by rw [e, e2]))];exact h
 ·exact h
theorem aba {N : Nat} (hx : x ∈ c) (h : rZ N c x.n = false) : x.m ≠ ((N - 1 - x.n.toNat % N : Nat) : Int) := fun e => by
 have : rZ N c x.n = true := List.any_eq_true.2 ⟨x, hx, by rw [ao rfl, ao e]; rfl⟩;rw [h] at this;cases this
theorem aby {s2 : ShS} (h : cf s2) (hp : ∀ x ∈ c, s2.plc x.n x.m = true) (hd : ∀ x ∈ c, ug s2 x = true) : ∀ i, i <= c.length ->
  (∀ x ∈ c, rZ s2.N c x.n = false -> ug ((c.take i).foldl (cM c) s2) x = true) /\ ∀ j, ((c.take i).foldl (cM c) s2).dty j = s2.dty j
 |0, _ => ⟨fun x hx _ => by rw [List.take_zero]; exact hd x hx, fun j => by rw [List.take_zero]; rfl⟩
 |i + 1, hi => by
  have hi' : i < c.length := by omega
  obtain ⟨ih1, ih2⟩ := aby h hp hd i (by omega);have hs : ∀ x ∈ c, (s2.ln x.n.toNat).isSome = true := fun x hx => eW (km h (hp x hx) (hd x hx))
  have fi := kw h c hs i (by omega);have fi1 := kw h c hs (i + 1) hi;have hpm : c.getD i di ∈ c := by rw [List.getD, List.getElem?_eq_getElem hi']; exact List.getElem_mem hi'
  rw [eR _ _ (d := di) hi'] at fi1 ⊢;generalize c.getD i di = p at *;generalize (c.take i).foldl (cM c) s2 = s1 at *;have hplc : ∀ x ∈ c, s1.plc x.n x.m = true := fun x hx => by unfold ShS.plc; rw [fi.N, fi.T]; exact hp x hx
  by_cases hq : rZ s1.N c p.n = true
  ·have e : cM c s1 p = s1 := by unfold cM; rw [if_pos hq]
   rw [e];exact ⟨ih1, ih2⟩
  ·have hqf : rZ s2.N c p.n = false := by rw [fi.N] at hq; simpa using hq
   have e : cM c s1 p = s1.dn p.n.toNat (some (fX (s1.bX p.n.toNat) ((s1.N - 1 - p.n.toNat % s1.N : Nat) : Int))) := by unfold cM; rw [if_neg hq]
   rw [e] at fi1 ⊢;have hdt : ∀ x ∈ c, rZ s2.N c x.n = false -> ug (s1.dn p.n.toNat (some (fX (s1.bX p.n.toNat) ((s1.N - 1 - p.n.toNat % s1.N : Nat) : Int)))) x = true := fun x hx hxq => by
    have hx1 := ih1 x hx hxq;unfold ug at hx1 ⊢;rw [tZ]
    split
    ·rename_i en
     rw [en] at hx1;refine aik (N := s1.N) hx1 ?_ (fi.ok.line _).1;have := aba hx hxq;obtain ⟨_, mi, _, _, em, _⟩ := gk (hp x hx);rw [<- en, fi.N];omega
    ·exact hx1
   refine ⟨hdt, fun j => ?_⟩;rw [<- ih2];by_cases ej : j = p.n.toNat
   ·subst ej;rw [km fi1.ok (by have := hplc p hpm; unfold ShS.plc at this ⊢; exact this) (hdt p hpm hqf), km fi.ok (hplc p hpm) (ih1 p hpm hqf)]
   ·exact kE (by rw [cU, if_neg ej])
end
def hbC (f : Nat -> Bool) : List Value := (List.range 64).map fun j => .bool (f j)
theorem sL (f : Nat -> Bool) : (hbC f).length = 64 := by simp [hbC]
theorem wI (f : Nat -> Bool) {j : Nat} (h : j < 64) : (hbC f)[j]? = some (.bool (f j)) := by
 simp only [hbC, List.getElem?_map, List.getElem?_range h, Option.map_some]
theorem afw (f : Nat -> Bool) (k : Nat) (b : Bool) : (hbC f).set k (.bool b) = hbC (dj f k b) := by
 apply List.ext_getElem?;intro j;by_cases hj : j < 64
 ·rw [wI _ hj];by_cases e : k = j
  ·subst e; rw [List.getElem?_set_self (by rw [sL]; exact hj), dc]
  ·rw [List.getElem?_set_ne e, wI _ hj, cj _ _ fun e2 => e e2.symm]
 ·rw [List.getElem?_eq_none (by rw [List.length_set, sL]; omega), List.getElem?_eq_none (by rw [sL]; omega)]
def ib (w : World) (b : Nat) (f : Nat -> Bool) : Prop := w.heap[b]? = some (.cells (hbC f).toArray 155 (0, 0))
section
variable {w w' : World} {b k : Nat} {f : Nat -> Bool}
theorem ib.at_ (h : ib w b f) (hk : k < 64) : w.cell? ⟨b, k, none⟩ = some (.bool (f k)) := by
 have := (aQ h) k _ (wI f hk);rwa [Nat.zero_add] at this
theorem ib.fz (h : ib w b f) (j : Nat) : w.frozen? ⟨b, j, none⟩ = false := frozen_of_row w b j _ _ h
theorem ib.set (h : ib w b f) (k : Nat) : ib (w.setCell ⟨b, k, none⟩ (.bool true)) b (dj f k true) := by
 have := heap_setCell_same w b k _ _ (.bool true) h;unfold ib;rw [this, <- afw];simp
theorem ab2 : (prog.info? 155).map (fun i => i.zero) = some (some (.agg (hbC fun _ => false).toArray)) := by kernel_rfl
theorem ib.below (h : ib w b f) (hb : Below w.heap.size w w') : ib w' b f := aB h hb
theorem ajl {off : Nat} (hk : k < 64) : (Instr.indexAt 155 (.pointer (some ⟨b, 0, none⟩)) (.int .i64 (k : Int))).run prog w = .ok (.pointer (some ⟨b, k, none⟩)) w := by
 have e : (0 <= (k : Int) /\ (k : Int) < 64) := by omega
 simp [Instr.indexAt, Instr.sureAddr, asIntOf, run_underlying underlying155, Tryz.sizeOf4, Addr.add_mid, e, hk]
end
theorem lD {ρ : Operand -> Value} {o : Oper} {x y : Operand} {w : World} {b k : Nat} (hk : k < 64) (ho : o.op = .indexAddr 155 x y) (hx : ρ x = .pointer (some ⟨b, 0, none⟩)) (hy : ρ y = .int .i64 (k : Int)) : (execOp ρ o).run prog w = .ok (.value (.pointer (some ⟨b, k, none⟩))) w := by
 unfold execOp;simp only [ho, hx, hy, Sem.run_bind, ajl (off := 0) hk, Result.andThen_ok, Sem.run_pure]
def hbF (N : Nat) (l : List Cl) (j : Nat) : Bool := l.any (kS N j)
theorem ab0 {N : Nat} {l : List Cl} {i k : Nat} {x : Cl} (hi : i < l.length) (hx : l.getD i jQ = x) (hk : x.s = (k : Int)) : hbF N (l.take (i + 1)) = if x.m = ((N - 1 - k % N : Nat) : Int) then dj (hbF N (l.take i)) k true else hbF N (l.take i) := by
 subst hx;have e : ∀ j, hbF N (l.take (i + 1)) j = (hbF N (l.take i) j || kS N j (l.getD i jQ)) := fun j => by
  unfold hbF;rw [List.take_add_one, List.getElem?_eq_getElem hi, List.getD, List.getElem?_eq_getElem hi, List.any_append];simp
 funext j
 rw [e];by_cases ej : j = k
 ·subst ej
  split
  ·rename_i hm
   rw [dc];have : kS N j (l.getD i jQ) = true := by unfold kS pPl; rw [ao hk, ao hm]; rfl
   rw [this, Bool.or_true]
  ·rename_i hm
   have : kS N j (l.getD i jQ) = false := by unfold kS pPl; rw [am hm, Bool.and_false]
   rw [this, Bool.or_false]
 ·have : kS N j (l.getD i jQ) = false := by unfold kS; rw [am (by omega), Bool.false_and]
  rw [this, Bool.or_false]
  split
  ·rw [cj _ _ ej]
  ·rfl
theorem aau {w : World} {S : Nat -> Prop} {t K nc cc : Nat} {A : Option Addr} {c : List dJ} {s : ShS} (h : PSh w S t K s) (hn0 : nc <= 1000000) (hc : RdE cQ w w.heap.size A nc (c.map cR)) (hcn : c.length = nc) (hA : ∀ x, A = some x -> 0 < nc -> ¬ S x.block) (hp : ∀ x ∈ c, s.plc x.n x.m = true) (hd : ∀ x ∈ c, ug s x = true) : Calls prog 52 #[.pointer (some ⟨t, 0, none⟩), .slice A nc cc] w fun e w' => e = .returned (.tuple #[]) /\ PSx w S w' t (c.foldl (cM c) s) := by
 have hok := h.x.ok;have hlt0 := h.lt;have HT64 : Hid (s.T <= 64) := ae hok.t64;have HPC := ae hp;have HN0 := ae hn0;have HC := ae hc;have HCN := ae hcn;have HA := ae hA;have HOK := ae hok;have HSM : Hid (∀ x ∈ c, (s.ln x.n.toNat).isSome = true) := ae fun x hx => eW (km hok (hp x hx) (hd x hx))
 have HFD := ae (aby hok hp hd);have HLC : Hid ((c.map cR).length = c.length) := ae (List.length_map _);have hb1 := (Below.refl w.heap.size w).alloc aj (.cells (hbC fun _ => false).toArray 155);have HB1 := ae hb1;have HH1 : Hid (ib (w.alloc (.cells (hbC fun _ => false).toArray 155)) w.heap.size (fun _ => false)) := ae (heap_alloc_new w _);have HS := ae h;have HNS : Hid (∀ b, w.heap.size <= b -> ¬ S b) := ae fun b hb hs => by have := hlt0 b hs; omega
 clear h hok hn0 hc hcn hA hp hd hb1 hlt0;go_enter func52, ntmps52;go_upto_region 0 with fail;refine af ?_;refine aku (ed ab2 rfl) ?_;refine ah ?_;have HBH : Hid (¬ S w.heap.size) := ae (HNS.out _ aj);obtain ⟨bh, hbh⟩ : ∃ bh, w.heap.size = bh := ⟨_, rfl⟩;have HBHQ := ae hbh;rw [hbh] at HH1 HBH ⊢;generalize w.alloc (.cells (hbC fun _ => false).toArray 155) = w1 at *;clear hbh;go_upto_region 1 with fail;refine aI 1 ?_;refine aku (dH cQ rfl akE) ?_;refine aH 1 ?_;go_wp2_with fail
 go_loopw [6, 12] (fun _ y wr => ∃ i : Nat, y = .int .i64 i /\ i <= nc /\ ib wr bh (hbF s.N ((c.map cR).take i)) /\ Below bh w wr) (fun _ y _ => nc - (intOf y).toNat)
 case atStart => exact ⟨0, by go_num, Nat.zero_le _, by rw [List.take_zero]; exact HH1, by have := HB1.out; rwa [HBHQ.out] at this⟩
 case round =>
  obtain ⟨i, rfl, hi, hh, hb⟩ := hrel;have HHr := ae hh;have HW := ae hb;have hb' : Below w.heap.size w wr := by rw [HBHQ.out]; exact hb
  have HCr := ae (HC.out.step hb');have HSr := ae (HS.out.below hb');have HBS : Hid (bh <= wr.heap.size) := ae (by have := hb'.size; rw [HBHQ.out] at this; exact this);clear hh hb hb';by_cases hlt : i < nc
  ·have HI := ae hlt;have HIC : Hid (i < c.length) := ae (by rw [HCN.out]; exact hlt);have HT : Hid (decide ((i : Int) < (nc : Int)) = true) := ae (ao (by omega));have HADD : Hid (IntKind.i64.wrap ((i : Int) + 1) = ((i + 1 : Nat) : Int)) := ae (by have := HN0.out; rw [eV ⟨by omega, by omega⟩]; omega);obtain ⟨b, off, rfl, hbb, hcell⟩ := HCr.out.cl hlt;obtain ⟨x, hx⟩ : ∃ x, c.getD i di = x := ⟨_, rfl⟩;rw [lX HIC.out, hx] at hcell;have HCL : Hid (wr.rangeAt b (off + i * cQ.n) (el (cR x))) := ae hcell;have HXX := ae hx;obtain ⟨k, j, e1, hkT, e2, hjN⟩ := gk (HPC.out x (by rw [<- hx, List.getD, List.getElem?_eq_getElem HIC.out]; exact List.getElem_mem HIC));have HE1 := ae e1;have HKT := ae hkT;have HK64 : Hid (k < 64) := ae (by have := HT64.out; omega);have HB3 : Hid (Below wr.heap.size wr (wr.alloc (.cells (el (cR x)).toArray 56))) := ae (ak.alloc aj _);have HBX := ae (heap_alloc_new wr (.cells (el (cR x)).toArray 56));have HSNO : Hid (hbF s.N ((c.map cR).take (i + 1)) = if x.m = ((s.N - 1 - k % s.N : Nat) : Int) then dj (hbF s.N ((c.map cR).take i)) k true else hbF s.N ((c.map cR).take i)) := ae (ab0 (x := cR x) (by rw [HLC.out]; exact HIC) (by rw [lX HIC.out, hx]) e1);clear hi hlt hcell hx hbb e1 hkT e2 hjN;go_upto_region 2 with fail;refine af ?_;refine aku (aZ true rfl akE akE HT) ?_;refine ah ?_;go_upto_region 3 with fail;refine af ?_;refine aku (cu (E := cQ) rfl akE akE HI) ?_;refine aku (iv rfl akE HCL) ?_;refine aku (iL rfl) ?_;refine aG rfl (jG rfl (ev rfl) (ev rfl)) ?_;simp only [aa];refine ah ?_;obtain ⟨bx, hbx⟩ : ∃ bx, wr.heap.size = bx := ⟨_, rfl⟩;rw [hbx] at HBX ⊢;generalize wr.alloc (.cells (el (cR x)).toArray 56) = w3 at *;have HS3 := ae (HSr.out.below HB3);have HH3 := ae (HHr.out.below HB3);have HW3 := ae (HW.out.trans (HB3.out.mono HBS));have HS3B : Hid (bh <= w3.heap.size) := ae (aq HBS HB3.out.size);clear hbx;have HPS : Hid (∀ {w' : World}, Below w3.heap.size w3 w' -> w'.cell? ⟨bx, 0, none⟩ = some (.int .i64 (k : Int)) /\ w'.cell? ⟨bx, 0 + 1, none⟩ = some (.int .i64 x.m)) := ae fun hw => by
    have := eH (kr (c := cR x) (aQ (aB HBX hw)));rw [<- HE1.out];exact this
   obtain ⟨lp, mp, FL, m, r, hs3, hok3, _⟩ := HS3.out;have HU3 := ae hs3;clear hs3 hok3;go_upto_region 4 with fail;refine aR (B := w3.heap.size) (by kernel_rfl) ?_;refine akC (fun _ hw => ax rfl akE tc) ?_;refine akC (fun _ hw => ax rfl akE yr) ?_;refine akC (fun _ hw => aC rfl akE (bS (HPS.out hw).2)) ?_;refine cE 1 ?_;refine akC (fun _ hw => ax rfl akE tc) ?_;refine akC (fun _ hw => ax rfl akE jR) ?_;refine akC (fun _ hw => aC rfl akE (bS (HPS.out hw).1)) ?_;refine bW rfl (fun _ => aA call106 rfl (evc akE (evc akE evn))) (bH aj fun _ hw => qK HKT (HU3.out.below hw)) ?_;simp only [aa];by_cases hm : x.m = ((s.N - 1 - k % s.N : Nat) : Int)
   ·have HM : Hid ((x.m == ((s.N - 1 - k % s.N : Nat) : Int)) = true) := ae (by rw [hm]; exact beq_self_eq_true _);have HST : Hid (hbF s.N ((c.map cR).take (i + 1)) = dj (hbF s.N ((c.map cR).take i)) k true) := ae (by rw [HSNO.out, if_pos hm]);clear hm;refine akC (fun _ hw => aF true rfl akE akE HM) ?_;refine wpQuiet_nil ?_;intro w4 hw;have HH4 := ae (HH3.out.below hw);have HW4 := ae (HW3.out.trans (hw.mono HS3B));have HPS4 : Hid (w4.cell? ⟨bx, 0, none⟩ = some (.int .i64 (k : Int))) := ae (HPS.out hw).1;clear hw;have HH5 := ae (HH4.out.set k);have HW5 : Hid (Below bh w (w4.setCell ⟨bh, k, none⟩ (.bool true))) := ae (below_setCells HW4 aj (o := k) [.bool true]);go_upto_region 5 with fail;refine af ?_;refine aku (ax rfl akE tc) ?_;refine aku (ax rfl akE jR) ?_;refine aku (aC rfl akE (bS HPS4)) ?_;refine aku (lD HK64 rfl akE akE) ?_;refine aG rfl (cZ rfl (ev rfl) evk (ajd (HH4.out.at_ HK64.out) (HH4.out.fz k))) ?_;simp only [aa];generalize w4.setCell ⟨bh, k, none⟩ (.bool true) = w5 at *;refine ah ?_;go_upto_region 6 with fail;refine af ?_;refine aku (bJ rfl akE evk HADD) ?_;refine aH 1 ?_;go_wp2_with fail;go_roundw
    case rel => exact ⟨i + 1, by go_num, HI, by rw [HST.out]; exact HH5, HW5⟩
    case measure => have := HI.out; simp [intOf]; omega
   have HM : Hid ((x.m == ((s.N - 1 - k % s.N : Nat) : Int)) = false) := ae (au hm);have HST : Hid (hbF s.N ((c.map cR).take (i + 1)) = hbF s.N ((c.map cR).take i)) := ae (by rw [HSNO.out, if_neg hm]);clear hm;refine akC (fun _ hw => aF false rfl akE akE HM) ?_;refine wpQuiet_nil ?_;intro w4 hw;have HH4 := ae (HH3.out.below hw);have HW4 := ae (HW3.out.trans (hw.mono HS3B));clear hw;go_upto_region 6 with fail;refine af ?_;refine aku (bJ rfl akE evk HADD) ?_;refine aH 1 ?_;go_wp2_with fail;go_roundw
   case rel => exact ⟨i + 1, by go_num, HI, by rw [HST.out]; exact HH4, HW4⟩
   case measure => have := HI.out; simp [intOf]; omega
  have hin : i = nc := by omega
  have HT : Hid (decide ((i : Int) < (nc : Int)) = false) := ae (am (by omega));have HHB : Hid (ib wr bh (hbF s.N (c.map cR))) := ae (by have := HHr.out; rwa [hin, List.take_of_length_le (by rw [HLC.out, HCN.out]; omega)] at this);clear hlt hi hin;go_upto_region 2 with fail;refine af ?_;refine aku (aZ false rfl akE akE HT) ?_;refine ah ?_;go_upto_region 7 with fail;refine aI 1 ?_;refine aku (dH cQ rfl akE) ?_;refine aH 1 ?_;have HWB : Hid (Below w.heap.size w wr) := ae (by rw [HBHQ.out]; exact HW);have HCB := HCr;have HSB := HSr;clear HCr HSr HW HBS
  rename World => wB
  go_wp2_with fail
  go_loopw [8, 9, 32] (fun _ _ y wr => ∃ i : Nat, y = .int .i64 i /\ i <= nc /\ PSx wB S wr t ((c.take i).foldl (cM c) s)) (fun _ _ y _ => nc - (intOf y).toNat)
  case atStart => exact ⟨0, by go_num, Nat.zero_le _, HSB.out.x⟩
  case round =>
   obtain ⟨i, rfl, hi, hs⟩ := hrel;have HSr := ae hs;have HCr := ae (HCB.out.only hs.only aj HA);have HHr : Hid (ib wr bh (hbF s.N (c.map cR))) := ae (hs.keep HHB HBH);clear hs;by_cases hlt : i < nc
   ·have HI := ae hlt;have HIC : Hid (i < c.length) := ae (by rw [HCN.out]; exact hlt);have HT : Hid (decide ((i : Int) < (nc : Int)) = true) := ae (ao (by omega));have HADD : Hid (IntKind.i64.wrap ((i : Int) + 1) = ((i + 1 : Nat) : Int)) := ae (by have := HN0.out; rw [eV ⟨by omega, by omega⟩]; omega);obtain ⟨b, off, rfl, hbb, hcell⟩ := HCr.out.cl hlt;obtain ⟨x, hx⟩ : ∃ x, c.getD i di = x := ⟨_, rfl⟩;rw [lX HIC.out, hx] at hcell;have HCL : Hid (wr.rangeAt b (off + i * cQ.n) (el (cR x))) := ae hcell;have HXX := ae hx;obtain ⟨k, j, e1, hkT, e2, hjN⟩ := gk (HPC.out x (by rw [<- hx, List.getD, List.getElem?_eq_getElem HIC.out]; exact List.getElem_mem HIC));have HE1 := ae e1;have HKT := ae hkT;have HK64 : Hid (k < 64) := ae (by have := HT64.out; omega);have HB3 : Hid (Below wr.heap.size wr (wr.alloc (.cells (el (cR x)).toArray 56))) := ae (ak.alloc aj _);have HBX := ae (heap_alloc_new wr (.cells (el (cR x)).toArray 56));have HFA := ae (abn HOK HSM HIC (by rw [hx]; exact e1));have HFD1 : Hid (∀ j, ((c.take (i + 1)).foldl (cM c) s).dty j = ((c.take i).foldl (cM c) s).dty j) := ae fun j => by rw [(HFD.out (i + 1) HIC.out).2, (HFD.out i (Nat.le_of_lt HIC.out)).2]
    have HWF := ae (gI HK64);clear hi hlt hcell hx hbb e1 hkT e2 hjN;go_upto_region 8 with fail;refine af ?_;refine aku (aZ true rfl akE akE HT) ?_;refine ah ?_;go_upto_region 9 with fail;refine af ?_;refine aku (cu (E := cQ) rfl akE akE HI) ?_;refine aku (iv rfl akE HCL) ?_;refine aku (iL rfl) ?_;refine aG rfl (jG rfl (ev rfl) (ev rfl)) ?_;simp only [aa];refine ah ?_;obtain ⟨bx, hbx⟩ : ∃ bx, wr.heap.size = bx := ⟨_, rfl⟩;rw [hbx] at HBX ⊢;generalize wr.alloc (.cells (el (cR x)).toArray 56) = w3 at *;have HS3 := ae (HSr.out.below HB3);have HH3 := ae (HHr.out.below HB3);clear hbx;have HPS : Hid (w3.cell? ⟨bx, 0, none⟩ = some (.int .i64 (k : Int))) := ae (by
     have := (eH (kr (c := cR x) (aQ HBX))).1;rw [<- HE1.out];exact this)
    go_upto_region 10 with fail;refine af ?_;refine aku (ax rfl akE tc) ?_;refine aku (ax rfl akE jR) ?_;refine aku (aC rfl akE (bS HPS)) ?_;refine aH 1 ?_;have HFN := ae HFA.out.N;cases hfl : hbF s.N (c.map cR) k;rotate_left
    ·have HFL := ae hfl;have HNX : Hid ((c.take (i + 1)).foldl (cM c) s = (c.take i).foldl (cM c) s) := ae (HFA.out.yes (by rw [HFN.out]; exact hfl));clear hfl;go_upto_region 11 with fail;refine aI 1 ?_;refine aku (lD HK64 rfl akE akE) ?_;refine aku (aC rfl akE (sV (by rw [HH3.out.at_ HK64.out, HFL.out]))) ?_;refine aH 1 ?_;go_upto_region 13 with fail;refine af ?_;refine aku (bJ rfl akE evk HADD) ?_;refine aH 1 ?_;go_wp2_with fail;go_roundw
     case rel => exact ⟨i + 1, by go_num, HI, by rw [HNX.out]; exact HS3⟩
     case measure => have := HI.out; simp [intOf]; omega
    have HFL := ae hfl;have HNX : Hid ((c.take (i + 1)).foldl (cM c) s = ((c.take i).foldl (cM c) s).dn k (some (fX (((c.take i).foldl (cM c) s).bX k) ((s.N - 1 - k % s.N : Nat) : Int)))) := ae (by rw [HFA.out.no (by rw [HFN.out]; exact hfl), HFN.out]; rfl);have HNOK := ae HFA.out.nok;have HLN := ae HFA.out.ln;have HKT1 : Hid (k < ((c.take i).foldl (cM c) s).T) := ae (by rw [HFA.out.T]; exact HKT);clear hfl;generalize (c.take i).foldl (cM c) s = s1 at *;generalize hs2q : (c.take (i + 1)).foldl (cM c) s = s2 at *;have HS2Q := ae hs2q;clear hs2q;obtain ⟨lp, mp, FL, m, r, hs3, hok3⟩ := HS3.out;have hl3 := hs3.u.ln k;rw [HLN.out] at hl3;obtain ⟨a, ha, hla, hlo⟩ := hl3.some_;have HA3 := ae ha;have HU3 := ae hs3;have HLA : Hid (LnA w3 a (lf (s1.bX k)) /\ dI (s1.bX k)) := ae ⟨hla, hlo⟩;have HLK : ∀ {w' : World}, dG w' mp s1.o.length (mLn m) -> (Instr.lookup 64 (.map (some mp)) (.int .i64 (k : Int)) false).run prog w' = .ok (.pointer (some ⟨a, 0, none⟩)) w' := fun hm => by
     have := hm.jT HWF;rwa [show mLn m (k : Int) = some a from by unfold mLn; rw [if_pos (by omega), Int.toNat_natCast, HA3.out]] at this
    have HSD : Hid (w3.drew.cell? ⟨t, 4, none⟩ = some (.map (some mp)) /\ (Instr.lookup 64 (.map (some mp)) (.int .i64 (k : Int)) false).run prog w3.drew = .ok (.pointer (some ⟨a, 0, none⟩)) w3.drew) := ae ⟨hs3.u.c4, HLK (hs3.below (ak.drew)).u.map⟩;clear hok3 hl3 ha hla hlo;go_upto_region 11 with fail;refine aI 1 ?_;refine aku (lD HK64 rfl akE akE) ?_;refine aku (aC rfl akE (sV (by rw [HH3.out.at_ HK64.out, HFL.out]))) ?_;refine aH 1 ?_;go_upto_region 12 with fail;refine wp_region_held (S := fun w' => w'.cell? ⟨t, 4, none⟩ = some (.map (some mp)) /\ (Instr.lookup 64 (.map (some mp)) (.int .i64 (k : Int)) false).run prog w' = .ok (.pointer (some ⟨a, 0, none⟩)) w') (by kernel_rfl) ?_;change wpAnyH _ _ _ _ _ 10 _ _ w3.drew;refine akR 0 rfl HSD ?_;refine akT 1 rfl HSD ?_;refine akx 2 rfl (fun _ hw => ax rfl akE fV) HSD ?_;refine akx 3 rfl (fun _ hw => aC rfl akE (jW hw.1)) HSD ?_;refine akR 4 rfl HSD ?_;refine akx 5 rfl (fun _ hw => cX rfl akE akE hw.2) HSD ?_;refine akR 6 rfl HSD ?_;refine akR 7 rfl HSD ?_;refine dU 8 rfl (by kernel_rfl) rfl (aA call106 rfl (evc akE (evc akE evn))) ?_;refine (qK HKT1 (hs3.below (ak.drew)).u).mono ?_;rintro e wA ⟨rfl, bA⟩;have bA' := ((Below.refl w3.heap.size w3).drew).trans bA;have hsA := hs3.below bA';have HSA : Hid (wA.cell? ⟨t, 4, none⟩ = some (.map (some mp)) /\ (Instr.lookup 64 (.map (some mp)) (.int .i64 (k : Int)) false).run prog wA = .ok (.pointer (some ⟨a, 0, none⟩)) wA) := ae ⟨hsA.u.c4, HLK hsA.u.map⟩;have HUA := ae hsA;have HPA : Hid (mR wA (fun j => j = a) a (s1.bX k)) := ae ⟨HLA.out.1.below bA', rfl, HLA.out.2⟩;clear bA bA' hsA;refine ⟨_, rfl, HSA, ?_⟩;simp only [aa];refine dU 9 rfl (by kernel_rfl) rfl (aA call107 rfl (evc akE (evc akE evn))) ?_;rw [show s1.N = s.N from HFN.out];refine (xt wA ((s.N - 1 - k % s.N : Nat) : Int) HPA).mono ?_;rintro e wC ⟨rfl, lC, tC⟩;have HUC := ae (HUA.out.line HA3 tC lC);have HSC : Hid (wC.cell? ⟨t, 4, none⟩ = some (.map (some mp)) /\ (Instr.lookup 64 (.map (some mp)) (.int .i64 (k : Int)) false).run prog wC = .ok (.pointer (some ⟨a, 0, none⟩)) wC) := ae ⟨HUC.out.u.c4, HLK HUC.out.u.map⟩;clear lC tC;refine ⟨_, rfl, HSC, ?_⟩;simp only [aa];refine wpAnyH_done (by kernel_rfl) ?_ _;have HSF : Hid (PSx wB S wC t s2) := ae (by
     have hde : s2.dty = s1.dty := funext HFD1;refine ⟨lp, mp, FL, m, r, ?_, HNOK⟩;have hu := HUC.out;rw [hde];rw [HNX.out];exact hu)
    go_upto_region 13 with fail;refine af ?_;refine aku (bJ rfl akE evk HADD) ?_;refine aH 1 ?_;go_wp2_with fail;go_roundw
    case rel => exact ⟨i + 1, by go_num, HI, by rw [HS2Q.out]; exact HSF⟩
    case measure => have := HI.out; simp [intOf]; omega
   have hin : i = nc := by omega
   have HT : Hid (decide ((i : Int) < (nc : Int)) = false) := ae (am (by omega));have HSF : Hid (PSx wB S wr t (c.foldl (cM c) s)) := ae (by have := HSr.out; rwa [List.take_of_length_le (by rw [HCN.out]; omega)] at this);clear hlt hi hin;go_upto_region 8 with fail;refine af ?_;refine aku (aZ false rfl akE akE HT) ?_;refine ah ?_;go_wp2_with fail
   go_end0
   exact ⟨rfl, HSF.out.since HWB⟩
theorem ah7 {w : World} {S : Nat -> Prop} {t K Q nc cc : Nat} {A : Option Addr} {c : List dJ} {s : ShS} (h : PSh w S t K s) (hQ : Q < 18446744073709551616) (hn0 : nc <= 1000000) (hc : RdE cQ w w.heap.size A nc (c.map cR)) (hcn : c.length = nc) (hA : ∀ x, A = some x -> 0 < nc -> ¬ S x.block) : Calls prog 13 #[.pointer (some ⟨t, 0, none⟩), .int .u64 (Q : Int), .slice A nc cc] w fun e w' => e = .returned (.int .i64 (iB s Q c)) /\ PSx w S w' t (nB s Q c) := by
 have hok := h.x.ok;have HQB := ae hQ;have HN0 := ae hn0;have HC := ae hc;have HCN := ae hcn;have HA := ae hA;have HOK := ae hok;have HS := ae h;obtain ⟨lp, mp, FL, m, r, hs, _, _⟩ := h;have HU := ae hs;obtain ⟨pq, hpq⟩ : ∃ pq, iB s Q c = pq := ⟨_, rfl⟩;have HPQ := ae hpq;rw [hpq];clear hs hok hn0 hc hcn hA hQ hpq;go_enter func13, ntmps13;go_upto_region 1 with fail;refine aI 3 ?_;refine aw rfl (aA call50 rfl (evc akE (evc akE (evc akE evn)))) ?_;refine (aaL HU HOK HN0 HC HCN).mono ?_;rintro e wB ⟨rfl, b1⟩;rw [HPQ.out];have HB := ae b1;clear b1;refine aO ?_;refine aH 1 ?_;by_cases hz : pq = 0;rotate_left
 ·have HNE : Hid ((pq != 0) = true) := ae (bne_iff_ne.2 hz);have HZ2 : Hid (nB s Q c = s) := ae (by unfold nB; rw [HPQ.out, if_neg hz]);clear hz;go_upto_region 2 with fail;refine aI 1 ?_;refine aku (aL true rfl akE evk HNE) ?_;refine ah ?_;go_upto_region 3 with fail;refine co 2 ?_;go_wp2_with fail;go_ret;exact ⟨rfl, by rw [HZ2.out]; exact HS.out.x.below HB⟩
 subst hz;have HPS : Hid (nB s Q c = c.foldl (cM c) (c.foldl (dM Q) s)) := ae (by unfold nB; rw [if_pos HPQ.out]);go_upto_region 2 with fail;refine aI 1 ?_;refine aku (aL false rfl akE evk rfl) ?_;refine ah ?_;go_upto_region 4 with fail;refine aI 1 ?_;refine aku (dH cQ rfl akE) ?_;refine aH 1 ?_;have HSB := ae (HS.out.below HB);have HCB := ae (HC.out.step HB);clear HU;go_wp2_with fail
 go_loopw [9, 10, 20] (fun _ _ y wr => ∃ i : Nat, y = .int .i64 i /\ i <= nc /\ PSx wB S wr t ((c.take i).foldl (dM Q) s)) (fun _ _ y _ => nc - (intOf y).toNat)
 case atStart => exact ⟨0, by go_num, Nat.zero_le _, HSB.out.x⟩
 case round =>
  obtain ⟨i, rfl, hi, hs⟩ := hrel;have HSr := ae hs;have HCr := ae (HCB.out.only hs.only aj HA);clear hs;by_cases hlt : i < nc
  ·have HI := ae hlt;have HIC : Hid (i < c.length) := ae (by rw [HCN.out]; exact hlt);have HT : Hid (decide ((i : Int) < (nc : Int)) = true) := ae (ao (by omega));have HADD : Hid (IntKind.i64.wrap ((i : Int) + 1) = ((i + 1 : Nat) : Int)) := ae (by have := HN0.out; rw [eV ⟨by omega, by omega⟩]; omega);obtain ⟨k, j, hpa⟩ := acz HOK HPQ HQB HIC;obtain ⟨b, off, rfl, hbb, hcell⟩ := (HCB.out.only HSr.out.only aj HA).cl hlt;obtain ⟨x, hx⟩ : ∃ x, c.getD i di = x := ⟨_, rfl⟩;rw [lX HIC.out, hx] at hcell;have HCL : Hid (wr.rangeAt b (off + i * cQ.n) (el (cR x))) := ae hcell;have hpn := hpa.n;have hpm := hpa.m;rw [hx] at hpn hpm;have HXN := ae hpn;have HXM := ae hpm;have HKT : Hid (k < ((c.take i).foldl (dM Q) s).T) := ae (by rw [hpa.T]; exact hpa.kT);have hNf := (iY HOK HPQ HQB i (Nat.le_of_lt HIC)).N;have HJN : Hid (j < ((c.take i).foldl (dM Q) s).N) := ae (by rw [hNf]; exact hpa.mN);have HTB := ae hpa.tb;have HQ0 := ae hpa.n0;have hnx := hpa.nxt;rw [hx] at hnx;have HNX := ae hnx;have HB3 : Hid (Below wr.heap.size wr (wr.alloc (.cells (el (cR x)).toArray 56))) := ae (ak.alloc aj _);have HBX := ae (heap_alloc_new wr (.cells (el (cR x)).toArray 56));clear hi hlt hcell hx hbb hpn hpm hpa hNf hnx;go_upto_region 5 with fail;refine af ?_;refine aku (aZ true rfl akE akE HT) ?_;refine ah ?_;go_upto_region 6 with fail;refine af ?_;refine aku (cu (E := cQ) rfl akE akE HI) ?_;refine aku (iv rfl akE HCL) ?_;refine aku (iL rfl) ?_;refine aG rfl (jG rfl (ev rfl) (ev rfl)) ?_;simp only [aa];refine ah ?_;obtain ⟨bx, hbx⟩ : ∃ bx, wr.heap.size = bx := ⟨_, rfl⟩;rw [hbx] at HBX ⊢;generalize wr.alloc (.cells (el (cR x)).toArray 56) = w3 at *;have HS3 := ae (HSr.out.below HB3);clear hbx;obtain ⟨S3, hs3, o3, g3⟩ := HS3.out.res K;have HSH := ae hs3;have HO3 := ae o3;have HG3 := ae g3;clear hs3 o3 g3;go_upto_region 7 with fail;refine aI 1 ?_;refine aku (iv rfl akE (aQ HBX)) ?_;refine runs 1 ?_;refine aw rfl (aA call51 rfl (evc akE (evc akE (evc akE evn)))) ?_;refine (ail HSH HXN HXM HKT HJN HQ0 HQB HTB).mono ?_;rintro e w4 ⟨rfl, h4⟩;rw [<- HNX.out] at h4;have HS4 := ae (h4.after HO3 HG3);clear h4;refine aO ?_;refine aH 1 ?_;go_upto_region 8 with fail;refine aI 1 ?_;refine aku (aL false rfl akE evk rfl) ?_;refine ah ?_;go_upto_region 10 with fail;refine af ?_;refine aku (bJ rfl akE evk HADD) ?_;refine aH 1 ?_;go_wp2_with fail;go_roundw
   case rel => exact ⟨i + 1, by go_num, HI, HS4⟩
   case measure => have := HI.out; simp [intOf]; omega
  have hin : i = nc := by omega
  have HT : Hid (decide ((i : Int) < (nc : Int)) = false) := ae (am (by omega));have htk : c.take i = c := List.take_of_length_le (by rw [HCN.out]; omega);rw [htk] at HSr;have hpf := iY HOK HPQ HQB c.length aj;have hpd := adx HOK HPQ HQB c.length aj;rw [List.take_length] at hpf hpd;obtain ⟨hq1, _, _⟩ := n7 HPQ;have HP2 : Hid (∀ x ∈ c, (c.foldl (dM Q) s).plc x.n x.m = true) := ae fun x hx => by rw [hpf.plc]; exact hq1 x hx
  have HD2 := ae hpd;obtain ⟨S2, hs2, o2, g2⟩ := HSr.out.res K;have HSH := ae hs2;have HO2 := ae o2;have HG2 := ae g2;have HA2 : Hid (∀ x, A = some x -> 0 < nc -> ¬ S2 x.block) := ae fun x e hn hs => by
   rcases g2 _ hs with e2 | e2
   ·exact HA.out x e hn e2
   ·obtain ⟨b, off, e3, hb, _⟩ := HC.out.2 0 hn;rw [e] at e3;injection e3 with e3;subst e3;have := HB.out.size;have hb' : b < w.heap.size := hb;have e4 : wB.heap.size <= b := e2;omega
  clear hlt hi hin htk hpf hpd hq1 hs2 o2 g2;go_upto_region 5 with fail;refine af ?_;refine aku (aZ false rfl akE akE HT) ?_;refine ah ?_;go_upto_region 11 with fail;refine aI 2 ?_;refine aw rfl (aA call52 rfl (evc akE (evc akE evn))) ?_;refine (aau HSH HN0 (HCr.out.more HSr.out.only.size) HCN HA2 HP2 HD2).mono ?_;rintro e w5 ⟨rfl, h5⟩;have HS5 := ae ((h5.after HO2 HG2).since HB);clear h5;refine aO ?_;refine ah ?_;go_wp2_with fail;go_ret;exact ⟨rfl, by rw [HPS.out]; exact HS5⟩
theorem nR {s : ShS} {n : Int} (h : s.str n = true) : ∃ k : Nat, n = (k : Int) /\ k < s.T := by
 have := of_decide_eq_true h;exact ⟨n.toNat, by omega, by omega⟩
theorem mb {s : ShS} (n : Int) : ut s.T n = shE s n := rfl
section
variable {s : ShS} {k : Nat} {x : LnS}
theorem abT (h : cf s) : (s.dn k (some (gu x))).dty = dj s.dty k false := funext fun i => by
 by_cases e : i = k
 ·subst e;rw [dc, iA (x := gu x) (by rw [cU, if_pos rfl])];unfold jS;rw [aeB]
  rfl
 ·rw [cj _ _ e];exact kE (by rw [cU, if_neg e])
theorem abN (h : cf s) : kyL ({ s.dn k none with o := dB s.o k } : ShS).dty (dB s.o k) = kyL s.dty (dB s.o k) :=
 qR fun j hj => kE (s := s) (by
  show (s.dn k none).ln j = _
  rw [cU, if_neg (gC.1 hj).2])
end
theorem abg {w : World} {S : Nat -> Prop} {t K : Nat} {s : ShS} (n : Int) (h : PSh w S t K s) : Calls prog 19 #[.pointer (some ⟨t, 0, none⟩), .int .i64 n] w fun e w' => e = .returned (.int .i64 (shE s n)) /\ PSx w S w' t (iN s n) := by
 have hok := h.x.ok;have HOK := ae hok;have HS := ae h;obtain ⟨lp, mp, FL, m, r, hs, _, hSe⟩ := h;have HU := ae hs;obtain ⟨en, hen⟩ : ∃ en, shE s n = en := ⟨_, rfl⟩;have HEN := ae hen;have HMY : Hid (ut s.T n = en) := ae ((mb n).trans hen);rw [hen];clear hs hen;go_enter func19, ntmps19;go_upto_region 1 with fail;refine aI 2 ?_;refine aw rfl (aA call65 rfl (evc akE (evc akE evn))) ?_;refine (m9 n HU).mono ?_;rintro e w1 ⟨rfl, b1⟩;rw [HMY.out];have HB := ae b1;clear b1;refine aO ?_;refine aH 1 ?_;cases hc : s.str n
 ·have HNE : Hid ((en != 0) = true) := ae (by rw [<- HEN.out]; unfold shE; rw [hc]; rfl);have HZ : Hid (iN s n = s) := ae (by unfold iN; rw [hc]; simp);clear hc hok hSe;go_upto_region 2 with fail;refine aI 1 ?_;refine aku (aL true rfl akE evk HNE) ?_;refine ah ?_;go_upto_region 3 with fail;refine co 2 ?_;go_wp2_with fail;go_ret;exact ⟨rfl, by rw [HZ.out]; exact HS.out.x.below HB⟩
 have hen0 : en = 0 := by rw [<- HEN.out]; unfold shE; rw [hc]; rfl
 subst hen0;obtain ⟨k, rfl, hk⟩ := nR hc;have HW := ae (gI (n := k) (by have := hok.t64; omega));have HU1 := ae (HU.out.below HB);have HS1 : Hid (PSt w S w1 t lp mp FL (kyL s.dty s.o) s.o.length m s.ln s.N s.T s.room r) := ae (by subst hSe; exact (PSt.start HU).below HB);go_upto_region 2 with fail;refine aI 1 ?_;refine aku (aL false rfl akE evk rfl) ?_;refine ah ?_;have hl := HU1.out.ln k;cases hx : s.ln k with
 |none =>
  rw [hx] at hl;have hlk := HU1.out.map.jT HW;rw [show mLn m (k : Int) = none from by unfold mLn; rw [if_pos (by omega), Int.toNat_natCast, hl.none_]] at hlk;have HK := ae hlk;have HZ : Hid (iN s (k : Int) = s) := ae (by unfold iN; rw [Int.toNat_natCast, hx, if_neg (fun e => by cases e.2)]);clear hc hk hl hx hlk hok hSe;go_upto_region 4 with fail;refine aI 2 ?_;refine aku (ax rfl akE fV) ?_;refine aku (aC rfl akE (jW (PRu.c4 HU1))) ?_;refine runs 1 ?_;refine aku (cX rfl akE akE HK) ?_;refine aH 1 ?_;go_upto_region 5 with fail;refine aI 1 ?_;refine aku (dh false underlying109 rfl akE evk rfl) ?_;refine ah ?_;go_wp2_with fail;go_ret;exact ⟨rfl, by rw [HZ.out]; exact HS.out.x.below HB⟩
 |some x =>
  rw [hx] at hl;obtain ⟨a, ha, hla, hlo⟩ := hl.some_;have hlk := HU1.out.map.jT HW;rw [show mLn m (k : Int) = some a from by unfold mLn; rw [if_pos (by omega), Int.toNat_natCast, ha]] at hlk;have HK := ae hlk;have HA := ae ha;have HLA : Hid (mR w1 (fun j => j = a) a x) := ae ⟨hla, rfl, hlo⟩;have HZ : Hid (iN s (k : Int) = s.dn k (some (gu x))) := ae (by unfold iN; rw [Int.toNat_natCast, if_pos ⟨hc, by rw [hx]; rfl⟩, dW hx]);have HOK2 : Hid (cf (iN s (k : Int))) := ae (HOK.out.cln _);have HDT := ae (abT (k := k) (x := x) hok);have HND := ae hok.nd;clear hc hk hl hx hlk ha hla hlo hok hSe;go_upto_region 4 with fail;refine aI 2 ?_;refine aku (ax rfl akE fV) ?_;refine aku (aC rfl akE (jW (PRu.c4 HU1))) ?_;refine runs 1 ?_;refine aku (cX rfl akE akE HK) ?_;refine aH 1 ?_;go_upto_region 5 with fail;refine aI 1 ?_;refine aku (dh true underlying109 rfl akE evk rfl) ?_;refine ah ?_;go_upto_region 6 with fail;refine aI 1 ?_;refine aw rfl (aA call66 rfl (evc akE evn)) ?_;refine (zk w1 HLA).mono ?_;rintro e w2 ⟨rfl, l2, t2⟩;have HS2 := ae (HS1.out.line HA t2 l2);have HL2 : Hid (PLF w2 (fun b => FL b \/ w2.heap.size <= b) lp s.room (kyL s.dty s.o)) := ae (HS2.out.u.li.mono fun b h1 _ => .inl h1);clear l2 t2;refine aO ?_;refine ah ?_;go_upto_region 7 with fail;refine aI 2 ?_;refine aku (ax rfl akE jP) ?_;refine aku (aC rfl akE (nA (PRu.c3 HS2.out.u))) ?_;refine runs 1 ?_;refine aw rfl (aA call67 rfl (evc akE (evc akE (evc evk evn)))) ?_;refine (xV w2 HL2 HW false).mono ?_;rintro e w3 ⟨rfl, l3, t3⟩;rw [yS HND.out, <- HDT.out] at l3;obtain ⟨FL3, hs3⟩ := HS2.out.list rfl l3 t3;have HS3 : Hid (PSx w S w3 t (iN s (k : Int))) := ae ⟨lp, mp, FL3, m, r, by rw [HZ.out]; exact hs3, HOK2⟩;clear l3 t3 hs3;refine aO ?_;refine ah ?_;go_wp2_with fail;go_ret;exact ⟨rfl, HS3⟩
theorem aeK {w : World} {S : Nat -> Prop} {t K : Nat} {s : ShS} (n : Int) (h : PSh w S t K s) : Calls prog 20 #[.pointer (some ⟨t, 0, none⟩), .int .i64 n] w fun e w' => e = .returned (.int .i64 (shE s n)) /\ PSx w S w' t (kR s n) := by
 have hok := h.x.ok;have HOK := ae hok;have HS := ae h;obtain ⟨lp, mp, FL, m, r, hs, _, hSe⟩ := h;have HU := ae hs;obtain ⟨en, hen⟩ : ∃ en, shE s n = en := ⟨_, rfl⟩;have HEN := ae hen;have HMY : Hid (ut s.T n = en) := ae ((mb n).trans hen);rw [hen];clear hs hen;go_enter func20, ntmps20;go_upto_region 1 with fail;refine aI 2 ?_;refine aw rfl (aA call65 rfl (evc akE (evc akE evn))) ?_;refine (m9 n HU).mono ?_;rintro e w1 ⟨rfl, b1⟩;rw [HMY.out];have HB := ae b1;clear b1;refine aO ?_;refine aH 1 ?_;cases hc : s.str n
 ·have HNE : Hid ((en != 0) = true) := ae (by rw [<- HEN.out]; unfold shE; rw [hc]; rfl);have HZ : Hid (kR s n = s) := ae (by unfold kR; rw [hc]; simp);clear hc hok hSe;go_upto_region 2 with fail;refine aI 1 ?_;refine aku (aL true rfl akE evk HNE) ?_;refine ah ?_;go_upto_region 3 with fail;refine co 2 ?_;go_wp2_with fail;go_ret;exact ⟨rfl, by rw [HZ.out]; exact HS.out.x.below HB⟩
 have hen0 : en = 0 := by rw [<- HEN.out]; unfold shE; rw [hc]; rfl
 subst hen0;obtain ⟨k, rfl, hk⟩ := nR hc;have HW := ae (gI (n := k) (by have := hok.t64; omega));have HU1 := ae (HU.out.below HB);have HS1 : Hid (PSt w S w1 t lp mp FL (kyL s.dty s.o) s.o.length m s.ln s.N s.T s.room r) := ae (by subst hSe; exact (PSt.start HU).below HB);go_upto_region 2 with fail;refine aI 1 ?_;refine aku (aL false rfl akE evk rfl) ?_;refine ah ?_;have HZ : Hid (kR s (k : Int) = { s.dn k none with o := dB s.o k }) := ae (by unfold kR; rw [hc, if_pos rfl, Int.toNat_natCast]);have HOK2 : Hid (cf (kR s (k : Int))) := ae (HOK.out.drp _);have HND := ae hok.nd;have HDD := ae (abN (k := k) hok);have HL1 : Hid (PLF w1 (fun b => FL b \/ w1.heap.size <= b) lp s.room (kyL s.dty s.o)) := ae (HU1.out.li.mono fun b h1 _ => .inl h1);by_cases hm : k ∈ s.o
 ·have HFN : Hid (nJ (k : Int) (kyL s.dty s.o) = 0) := ae (if_pos (cY.2 hm));obtain ⟨cn, hcn⟩ : ∃ cn, s.o.length = cn + 1 := ⟨s.o.length - 1, by have := List.length_pos_of_mem hm; omega⟩;have HCN : Hid ((dB s.o k).length = cn) := ae (by have := mK hok.nd hm; omega);have HCQ := ae hcn;obtain ⟨x, hx⟩ := Option.isSome_iff_exists.1 ((hok.mem k).1 hm);have hl := HU1.out.ln k;rw [hx] at hl;obtain ⟨a, ha, _, _⟩ := hl.some_;have HMG : Hid ((mLn m (k : Int)).isSome = true) := ae (by unfold mLn; rw [if_pos (by omega), Int.toNat_natCast, ha]; rfl);clear hm hcn hx hl ha hc hk hok hSe;go_upto_region 4 with fail;refine aI 2 ?_;refine aku (ax rfl akE jP) ?_;refine aku (aC rfl akE (nA (PRu.c3 HU1))) ?_;refine runs 1 ?_;refine aw rfl (aA call68 rfl (evc akE (evc akE evn))) ?_;refine (sP w1 HL1 HW).mono ?_;rintro e w2 ⟨rfl, l2, t2⟩;rw [yq HND.out] at l2;obtain ⟨FL2, hs2⟩ := HS1.out.list rfl l2 t2;have HS2 := ae hs2;rw [HFN.out];clear l2 t2 hs2;refine aO ?_;refine aku (aF true rfl akE evk rfl) ?_;refine ah ?_;have HS2' : Hid (PSt w S w2 t lp mp FL2 (kyL s.dty (dB s.o k)) (cn + 1) m s.ln s.N s.T s.room r) := ae (by have := HS2.out; rwa [HCQ.out] at this);go_upto_region 5 with fail;refine aI 2 ?_;refine aku (ax rfl akE fV) ?_;refine aku (aC rfl akE (jW (PRu.c4 HS2'.out.u))) ?_;refine runs 1 ?_;refine ny rfl rfl akE akE HS2'.out.u.map HW HMG ?_;intro w3 hm3 ht3;simp only [aa];refine ah ?_;have hs3 := HS2'.out.del ht3 hm3;have HS3 : Hid (PSx w S w3 t (kR s (k : Int))) := ae (by
   refine ⟨lp, mp, FL2, fun j => if j = k then none else m j, r, ?_, HOK2⟩;rw [HZ.out]
   show PSt w S w3 t lp mp FL2 (kyL ({ s.dn k none with o := dB s.o k } : ShS).dty (dB s.o k)) (dB s.o k).length _ (fun j => if j = k then none else s.ln j) s.N s.T s.room r
   rw [HDD.out, HCN.out];exact hs3)
  clear hm3 ht3 hs3;go_wp2_with fail;go_ret;exact ⟨rfl, HS3⟩
 ·have HFN : Hid (nJ (k : Int) (kyL s.dty s.o) = 7) := ae (if_neg fun e => hm (cY.1 e));have HON : Hid (dB s.o k = s.o) := ae (jF hm);have hx : s.ln k = none := by
   have := (hok.ki k).2 hm;cases e : s.ln k with
   |none => rfl
   |some y => rw [e] at this; cases this
  have HLN : Hid ((fun j => if j = k then none else s.ln j) = s.ln) := ae (funext fun j => by
   by_cases e : j = k
   ·subst e; rw [if_pos rfl, hx]
   ·rw [if_neg e])
  clear hm hx hc hk hok hSe;go_upto_region 4 with fail;refine aI 2 ?_;refine aku (ax rfl akE jP) ?_;refine aku (aC rfl akE (nA (PRu.c3 HU1))) ?_;refine runs 1 ?_;refine aw rfl (aA call68 rfl (evc akE (evc akE evn))) ?_;refine (sP w1 HL1 HW).mono ?_;rintro e w2 ⟨rfl, l2, t2⟩;rw [yq HND.out] at l2;obtain ⟨FL2, hs2⟩ := HS1.out.list rfl l2 t2;have HS2 := ae hs2;rw [HFN.out];clear l2 t2 hs2;refine aO ?_;refine aku (aF false rfl akE evk rfl) ?_;refine ah ?_;have HS3 : Hid (PSx w S w2 t (kR s (k : Int))) := ae (by
   refine ⟨lp, mp, FL2, m, r, ?_, HOK2⟩;rw [HZ.out]
   show PSt w S w2 t lp mp FL2 (kyL ({ s.dn k none with o := dB s.o k } : ShS).dty (dB s.o k)) (dB s.o k).length _ (fun j => if j = k then none else s.ln j) s.N s.T s.room r
   rw [HDD.out, HLN.out, HON.out];have := HS2.out;rwa [HON.out] at this)
  go_wp2_with fail;go_ret;exact ⟨rfl, HS3⟩
end Go.Proofs.YtdmhelalbemlcaaGreatDoor
