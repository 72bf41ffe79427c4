import Derived.Test.YtdmhelalbemlcaaGreatDoorSkai
namespace Go.Proofs.YtdmhelalbemlcaaGreatDoor
set_option maxHeartbeats 8000000
open Go.Proofs.Tryz
open Go.RowKit
open Go.Maps (Keyed)
set_option linter.unusedVariables false
set_option linter.unusedSimpArgs false
set_option maxRecDepth 100000
section
variable {w w' : World} {B : Nat -> Prop} {p room E bm i : Nat} {bs : List Nat} {ky : Nat -> Ky} {pv nx : Nat -> Nat} {M : Int -> Option Nat} {L : List Ky} {k : Int}
theorem dE.below (h : dE w B p room E bm bs ky pv nx M) (hb : Below w.heap.size w w') : dE w' B p room E bm bs ky pv nx M := h.keep fun b o ho _ => aC ho hb
theorem uS (w : World) (h : dE w B p room E bm bs ky pv nx M) (h0 : lu (bs.map ky) = 0) : Calls prog 161 #[.pointer (some ⟨p, 0, none⟩)] w fun e w' => e = .returned (.pointer none) /\ w = w' :=
 (qe w h).mono fun e w' hh => by rw [vc h0] at hh; exact hh
theorem vT (w : World) (h : dE w B p room E bm bs ky pv nx M) {j b : Nat} (h0 : lu (bs.map ky) = j + 1) (hb : bs.getD j 0 = b) : Calls prog 161 #[.pointer (some ⟨p, 0, none⟩)] w fun e w' => e = .returned (.pointer (some ⟨b, 0, none⟩)) /\ w = w' :=
 (qe w h).mono fun e w' hh => by rw [ur h0, hb] at hh; exact hh
theorem dE.front (h : dE w B p room E bm bs ky pv nx M) (hi : i < bs.length) {pv' nx' : Nat -> Nat} (hat : w'.heap[p]? = some (.cells #[.int .i64 (room : Int), ptB E, .map (some bm)] 123 (0, 0)))
  (hl : Lnk w' ky pv' nx' (bs.getD i 0 :: E :: wo bs i)) (hs : Seg pv' nx' E (bs.getD i 0 :: wo bs i) E) (hm : dU w' bm bs.length M) : dE w' B p room E bm (bs.getD i 0 :: wo bs i) ky pv' nx' M := by
 have hd := List.nodup_cons.1 h.one;refine ⟨hat, hl.sub fun x hx => ?_, hs, List.nodup_cons.2 ⟨fun e => hd.1 ((iX hi).1 e), List.nodup_cons.2 ⟨yG hd.2 hi, hd.2.sublist (ke bs i)⟩⟩, by rw [List.length_cons, oU hi]; exact hm, fun x hx => h.hit x ((iX hi).1 hx), fun j x hj hx => ⟨(iX hi).2 (h.who j x hj hx).1, (h.who j x hj hx).2⟩, ⟨h.low.1, h.low.2.1, fun x hx => ?_⟩, ?_, h.rm⟩
 ·rcases List.mem_cons.1 hx with rfl | hx
  ·simp
  ·rcases List.mem_cons.1 hx with rfl | hx
   ·simp
   ·simp [hx]
 ·rcases List.mem_cons.1 hx with rfl | hx
  ·exact h.low.2.2 _ (by simp)
  ·exact h.low.2.2 _ (List.mem_cons_of_mem _ ((iX hi).1 hx))
 ·have hw := h.ok.wf _ (List.mem_map.2 ⟨_, cO (d := 0) hi, rfl⟩);have hi' : i < (bs.map ky).length := by rw [List.length_map]; exact hi
  rw [List.map_cons, nD, <- getD_map ky bs 0 ky0 hi];exact (h.ok.wo i).cons (aiO h.ok.one hi') (h.ok.lt hi') (h.ok.wf _ (cO hi'))
def la (B : Nat -> Prop) (p room : Nat) (k : Int) (L : List Ky) (w : World) (e : Ending) (w' : World) : Prop := e = .returned (.tuple #[.int .i64 (uQ room k L), .bool (xZ room k L), .int .i64 (xd room k L)]) /\ PLF w' B p room (wE room k L) /\ gD B w w'
theorem xw (w : World) (h : dE w B p room E bm bs ky pv nx M) (hw : (Lit.int .i64 k).wf = true) (hi : plc k (bs.map ky) < bs.length) :
  Calls prog 112 #[.pointer (some ⟨p, 0, none⟩), .int .i64 k] w (la B p room k (bs.map ky) w) := by
 obtain ⟨i, hpi⟩ : ∃ i, plc k (bs.map ky) = i := ⟨_, rfl⟩;have hmk := h.ad1 hi;rw [hpi] at hi hmk;obtain ⟨b, hb⟩ : ∃ b, bs.getD i 0 = b := ⟨_, rfl⟩;rw [hb] at hmk;have hbs : b ∈ bs := by rw [<- hb]; exact cO hi
 have hm : b ∈ E :: bs := List.mem_cons_of_mem _ hbs;have HL := ae h;have HK : Hid ((Instr.lookup 121 (.map (some bm)) (.int .i64 k) false).run prog w = .ok (.pointer (some ⟨b, 0, none⟩)) w) := ae (by have := h.map.look hw; rw [hmk] at this; exact this);have HLV := ae (tW (B := B) w h.lnk hm (h.pvm hm) (h.nxm hm) h.low.2.2);have HSG := ae (adc h.seg h.one hi);have HI := ae hi;have HB := ae hb;have HPI := ae hpi;clear h hi hb hm hbs hmk hpi hw;go_enter func112, ntmps112;go_wp2_with fail;refine (fV _ HL).mono ?_;rintro e w1 ⟨rfl, rfl⟩;go_upto_region 3 with fail;refine aJ 2 ?_;refine alM (ax rfl alW kU) ?_;refine alM (aE rfl alW (qy (HL.out).c2)) ?_;refine runs 1 ?_;refine alM (di rfl alW alW HK) ?_;refine aH 1 ?_;go_upto_region 4 with fail;refine aJ 1 ?_;refine alM (dz true underlying118 rfl alW evk rfl) ?_;refine ah ?_;go_upto_region 5 with fail;refine aJ 1 ?_;refine ay rfl (aB call159 rfl (evc alW evn)) ?_;refine HLV.out.mono ?_;rintro e w1 ⟨rfl, hl1, ht1⟩;refine aR ?_;refine ah ?_;have hat : w1.heap[p]? = some (.cells #[.int .i64 (room : Int), ptB E, .map (some bm)] 123 (0, 0)) := ht1.keep HL.out.at_ (by show ¬ (123 = 120); decide);have hsg := HSG.out;rw [HB.out] at hsg;have hnw : b ∉ E :: wo bs i := fun e => by
  have hd := List.nodup_cons.1 HL.out.one;rcases List.mem_cons.1 e with e | e
  ·exact hd.1 (by rw [<- e, <- HB.out]; exact cO HI)
  ·exact yG hd.2 HI (by rw [HB.out]; exact e)
 have hod : (E :: wo bs i).Nodup := HL.out.one.sublist ((ke bs i).cons_cons _);have hsub : ∀ x, x ∈ E :: wo bs i -> x ∈ E :: bs := fun x hx => by
  rcases List.mem_cons.1 hx with rfl | hx
  ·simp
  ·exact List.mem_cons_of_mem _ ((ke bs i).subset hx)
 have hbs : b ∈ bs := by rw [<- HB.out]; exact cO HI
 have hnxm : dr nx (pv b) (nx b) E ∈ E :: wo bs i := by
  rcases List.mem_append.1 (sG hsg) with e | e
  ·exact List.mem_cons_of_mem _ e
  ·simp at e; rw [e]; simp
 have HF := ae (rJ (B := B) (E := E) w1 (ky b) _ _ (hl1.sub hsub) (hl1 b (List.mem_cons_of_mem _ hbs)) hnw (by simp) hnxm (fun x hx => HL.out.low.2.2 x (hsub x hx)) (HL.out.low.2.2 b (List.mem_cons_of_mem _ hbs)));have HS2 := ae (qp hsg hod hnw);have HC1 := ae (cells3 hat).2.1;have HAT := ae hat
 have HT := ae ht1;clear hat hsg hnw hod hsub hbs hnxm hl1 ht1;go_upto_region 6 with fail;refine aJ 3 ?_;refine alM (ax rfl alW nW) ?_;refine alM (aE rfl alW (jP HC1)) ?_;refine ay rfl (aB call160 rfl (evc alW (evc alW evn))) ?_;refine HF.out.mono ?_;rintro e w2 ⟨rfl, hl2, ht2⟩;refine aR ?_;refine ah ?_;go_wp2_with fail
 go_ret3
 rw [aaK] at hl2;have hnd : ∀ es c, ¬ od (.map es c) := fun _ _ e => e
 have hat2 := ht2.keep HAT (by show ¬ (123 = 120); decide);have hmp : dU w2 bm bs.length M := HL.out.map.kept fun es c hb => ht2.keep (HT.out.keep hb (hnd es c)) (hnd es c)
 have hs2 := HS2.out;rw [<- HB.out] at hl2 hs2;have hp := HL.out.front HI hat2 hl2 hs2 hmp;have hi' : plc k (bs.map ky) < (bs.map ky).length := by rw [HPI.out, List.length_map]; exact HI
 refine ⟨?_, ⟨E, bm, _, ky, _, _, M, hp, ?_⟩, (HT.out.trans ht2).widen zI⟩
 ·unfold uQ xZ xd;rw [if_pos hi', if_pos hi', if_pos hi']
  rfl
 ·unfold wE;rw [if_pos hi', HPI.out, List.map_cons, nD, getD_map ky bs 0 ky0 HI.out]
theorem uP (w : World) (hup : ∀ b, w.heap.size <= b -> B b) (h : dE w B p room E bm bs ky pv nx M) (hw : (Lit.int .i64 k).wf = true) (hi : ¬ plc k (bs.map ky) < bs.length) (hl : bs.length < room) :
  Calls prog 112 #[.pointer (some ⟨p, 0, none⟩), .int .i64 k] w (la B p room k (bs.map ky) w) := by
 have hmk := h.mh hw hi;have hlen : (bs.map ky).length = bs.length := List.length_map _;have hle := h.ok.len;rw [hlen] at hle;have HI' : Hid (¬ plc k (bs.map ky) < (bs.map ky).length) := ae (by rw [hlen]; exact hi);have HLN := ae hlen;have HL := ae h;have HUP := ae hup;clear hup;have HK : Hid ((Instr.lookup 121 (.map (some bm)) (.int .i64 k) false).run prog w = .ok (.pointer none) w) := ae (by have := h.map.look hw; rw [hmk] at this; exact this);have HI := ae hi;have HW := ae hw;have HLT := ae hl;have HEQ : Hid (((bs.length : Int) == (room : Int)) = false) := ae (by simp; omega);clear hl;clear h hi hmk hw hlen hle;go_enter func112, ntmps112;go_wp2_with fail;refine (fV _ HL).mono ?_;rintro e w1 ⟨rfl, rfl⟩;go_upto_region 3 with fail;refine aJ 2 ?_;refine alM (ax rfl alW kU) ?_;refine alM (aE rfl alW (qy (HL.out).c2)) ?_;refine runs 1 ?_;refine alM (di rfl alW alW HK) ?_;refine aH 1 ?_;go_upto_region 4 with fail;refine aJ 1 ?_;refine alM (dz false underlying118 rfl alW evk rfl) ?_;refine ah ?_;go_upto_region 8 with fail;refine aT (B := w.heap.size) (by kernel_rfl) ?_;refine cT 2 ?_;refine alU (fun _ hw => ax rfl alW kU) ?_;refine alU (fun _ hw => aE rfl alW (qy (HL.out.below hw).c2)) ?_;refine alU (fun _ hw => nv rfl alW (HL.out.below hw).map) ?_;refine cT 2 ?_;refine alU (fun _ hw => ax rfl alW aez) ?_;refine alU (fun _ hw => aE rfl alW (bV (HL.out.below hw).c0)) ?_;refine alU (fun _ hw => aI false rfl alW alW HEQ) ?_;refine wpQuiet_nil ?_;intro w2 hw2;have HL2 := ae (HL.out.below hw2);have HT2 := ae (cf.of_below (I := uy) (F := B) hw2);clear hw2;go_upto_region 14 with fail;refine aJ 2 ?_;refine ay rfl (aB call162 rfl (evc alW (evc alW evn))) ?_;refine (acm w2 (HUP.out _ HT2.out.size) HL2 HI HLT HW).mono ?_;rintro e w3 ⟨rfl, ⟨n, ky', pv', nx', M', h3, e3⟩, ht3⟩;refine aR ?_;refine ah ?_;go_wp2_with fail
 go_ret3
 refine ⟨?_, ⟨E, bm, _, ky', pv', nx', M', h3, ?_⟩, HT2.out.trans ht3⟩
 ·unfold uQ xZ xd;rw [if_neg HI'.out, if_neg HI'.out, if_neg HI'.out, HLN.out, if_pos HLT.out, if_pos HLT.out, if_pos HLT.out]
  rfl
 ·unfold wE;rw [e3, if_neg HI'.out, HLN.out, if_pos HLT.out]
theorem vR (w : World) (h : dE w B p room E bm bs ky pv nx M) (hw : (Lit.int .i64 k).wf = true) (hi : ¬ plc k (bs.map ky) < bs.length) (hl : ¬ bs.length < room) (hu : lu (bs.map ky) = 0) :
  Calls prog 112 #[.pointer (some ⟨p, 0, none⟩), .int .i64 k] w (la B p room k (bs.map ky) w) := by
 have hmk := h.mh hw hi;have hlen : (bs.map ky).length = bs.length := List.length_map _;have hle := h.ok.len;rw [hlen] at hle;have HI' : Hid (¬ plc k (bs.map ky) < (bs.map ky).length) := ae (by rw [hlen]; exact hi);have HLN := ae hlen;have HL := ae h;have HK : Hid ((Instr.lookup 121 (.map (some bm)) (.int .i64 k) false).run prog w = .ok (.pointer none) w) := ae (by have := h.map.look hw; rw [hmk] at this; exact this);have HI := ae hi;have HW := ae hw;have HLT : Hid (¬ bs.length < room) := ae hl;have HEQ : Hid (((bs.length : Int) == (room : Int)) = true) := ae (by simp; omega);have HU := ae hu;clear hl hu;clear h hi hmk hw hlen hle;go_enter func112, ntmps112;go_wp2_with fail;refine (fV _ HL).mono ?_;rintro e w1 ⟨rfl, rfl⟩;go_upto_region 3 with fail;refine aJ 2 ?_;refine alM (ax rfl alW kU) ?_;refine alM (aE rfl alW (qy (HL.out).c2)) ?_;refine runs 1 ?_;refine alM (di rfl alW alW HK) ?_;refine aH 1 ?_;go_upto_region 4 with fail;refine aJ 1 ?_;refine alM (dz false underlying118 rfl alW evk rfl) ?_;refine ah ?_;go_upto_region 8 with fail;refine aT (B := w.heap.size) (by kernel_rfl) ?_;refine cT 2 ?_;refine alU (fun _ hw => ax rfl alW kU) ?_;refine alU (fun _ hw => aE rfl alW (qy (HL.out.below hw).c2)) ?_;refine alU (fun _ hw => nv rfl alW (HL.out.below hw).map) ?_;refine cT 2 ?_;refine alU (fun _ hw => ax rfl alW aez) ?_;refine alU (fun _ hw => aE rfl alW (bV (HL.out.below hw).c0)) ?_;refine alU (fun _ hw => aI true rfl alW alW HEQ) ?_;refine wpQuiet_nil ?_;intro w2 hw2;have HL2 := ae (HL.out.below hw2);have HT2 := ae (cf.of_below (I := uy) (F := B) hw2);clear hw2;go_upto_region 9 with fail;refine aJ 1 ?_;refine ay rfl (aB call161 rfl (evc alW evn)) ?_;refine (uS w2 HL2 HU).mono ?_;rintro e w3 ⟨rfl, rfl⟩;refine aR ?_;refine aH 1 ?_;go_upto_region 10 with fail;refine aJ 1 ?_;refine alM (cR true underlying118 rfl alW evk rfl) ?_;refine ah ?_;go_wp2_with fail
 go_ret3
 refine ⟨?_, ⟨E, bm, bs, ky, pv, nx, M, HL2, ?_⟩, HT2⟩
 ·unfold uQ xZ xd;rw [if_neg HI'.out, if_neg HI'.out, if_neg HI'.out, HLN.out, if_neg HLT.out, if_neg HLT.out, if_neg HLT.out, if_pos HU.out, if_pos HU.out, if_pos HU.out]
  rfl
 ·unfold wE;rw [if_neg HI'.out, HLN.out, if_neg HLT.out, if_pos HU.out]
theorem uW (w : World) (hup : ∀ b, w.heap.size <= b -> B b) (h : dE w B p room E bm bs ky pv nx M) (hw : (Lit.int .i64 k).wf = true) (hi : ¬ plc k (bs.map ky) < bs.length) (hl : ¬ bs.length < room) {j : Nat} (hu : lu (bs.map ky) = j + 1) :
  Calls prog 112 #[.pointer (some ⟨p, 0, none⟩), .int .i64 k] w (la B p room k (bs.map ky) w) := by
 have hmk := h.mh hw hi;have hlen : (bs.map ky).length = bs.length := List.length_map _;have hle := h.ok.len;rw [hlen] at hle;have HI' : Hid (¬ plc k (bs.map ky) < (bs.map ky).length) := ae (by rw [hlen]; exact hi);have HLN := ae hlen;have HL := ae h;have HUP := ae hup;clear hup;have HK : Hid ((Instr.lookup 121 (.map (some bm)) (.int .i64 k) false).run prog w = .ok (.pointer none) w) := ae (by have := h.map.look hw; rw [hmk] at this; exact this);have HI := ae hi;have HW := ae hw;have HLT : Hid (¬ bs.length < room) := ae hl;have HEQ : Hid (((bs.length : Int) == (room : Int)) = true) := ae (by simp; omega);have hj : j < bs.length := by have := adV (bs.map ky); omega
 obtain ⟨b, hb⟩ : ∃ b, bs.getD j 0 = b := ⟨_, rfl⟩;have HU := ae hu;have HU0 : Hid (¬ lu (bs.map ky) = 0) := ae (by omega);have HJ := ae hj;have HB := ae hb;have HI3 : Hid (¬ plc k ((wo bs j).map ky) < (wo bs j).length) := ae fun e => by
  have e1 : k ∈ fM ((wo bs j).map ky) := mq.1 (by rw [List.length_map]; exact e);have e2 : plc k (bs.map ky) < (bs.map ky).length := mq.2 ((((ke bs j).map ky).map Ky.n).subset e1);exact HI'.out e2
 have HLT3 : Hid ((wo bs j).length < room) := ae (by have := oU hj; omega);clear hl hu hj hb;clear h hi hmk hw hlen hle;go_enter func112, ntmps112;go_wp2_with fail;refine (fV _ HL).mono ?_;rintro e w1 ⟨rfl, rfl⟩;go_upto_region 3 with fail;refine aJ 2 ?_;refine alM (ax rfl alW kU) ?_;refine alM (aE rfl alW (qy (HL.out).c2)) ?_;refine runs 1 ?_;refine alM (di rfl alW alW HK) ?_;refine aH 1 ?_;go_upto_region 4 with fail;refine aJ 1 ?_;refine alM (dz false underlying118 rfl alW evk rfl) ?_;refine ah ?_;go_upto_region 8 with fail;refine aT (B := w.heap.size) (by kernel_rfl) ?_;refine cT 2 ?_;refine alU (fun _ hw => ax rfl alW kU) ?_;refine alU (fun _ hw => aE rfl alW (qy (HL.out.below hw).c2)) ?_;refine alU (fun _ hw => nv rfl alW (HL.out.below hw).map) ?_;refine cT 2 ?_;refine alU (fun _ hw => ax rfl alW aez) ?_;refine alU (fun _ hw => aE rfl alW (bV (HL.out.below hw).c0)) ?_;refine alU (fun _ hw => aI true rfl alW alW HEQ) ?_;refine wpQuiet_nil ?_;intro w2 hw2;have HL2 := ae (HL.out.below hw2);have HT2 := ae (cf.of_below (I := uy) (F := B) hw2);clear hw2;go_upto_region 9 with fail;refine aJ 1 ?_;refine ay rfl (aB call161 rfl (evc alW evn)) ?_;refine (vT w2 HL2 HU HB).mono ?_;rintro e w3 ⟨rfl, rfl⟩;refine aR ?_;refine aH 1 ?_;go_upto_region 10 with fail;refine aJ 1 ?_;refine alM (cR false underlying118 rfl alW evk rfl) ?_;refine ah ?_;go_upto_region 12 with fail;refine aJ 2 ?_;refine ay rfl (aB call124 rfl (evc alW (evc alW evn))) ?_;refine (ru w2 HL2 HJ HB).mono ?_;rintro e w3 ⟨rfl, ⟨pv', nx', M', h3⟩, ht3, u, v, hn3⟩;refine aR ?_;refine ah ?_;have HL3 := ae h3;have HN3 := ae hn3;have HT3 := ae (HT2.out.trans ht3);clear h3 hn3 ht3;go_upto_region 13 with fail;refine aJ 2 ?_;refine alM (ax rfl alW ade) ?_;refine alM (aE rfl alW (bV (HN3.out).c0)) ?_;refine aH 2 ?_;go_upto_region 14 with fail;refine aJ 2 ?_;refine ay rfl (aB call162 rfl (evc alW (evc alW evn))) ?_;refine (acm w3 (HUP.out _ HT3.out.size) HL3 HI3 HLT3 HW).mono ?_;rintro e w4 ⟨rfl, ⟨n, ky', pv4, nx4, M4, h4, e4⟩, ht4⟩;refine aR ?_;refine ah ?_;go_wp2_with fail
 go_ret3
 refine ⟨?_, ⟨E, bm, _, ky', pv4, nx4, M4, h4, ?_⟩, HT3.out.trans ht4⟩
 ·unfold uQ xZ xd;rw [if_neg HI'.out, if_neg HI'.out, if_neg HI'.out, HLN.out, if_neg HLT.out, if_neg HLT.out, if_neg HLT.out, if_neg HU0.out, if_neg HU0.out, if_neg HU0.out, HU.out, Nat.add_sub_cancel, getD_map ky bs 0 ky0 HJ.out, HB.out]
  rfl
 ·unfold wE;rw [e4, if_neg HI'.out, HLN.out, if_neg HLT.out, if_neg HU0.out, HU.out, Nat.add_sub_cancel, nD]
theorem ly (w : World) (hup : ∀ b, w.heap.size <= b -> B b) (h : PLF w B p room L) (hw : (Lit.int .i64 k).wf = true) : Calls prog 112 #[.pointer (some ⟨p, 0, none⟩), .int .i64 k] w (la B p room k L w) := by
 obtain ⟨E, bm, bs, ky, pv, nx, M, h, rfl⟩ := h;by_cases hi : plc k (bs.map ky) < bs.length
 ·exact xw w h hw hi
 ·by_cases hl : bs.length < room
  ·exact uP w hup h hw hi hl
  ·rcases Nat.eq_zero_or_pos (lu (bs.map ky)) with hu | hu
   ·exact vR w h hw hi hl hu
   ·exact uW w hup h hw hi hl (j := lu (bs.map ky) - 1) (by omega)
theorem dE.find (w : World) (h : dE w B p room E bm bs ky pv nx M) (hw : (Lit.int .i64 k).wf = true) {i b : Nat} (hp : plc k (bs.map ky) = i) (hi : i < bs.length) (hb : bs.getD i 0 = b) : Calls prog 119 #[.pointer (some ⟨p, 0, none⟩), .int .i64 k] w fun e w' => e = .returned (.tuple #[.pointer (some ⟨b, 0, none⟩), .int .i64 0]) /\ w = w' :=
 ue w h hw (by have := h.ad1 (k := k) (by rw [hp]; exact hi); rw [hp, hb] at this; exact this)
theorem afD (w : World) (h : dE w B p room E bm bs ky pv nx M) (hw : (Lit.int .i64 k).wf = true) (is : Bool) (hi : ¬ plc k (bs.map ky) < bs.length) :
  Calls prog 67 #[.pointer (some ⟨p, 0, none⟩), .int .i64 k, .bool is] w fun e w' => e = .returned (.int .i64 (ou k (bs.map ky))) /\ PLF w' B p room (nK k is (bs.map ky)) /\ gD B w w' := by
 have hi' : ¬ plc k (bs.map ky) < (bs.map ky).length := by rw [List.length_map]; exact hi
 have HI' := ae hi';have HF := ae (l6 w h hw (h.mh hw hi));have HL := ae h;clear h hi hi' hw;go_enter func67, ntmps67;go_wp2_with fail;refine HF.out.mono ?_;rintro e w1 ⟨rfl, rfl⟩;go_wp2_with fail;go_ret;refine ⟨by rw [zA HI'.out]; rfl, ⟨E, bm, bs, ky, pv, nx, M, HL, ?_⟩, cf.refl _ _ _⟩;unfold nK;rw [if_neg HI'.out]
theorem aeA (w : World) (h : dE w B p room E bm bs ky pv nx M) (hw : (Lit.int .i64 k).wf = true) (hi : ¬ plc k (bs.map ky) < bs.length) :
  Calls prog 68 #[.pointer (some ⟨p, 0, none⟩), .int .i64 k] w fun e w' => e = .returned (.int .i64 (ou k (bs.map ky))) /\ PLF w' B p room (yp k (bs.map ky)) /\ gD B w w' := by
 have hi' : ¬ plc k (bs.map ky) < (bs.map ky).length := by rw [List.length_map]; exact hi
 have HI' := ae hi';have HF := ae (l6 w h hw (h.mh hw hi));have HL := ae h;clear h hi hi' hw;go_enter func68, ntmps68;go_wp2_with fail;refine HF.out.mono ?_;rintro e w1 ⟨rfl, rfl⟩;go_wp2_with fail;go_ret;refine ⟨by rw [zA HI'.out]; rfl, ⟨E, bm, bs, ky, pv, nx, M, HL, ?_⟩, cf.refl _ _ _⟩;unfold yp;rw [if_neg HI'.out]
theorem acu (w : World) (h : dE w B p room E bm bs ky pv nx M) (hw : (Lit.int .i64 k).wf = true) (is : Bool) (hi : plc k (bs.map ky) < bs.length) :
  Calls prog 67 #[.pointer (some ⟨p, 0, none⟩), .int .i64 k, .bool is] w fun e w' => e = .returned (.int .i64 (ou k (bs.map ky))) /\ PLF w' B p room (nK k is (bs.map ky)) /\ gD B w w' := by
 obtain ⟨i, hpi⟩ : ∃ i, plc k (bs.map ky) = i := ⟨_, rfl⟩;rw [hpi] at hi;obtain ⟨b, hb⟩ : ∃ b, bs.getD i 0 = b := ⟨_, rfl⟩;have hbs : b ∈ bs := by rw [<- hb]; exact cO hi
 have hi' : i < (bs.map ky).length := by rw [List.length_map]; exact hi
 have HL := ae h;have HF := ae (h.find w hw hpi hi hb);have HI := ae hi;have HI' := ae hi';have HB := ae hb;have HBS := ae hbs;have HPI := ae hpi;have hkn : (ky b).n = k := by
  have := pP (k := k) (L := bs.map ky) (by rw [hpi]; exact hi');rw [hpi, getD_map ky bs 0 ky0 hi, hb] at this;exact this
 have HKN := ae hkn;have HN := ae (h.lnk b (List.mem_cons_of_mem _ hbs));clear hkn;clear h hi hb hbs hpi hw hi';go_enter func67, ntmps67;go_wp2_with fail;refine HF.out.mono ?_;rintro e w1 ⟨rfl, rfl⟩;go_upto_region 4 with fail;refine aJ 3 ?_;refine alM (ax rfl alW zx) ?_;refine aG rfl (dh rfl (ev rfl) (ev rfl) (akx HN.out.c1 (HN.out.fz 1))) ?_;simp only [aa];refine ah ?_;go_wp2_with fail;go_ret;have hm : b ∈ E :: bs := List.mem_cons_of_mem _ HBS;have hd := List.nodup_cons.1 HL.out.one;have hmap : bs.map (dr ky b ⟨(ky b).n, is⟩) = (bs.map ky).set i ⟨k, is⟩ := by
  have := adb (ky := ky) (x := ⟨(ky b).n, is⟩) hd.2 HI;rw [HB.out] at this;rw [this, HKN.out]
 have hpin : nK k is (bs.map ky) = (bs.map ky).set i ⟨k, is⟩ := by unfold nK; rw [HPI.out, if_pos HI'.out]
 have hkk : ∀ x, (dr ky b ⟨(ky b).n, is⟩ x).n = (ky x).n := fun x => by
  by_cases e : x = b
  ·subst e; rw [dq]
  ·rw [cq _ _ e]
 have hB := HL.out.low.2.2 b hm;have ht : gD B w (w.setCell ⟨b, 1, none⟩ (.bool is)) := ((cf.refl od B w).node hB HN 1 (.bool is)).widen zI;have hoth : ∀ (c : Nat) (o : Obj), w.heap[c]? = some o -> ¬ od o -> (w.setCell ⟨b, 1, none⟩ (.bool is)).heap[c]? = some o := fun c o ho hn => ((cf.refl od B w).node hB HN 1 (.bool is)).keep ho hn
 refine ⟨by rw [uR HPI.out HI'.out]; rfl, ⟨E, bm, bs, dr ky b ⟨(ky b).n, is⟩, pv, nx, M, ⟨hoth _ _ HL.out.at_ (by show ¬ (123 = 120); decide), HL.out.lnk.s1 is hm, HL.out.seg, HL.out.one, HL.out.map.kept fun es c hb => hoth _ _ hb fun e => e, fun x hx => by rw [hkk]; exact HL.out.hit x hx, fun j x hj hx => by rw [hkk]; exact HL.out.who j x hj hx, HL.out.low, ?_, HL.out.rm⟩, by rw [hmap, hpin]⟩, ht⟩;rw [hmap, <- hpin];exact HL.out.ok.pin
theorem abF (w : World) (h : dE w B p room E bm bs ky pv nx M) (hw : (Lit.int .i64 k).wf = true) (hi : plc k (bs.map ky) < bs.length) :
  Calls prog 68 #[.pointer (some ⟨p, 0, none⟩), .int .i64 k] w fun e w' => e = .returned (.int .i64 (ou k (bs.map ky))) /\ PLF w' B p room (yp k (bs.map ky)) /\ gD B w w' := by
 obtain ⟨i, hpi⟩ : ∃ i, plc k (bs.map ky) = i := ⟨_, rfl⟩;rw [hpi] at hi;obtain ⟨b, hb⟩ : ∃ b, bs.getD i 0 = b := ⟨_, rfl⟩;have hbs : b ∈ bs := by rw [<- hb]; exact cO hi
 have hi' : i < (bs.map ky).length := by rw [List.length_map]; exact hi
 have HL := ae h;have HF := ae (h.find w hw hpi hi hb);have HI := ae hi;have HI' := ae hi';have HB := ae hb;have HBS := ae hbs;have HPI := ae hpi;clear h hi hb hbs hpi hw hi';go_enter func68, ntmps68;go_wp2_with fail;refine HF.out.mono ?_;rintro e w1 ⟨rfl, rfl⟩;go_wp2_with fail;refine (ru w HL HI HB).mono ?_;rintro e w3 ⟨rfl, ⟨pv', nx', M', h3⟩, ht3, _⟩;have H3 := ae h3;have HT3 := ae ht3;clear h3 ht3;go_wp2_with fail;go_ret;refine ⟨by rw [uR HPI.out HI'.out]; rfl, ⟨E, bm, _, ky, pv', nx', M', H3, ?_⟩, HT3⟩;unfold yp;rw [HPI.out, if_pos HI'.out, nD]
theorem xU (w : World) (h : dE w B p room E bm bs ky pv nx M) (hw : (Lit.int .i64 k).wf = true) (hi : ¬ plc k (bs.map ky) < bs.length) :
  Calls prog 62 #[.pointer (some ⟨p, 0, none⟩), .int .i64 k] w fun e w' => e = .returned (.bool (qW k (bs.map ky))) /\ w = w' := by
 have hr : qW k (bs.map ky) = false := by unfold qW; rw [List.length_map, am hi]; rfl
 have HF := ae (l6 w h hw (h.mh hw hi));rw [hr];clear h hi hw hr;go_enter func62, ntmps62;go_wp2_with fail;refine HF.out.mono ?_;rintro e w1 ⟨rfl, rfl⟩;go_wp2_with fail;go_ret;exact ⟨rfl, rfl⟩
theorem ut (w : World) (h : dE w B p room E bm bs ky pv nx M) (hw : (Lit.int .i64 k).wf = true) (hi : plc k (bs.map ky) < bs.length) :
  Calls prog 62 #[.pointer (some ⟨p, 0, none⟩), .int .i64 k] w fun e w' => e = .returned (.bool (qW k (bs.map ky))) /\ w = w' := by
 obtain ⟨i, hpi⟩ : ∃ i, plc k (bs.map ky) = i := ⟨_, rfl⟩;rw [hpi] at hi;obtain ⟨b, hb⟩ : ∃ b, bs.getD i 0 = b := ⟨_, rfl⟩;have hbs : b ∈ bs := by rw [<- hb]; exact cO hi
 have hi' : i < (bs.map ky).length := by rw [List.length_map]; exact hi
 have HL := ae h;have HF := ae (h.find w hw hpi hi hb);have HI := ae hi;have HI' := ae hi';have HB := ae hb;have HBS := ae hbs;have HPI := ae hpi;have HN := ae (h.lnk b (List.mem_cons_of_mem _ hbs));have hr : qW k (bs.map ky) = (ky b).pin := by unfold qW; rw [hpi, ao hi', getD_map ky bs 0 ky0 hi, hb]; rfl
 rw [hr];clear hr;clear h hi hb hbs hpi hw hi';go_enter func62, ntmps62;go_wp2_with fail;refine HF.out.mono ?_;rintro e w1 ⟨rfl, rfl⟩;go_upto_region 2 with fail;refine aJ 1 ?_;refine alM (aI true rfl alW evk rfl) ?_;refine runs 3 ?_;refine alT (ax rfl alW zx) ?_;refine alT (aE rfl alW (t6 (HN.out).c1)) ?_;refine aH 2 ?_;go_wp2_with fail;go_ret;exact ⟨rfl, rfl⟩
theorem y9 (w : World) (h : PLF w B p room L) (hw : (Lit.int .i64 k).wf = true) (is : Bool) : Calls prog 67 #[.pointer (some ⟨p, 0, none⟩), .int .i64 k, .bool is] w fun e w' => e = .returned (.int .i64 (ou k L)) /\ PLF w' B p room (nK k is L) /\ gD B w w' := by
 obtain ⟨E, bm, bs, ky, pv, nx, M, h, rfl⟩ := h;by_cases hi : plc k (bs.map ky) < bs.length
 ·exact acu w h hw is hi
 ·exact afD w h hw is hi
theorem tR (w : World) (h : PLF w B p room L) (hw : (Lit.int .i64 k).wf = true) : Calls prog 68 #[.pointer (some ⟨p, 0, none⟩), .int .i64 k] w fun e w' => e = .returned (.int .i64 (ou k L)) /\ PLF w' B p room (yp k L) /\ gD B w w' := by
 obtain ⟨E, bm, bs, ky, pv, nx, M, h, rfl⟩ := h;by_cases hi : plc k (bs.map ky) < bs.length
 ·exact abF w h hw hi
 ·exact aeA w h hw hi
theorem oT (w : World) (h : PLF w B p room L) (hw : (Lit.int .i64 k).wf = true) : Calls prog 62 #[.pointer (some ⟨p, 0, none⟩), .int .i64 k] w fun e w' => e = .returned (.bool (qW k L)) /\ w = w' := by
 obtain ⟨E, bm, bs, ky, pv, nx, M, h, rfl⟩ := h;by_cases hi : plc k (bs.map ky) < bs.length
 ·exact ut w h hw hi
 ·exact xU w h hw hi
theorem aeJ (w : World) (h : PLF w B p room L) : Calls prog 71 #[.pointer (some ⟨p, 0, none⟩)] w fun e w' => e = .returned (.int .i64 (room : Int)) /\ w = w' := by
 obtain ⟨E, bm, bs, ky, pv, nx, M, h, rfl⟩ := h;have HL := ae h;clear h;go_enter func71, ntmps71;go_wp2_with fail;refine (fV _ HL).mono ?_;rintro e w1 ⟨rfl, rfl⟩;have c0 := HL.out.c0;go_wp2_with fail;go_ret;exact ⟨rfl, rfl⟩
theorem ac5 (w : World) (h : PLF w B p room L) : Calls prog 64 #[.pointer (some ⟨p, 0, none⟩)] w fun e w' => ∃ v, e = .returned v /\ aQ bg w' w.heap.size v (fM L) /\ Below w.heap.size w w' := by
 obtain ⟨E, bm, bs, ky, pv, nx, M, h, rfl⟩ := h;have HL := ae h;have HE := ae (h.lnk E (by simp));have HNV : Hid (∀ i, i <= bs.length -> nx ((E :: bs).getD i 0) = (bs ++ [E]).getD i 0) := ae (af3 h.seg);have HEV : Hid (nx E = (bs ++ [E]).getD 0 0) := ae (HNV.out 0 (Nat.zero_le _));have hd := List.nodup_cons.1 h.one;have hone : (bs ++ [E]).Nodup := List.nodup_append.2 ⟨hd.2, by simp, fun x hx y hy e => by simp at hy; subst hy e; exact hd.1 hx⟩;have HPS : Hid (∀ i, i <= bs.length -> om ((bs ++ [E]).getD i 0) (bs ++ [E]) = i) := ae fun i hi => lA hone (by simp; omega)
 have HNO := ae hd.1;have HLE : Hid (bs.length <= 64) := ae (by have := h.ok.len; rw [List.length_map] at this; have := h.rm; omega);obtain ⟨j0, hj0, hz0⟩ := ahJ;have HJ := ae hj0;have HZ := ae hz0;have HLK := ae h.lnk;have HKY : Hid (∀ i, i < bs.length -> fM ((bs.take i).map ky) ++ [(ky (bs.getD i 0)).n] = fM ((bs.take (i + 1)).map ky)) := ae fun i hi => by
  have e0 : bs.getD i 0 = bs[i] := by simp [List.getD, hi]
  rw [List.take_succ_eq_append_getElem hi, e0];unfold fM;rw [List.map_append, List.map_append]
  rfl
 have HKL : Hid (∀ i, i <= bs.length -> (fM ((bs.take i).map ky)).length <= 64) := ae fun i hi => by have := HLE.out; unfold fM; simp; omega
 clear h hj0 hz0 hd hone;go_enter func64, ntmps64;go_wp2_with fail;refine (fV _ HL).mono ?_;rintro e w1 ⟨rfl, rfl⟩;go_upto_region 4 with fail;refine aJ 2 ?_;refine alM (ax rfl alW nW) ?_;refine alM (aE rfl alW (jP (HL.out).c1)) ?_;refine runs 1 ?_;refine alM (ax rfl alW m7) ?_;refine alM (aE rfl alW (jP (HE.out).c3)) ?_;refine aH 1 ?_;rw [HEV.out];go_wp2_with fail
 go_loopw [3, 4] (fun u v wr => ∃ i, i <= bs.length /\ v = .pointer (some ⟨(bs ++ [E]).getD i 0, 0, none⟩) /\ aQ bg wr w.heap.size u (fM ((bs.take i).map ky)) /\ Below w.heap.size w wr) (fun _ v _ => bs.length - om (ahI v) (bs ++ [E]))
 case atStart => exact ⟨0, Nat.zero_le _, rfl, by rw [List.take_zero]; exact aQ.nil _ _, ak⟩
 case round =>
  obtain ⟨i, hi, rfl, hm, hbl⟩ := hrel;have HM := ae hm;have HB := ae hbl;clear hm hbl;by_cases hlt : i < bs.length
  ·obtain ⟨b, hb⟩ : ∃ b, bs.getD i 0 = b := ⟨_, rfl⟩;have hbm : b ∈ bs := by rw [<- hb]; exact cO hlt
   have hga : (bs ++ [E]).getD i 0 = b := by rw [<- hb]; simp [List.getD, List.getElem?_append_left hlt]
   have HN := ae (HL.out.below HB).lnk;have HNB := ae (HN.out b (List.mem_cons_of_mem _ hbm));have HNE : Hid (b ≠ E) := ae fun e => HNO.out (by rw [<- e]; exact hbm)
   have HPB : Hid (nx b = (bs ++ [E]).getD (i + 1) 0) := ae (by
    have := HNV.out (i + 1) (by omega);rw [<- this, <- hb]
    rfl)
   have HGA := ae hga;have HBE := ae hb;have HLT := ae hlt;clear hb hbm hga hlt;rw [HGA.out];go_upto_region 5 with fail;refine aJ 3 ?_;refine alM (ax rfl alW nW) ?_;refine alM (aE rfl alW (jP ((HL.out.below HB)).c1)) ?_;refine alM (lB true underlying118 HJ.out HZ.out rfl (ev rfl) (ev rfl) HNB.out (HN.out E (by simp)) (by have := HNE.out; simp [this])) ?_;refine ah ?_;go_upto_region 7 with fail;refine aJ 3 ?_;refine alM (ax rfl alW ade) ?_;refine alM (aE rfl alW (bV (HNB.out).c0)) ?_;refine alM (da (E := bg) (a := (ky b).n) rfl alW rfl (by decide)) ?_;refine uZ bg rfl _ _ rfl w.heap.size (wr.heap.size + 1) 1 1 _ (fM ((bs.take i).map ky)) [(ky b).n] (some ⟨wr.heap.size, 0, none⟩) alW alW (HM.out.below ((Below.refl _ wr).alloc aj _)) (eB wr _ _ rfl) (by rw [World.size_alloc]; exact Nat.le_succ_of_le HB.out.size) (by have := HKL.out i hi; omega) ?_;intro v' w2 hm2 hg2;simp only [aa];refine aH 1 ?_;have hky := HKY.out i HLT;rw [HBE.out] at hky;rw [hky] at hm2;have HM2 := ae hm2;have HB2 : Hid (Below w.heap.size w w2) := ae ((HB.out.alloc HB.out.size _).grown hg2 (by have := HB.out.size; simp; omega) fun j hj => HM.out.ia j hj);have HN2 := ae ((HL.out.below HB2).lnk b (List.mem_cons_of_mem _ (by rw [<- HBE.out]; exact cO HLT)));clear hm2 hg2 hky;go_upto_region 6 with fail;refine aJ 2 ?_;refine alM (ax rfl alW m7) ?_;refine alM (aE rfl alW (jP (HN2.out).c3)) ?_;refine aH 1 ?_;rw [HPB.out];go_wp2_with fail;go_roundw
   case rel => exact ⟨i + 1, HLT, rfl, HM2, HB2⟩
   case measure =>
    show bs.length - om ((bs ++ [E]).getD (i + 1) 0) (bs ++ [E]) < bs.length - om b (bs ++ [E])
    have h1 := HPS.out (i + 1) HLT;have h2 := HPS.out i hi;rw [HGA.out] at h2;have := HLT.out;omega
  ·have hie : i = bs.length := by omega
   have HGA : Hid ((bs ++ [E]).getD i 0 = E) := ae (by rw [hie]; simp);have HN := ae ((HL.out.below HB).lnk E (by simp));have HTK : Hid (bs.take i = bs) := ae (by rw [hie, List.take_length]);clear hie hlt;rw [HGA.out];go_upto_region 5 with fail;refine aJ 3 ?_;refine alM (ax rfl alW nW) ?_;refine alM (aE rfl alW (jP ((HL.out.below HB)).c1)) ?_;refine alM (lB false underlying118 HJ.out HZ.out rfl (ev rfl) (ev rfl) HN.out HN.out (by simp)) ?_;refine ah ?_;have hm := HM.out;rw [HTK.out] at hm;have HM2 := ae hm;clear hm;go_wp2_with fail;go_ret;exact ⟨_, rfl, HM2, HB⟩
end
theorem afN (room : Nat) (w : World) (h1 : 1 <= room) (h2 : room <= 64) : Calls prog 26 #[.int .i64 (room : Int)] w fun e w' => ∃ p, e = .returned (.tuple #[.pointer (some ⟨p, 0, none⟩), .int .i64 0]) /\ PLF w' (fun b => w.heap.size <= b) p room [] /\ Below w.heap.size w w' := by
 have hmm := @run_makeMap prog;have hd : decide ((room : Int) < 1) = false := am (by omega);have hd2 : decide (64 < (room : Int)) = false := am (by omega);go_enter func26, ntmps26;go_wp2_with fail;go_ret2;have b1 : Below w.heap.size w (w.alloc (.cells (qY ky0 (ptB w.heap.size) (ptB w.heap.size)).toArray 120)) := ak.alloc aj _;have hb : Below w.heap.size w (((w.alloc (.cells (qY ky0 (ptB w.heap.size) (ptB w.heap.size)).toArray 120)).alloc (.map #[] 0)).alloc (.cells #[.int .i64 (room : Int), ptB w.heap.size, .map (some (w.heap.size + 1))] 123)) :=
  (b1.alloc (by simp) _).alloc (by simp; omega) _
 refine ⟨_, rfl, ⟨w.heap.size, w.heap.size + 1, [], fun _ => ky0, fun _ => w.heap.size, fun _ => w.heap.size, fun _ => none, ⟨?_, fun b hb => ?_, ⟨rfl, rfl⟩, by simp, ?_, by simp, (fun k b _ e => by cases e), ⟨by omega, by omega, fun b hb => by simp at hb; omega⟩, LOk.nil, ⟨h1, h2⟩⟩, rfl⟩, hb⟩
 ·have := heap_alloc_new ((w.alloc (.cells (qY ky0 (ptB w.heap.size) (ptB w.heap.size)).toArray 120)).alloc (.map #[] 0)) (.cells #[.int .i64 (room : Int), ptB w.heap.size, .map (some (w.heap.size + 1))] 123);rw [World.size_alloc, World.size_alloc] at this;exact this
 ·simp at hb;subst hb;exact bJ (bJ (heap_alloc_new w _) _) _
 ·have := dU.made (w.alloc (.cells (qY ky0 (ptB w.heap.size) (ptB w.heap.size)).toArray 120));rw [World.size_alloc] at this;exact this.kept fun es c hb => bJ hb _
open Go.RowKit Go.ChangeShapes Go.WideShapes Go.ChangeAt Go.Deep
structure alG where
 Do : Int
 Mem : Int
 B : Blk
 Seq : Nat
structure LnI where
 P : World -> Nat -> Nat -> LnS -> Prop
 I : Obj -> Prop
 keep : ∀ {w w' : World} {B p : Nat} {s : LnS}, P w B p s -> (∀ (b : Nat) (o : Obj), w.heap[b]? = some o -> I o -> w'.heap[b]? = some o) -> P w' B p s
 ok : ∀ {w : World} {B p : Nat} {s : LnS}, P w B p s -> dQ s /\ B <= p /\ p < w.heap.size
 rn : ∀ o, alf o -> ¬ I o
 new_ok : ∀ (N : Nat) (w : World), 1 <= N -> N <= 16 -> Calls prog 113 #[.int .i64 (N : Int)] w fun e w' => ∃ p, e = .returned (.tuple #[.pointer (some ⟨p, 0, none⟩), .int .i64 0]) /\ P w' w.heap.size p (dC N) /\ Below w.heap.size w w'
 new_no : ∀ (n : Int) (w : World), ¬ (1 <= n /\ n <= 16) -> Calls prog 113 #[.int .i64 n] w fun e w' => e = .returned (.tuple #[.pointer none, .int .i64 2]) /\ Below w.heap.size w w'
 learn_ : ∀ (w : World) (m : Int) (b : Blk) {B p : Nat} {s : LnS}, P w B p s -> Calls prog 61 #[.pointer (some ⟨p, 0, none⟩), .int .i64 m, blk b] w fun e w' => e = .returned (.int .i64 (lnE s m)) /\ P w' B p (fA s m b) /\ af7 I B w w'
 set_ : ∀ (w : World) (m : Int) (b : Blk) (Q : Nat) {B p : Nat} {s : LnS}, P w B p s -> Q < 18446744073709551616 -> Calls prog 105 #[.pointer (some ⟨p, 0, none⟩), .int .i64 m, blk b, .int .u64 (Q : Int)] w fun e w' => e = .returned (.int .i64 (q7 s m Q)) /\ P w' B p (eG s m b Q) /\ af7 I B w w'
 forget_ : ∀ (w : World) (m : Int) {B p : Nat} {s : LnS}, P w B p s -> Calls prog 107 #[.pointer (some ⟨p, 0, none⟩), .int .i64 m] w fun e w' => e = .returned (.int .i64 (lnE s m)) /\ P w' B p (gw s m) /\ af7 I B w w'
 clean_ : ∀ (w : World)  {B p : Nat} {s : LnS}, P w B p s -> Calls prog 66 #[.pointer (some ⟨p, 0, none⟩)] w fun e w' => e = .returned (.int .i64 0) /\ P w' B p (gM s) /\ af7 I B w w'
 get_ : ∀ (w : World) (m : Int) {B p : Nat} {s : LnS}, P w B p s -> Calls prog 58 #[.pointer (some ⟨p, 0, none⟩), .int .i64 m] w fun e w' => e = .returned (.tuple #[blk (lnG s m).b, .bool (lnG s m).kn]) /\ Below w.heap.size w w'
 dirty_ : ∀ (w : World)  {B p : Nat} {s : LnS}, P w B p s -> Calls prog 69 #[.pointer (some ⟨p, 0, none⟩)] w fun e w' => ∃ v, e = .returned v /\ aQ bg w' w.heap.size v (lnD s) /\ Below w.heap.size w w'
 first_ : ∀ (w : World)  {B p : Nat} {s : LnS}, P w B p s -> Calls prog 70 #[.pointer (some ⟨p, 0, none⟩)] w fun e w' => e = .returned (.int .u64 (s.f : Int)) /\ Below w.heap.size w w'
 members_ : ∀ (w : World)  {B p : Nat} {s : LnS}, P w B p s -> Calls prog 125 #[.pointer (some ⟨p, 0, none⟩)] w fun e w' => e = .returned (.int .i64 (s.l.length : Int)) /\ Below w.heap.size w w'
 No : World -> Value -> Prop
 zc : List Value
 no_nil : ∀ w : World, No w (.pointer none)
 bld0 : ∀ w : World, (Instr.build 165 #[]).run prog w = .ok (.agg zc.toArray) w
 no_zero : ∀ w : World, No (w.alloc (.cells zc.toArray 165)) (.pointer (some ⟨w.heap.size, 0, none⟩))
 no_below : ∀ {w w' : World} {v : Value}, No w v -> Below w.heap.size w w' -> No w' v
 no_learn : ∀ (w : World) (v : Value) (m : Int) (b : Blk), No w v -> Calls prog 61 #[v, .int .i64 m, blk b] w fun e w' => e = .returned (.int .i64 1) /\ Below w.heap.size w w'
 no_set : ∀ (w : World) (v : Value) (m : Int) (b : Blk) (Q : Nat), No w v -> Calls prog 105 #[v, .int .i64 m, blk b, .int .u64 (Q : Int)] w fun e w' => e = .returned (.int .i64 1) /\ Below w.heap.size w w'
 no_forget : ∀ (w : World) (v : Value) (m : Int), No w v -> Calls prog 107 #[v, .int .i64 m] w fun e w' => e = .returned (.int .i64 1) /\ Below w.heap.size w w'
 no_clean : ∀ (w : World) (v : Value) , No w v -> Calls prog 66 #[v] w fun e w' => e = .returned (.int .i64 1) /\ Below w.heap.size w w'
 no_get : ∀ (w : World) (v : Value) (m : Int), No w v -> Calls prog 58 #[v, .int .i64 m] w fun e w' => e = .returned (.tuple #[blk aF, .bool false]) /\ Below w.heap.size w w'
 no_dirty : ∀ (w : World) (v : Value) , No w v -> Calls prog 69 #[v] w fun e w' => e = .returned (.slice none 0 0) /\ Below w.heap.size w w'
 no_first : ∀ (w : World) (v : Value) , No w v -> Calls prog 70 #[v] w fun e w' => e = .returned (.int .u64 0) /\ Below w.heap.size w w'
 no_members : ∀ (w : World) (v : Value) , No w v -> Calls prog 125 #[v] w fun e w' => e = .returned (.int .i64 0) /\ Below w.heap.size w w'
structure LnF where
 n : Int
 kn : Nat -> Bool
 dt : Nat -> Bool
 bl : Nat -> Blk
 f : Int
def f9 (x : LnF) (i : Nat) : Value :=
 if i = 0 then .int .i64 x.n
 else if i < 17 then .bool (x.kn (i - 1))
 else if i < 33 then .bool (x.dt (i - 17))
 else if i < 1057 then .int .u8 (byt (x.bl ((i - 33) / 64)) ((i - 33) % 64))
 else .int .u64 x.f
def iJ (x : LnF) : List Value := (List.range 1058).map (f9 x)
theorem iE (x : LnF) : (iJ x).length = 1058 := by simp [iJ]
theorem jN (x : LnF) {i : Nat} (h : i < 1058) : (iJ x)[i]? = some (f9 x i) := by
 simp only [iJ, List.getElem?_map, List.getElem?_range h, Option.map_some]
section
variable {x y : LnF} {k j : Nat}
theorem aeZ (hk : k < 16) : f9 x (1 + k) = .bool (x.kn k) := by
 unfold f9;rw [if_neg (by omega), if_pos (by omega), show 1 + k - 1 = k from by omega]
theorem xp (hk : k < 16) : f9 x (17 + k) = .bool (x.dt k) := by
 unfold f9;rw [if_neg (by omega), if_neg (by omega), if_pos (by omega), show 17 + k - 17 = k from by omega]
theorem acq (hk : k < 16) (hj : j < 64) : f9 x (33 + k * 64 + j) = .int .u8 (byt (x.bl k) j) := by
 unfold f9;rw [if_neg (by omega), if_neg (by omega), if_neg (by omega), if_pos (by omega), show (33 + k * 64 + j - 33) / 64 = k from by omega, show (33 + k * 64 + j - 33) % 64 = j from by omega]
def ahO (o m : Nat) (x y : LnF) : Prop := ∀ i, i < 1058 -> ¬ (o <= i /\ i < o + m) -> f9 x i = f9 y i
theorem aeg {o : Nat} {vs : List Value} (h : ∀ j, j < vs.length -> vs[j]? = some (f9 y (o + j))) (h2 : ahO o vs.length x y) (hm : o + vs.length <= 1058) : (iJ x).take o ++ vs ++ (iJ x).drop (o + vs.length) = iJ y := by
 have hl : ((iJ x).take o).length = o := by rw [List.length_take, iE]; omega
 refine List.ext_getElem? fun i => ?_
 by_cases hi : i < 1058
 ·rw [jN y hi, List.append_assoc];by_cases h1 : i < o
  ·rw [List.getElem?_append_left (by omega), List.getElem?_take_of_lt h1, jN x hi, h2 i hi (by omega)]
  ·rw [List.getElem?_append_right (by omega), hl];by_cases h3 : i < o + vs.length
   ·rw [List.getElem?_append_left (by omega), h (i - o) (by omega), show o + (i - o) = i from by omega]
   ·rw [List.getElem?_append_right (by omega), List.getElem?_drop, show o + vs.length + (i - o - vs.length) = i from by omega, jN x hi, h2 i hi (by omega)]
 ·rw [List.getElem?_eq_none (by simp only [List.length_append, hl, List.length_drop, iE]; omega), List.getElem?_eq_none (by rw [iE]; omega)]
end
def LnA (w : World) (p : Nat) (x : LnF) : Prop := w.heap[p]? = some (.cells (iJ x).toArray 165 (0, 0))
section
variable {w w' : World} {p o k : Nat} {x y : LnF} {vs : List Value}
theorem LnA.put (h : LnA w p x) (hv : ∀ j, j < vs.length -> vs[j]? = some (f9 y (o + j))) (h2 : ahO o vs.length x y) (hm : o + vs.length <= 1058) : LnA (w.setCells p o vs) p y := by
 have hs : iJ x = (iJ x).take o ++ ((iJ x).drop o).take vs.length ++ (iJ x).drop (o + vs.length) := by
  rw [List.append_assoc, <- List.drop_drop, List.take_append_drop, List.take_append_drop]
 have h' := h;unfold LnA at h';rw [hs] at h';have := heap_put p 165 _ vs _ _ w (by rw [List.length_take, List.length_drop, iE]; omega) h';rw [aeg hv h2 hm, List.length_take, iE, Nat.min_eq_left (by omega)] at this;exact this
theorem LnA.lt (h : LnA w p x) : p < w.heap.size := aS h
theorem LnA.fz (h : LnA w p x) (j : Nat) : w.frozen? ⟨p, j, none⟩ = false := frozen_of_row w p j _ _ h
theorem LnA.at_ (h : LnA w p x) {i : Nat} (hi : i < 1058) : w.cell? ⟨p, i, none⟩ = some (f9 x i) := by
 have := (aP h) i _ (jN x hi);rwa [Nat.zero_add] at this
theorem LnA.there (h : LnA w p x) {o m : Nat} (hm : o + m <= 1058) : w.there p o m := fun i hi => ⟨by rw [h.at_ (by omega)]; rfl, h.fz _⟩
theorem LnA.cN (h : LnA w p x) : w.cell? ⟨p, 0, none⟩ = some (.int .i64 x.n) := h.at_ (i := 0) (by omega)
theorem LnA.cK (h : LnA w p x) (hk : k < 16) : w.cell? ⟨p, 1 + k, none⟩ = some (.bool (x.kn k)) := by rw [h.at_ (by omega), aeZ hk]
theorem LnA.cD (h : LnA w p x) (hk : k < 16) : w.cell? ⟨p, 17 + k, none⟩ = some (.bool (x.dt k)) := by rw [h.at_ (by omega), xp hk]
theorem LnA.cF (h : LnA w p x) : w.cell? ⟨p, 1057, none⟩ = some (.int .u64 x.f) := h.at_ (i := 1057) (by omega)
theorem LnA.cB (h : LnA w p x) (hk : k < 16) : w.rangeAt p (33 + k * 64) (cel (x.bl k)) := fun j v hj => by
 have hl : j < 64 := by
  have := (List.getElem?_eq_some_iff.1 hj).1;rwa [aK] at this
 rw [iG _ hl] at hj;injection hj with hj;subst hj;rw [h.at_ (by omega), acq hk hl]
def fZ {α : Type} (g : Nat -> α) (k : Nat) (a : α) : Nat -> α := fun j => if j = k then a else g j
theorem LnA.sK (h : LnA w p x) (hk : k < 16) (c : Bool) : LnA (w.setCell ⟨p, 1 + k, none⟩ (.bool c)) p { x with kn := fZ x.kn k c } := by
 refine LnA.put (vs := [.bool c]) (o := 1 + k) h (fun j hj => ?_) (fun i hi hn => ?_) (by simp; omega)
 ·have : j = 0 := by simpa using hj
  subst this;rw [Nat.add_zero, aeZ hk]; simp [fZ]
 ·simp at hn;unfold f9
  split
  ·rfl
  ·split
   ·simp only [fZ]; rw [if_neg (by omega)]
   ·rfl
theorem LnA.sD (h : LnA w p x) (hk : k < 16) (c : Bool) : LnA (w.setCell ⟨p, 17 + k, none⟩ (.bool c)) p { x with dt := fZ x.dt k c } := by
 refine LnA.put (vs := [.bool c]) (o := 17 + k) h (fun j hj => ?_) (fun i hi hn => ?_) (by simp; omega)
 ·have : j = 0 := by simpa using hj
  subst this;rw [Nat.add_zero, xp hk]; simp [fZ]
 ·simp at hn;unfold f9
  split
  ·rfl
  ·split
   ·rfl
   ·split
    ·simp only [fZ]; rw [if_neg (by omega)]
    ·rfl
theorem LnA.sB (h : LnA w p x) (hk : k < 16) (b : Blk) : LnA (w.setCells p (33 + k * 64) (cel b)) p { x with bl := fZ x.bl k b } := by
 refine LnA.put h (fun j hj => ?_) (fun i hi hn => ?_) (by rw [aK]; omega)
 ·rw [aK] at hj;rw [acq hk hj, iG _ hj]; simp [fZ]
 ·rw [aK] at hn;unfold f9
  split
  ·rfl
  ·split
   ·rfl
   ·split
    ·rfl
    ·split
     ·simp only [fZ]; rw [if_neg (by omega)]
     ·rfl
theorem LnA.sF (h : LnA w p x) (q : Int) : LnA (w.setCell ⟨p, 1057, none⟩ (.int .u64 q)) p { x with f := q } := by
 refine LnA.put (vs := [.int .u64 q]) (o := 1057) h (fun j hj => ?_) (fun i hi hn => ?_) (by simp)
 ·have : j = 0 := by simpa using hj
  subst this
  rfl
 ·simp at hn;unfold f9
  split
  ·rfl
  ·split
   ·rfl
   ·split
    ·rfl
    ·rw [if_pos (by omega), if_pos (by omega)]
def q8 : List Value := List.replicate 16 (.bool false)
theorem LnA.sD0 (h : LnA w p x) : LnA (w.setCells p 17 q8) p { x with dt := fun _ => false } := by
 refine LnA.put h (fun j hj => ?_) (fun i hi hn => ?_) (by simp [q8])
 ·have hj' : j < 16 := by simpa [q8] using hj
  rw [xp hj'];exact List.getElem?_replicate_of_lt hj'
 ·simp [q8] at hn;unfold f9
  split
  ·rfl
  ·split
   ·rfl
   ·split
    ·omega
    ·rfl
end
def lf (s : LnS) : LnF := ⟨(s.l.length : Int), fun k => (dj s k).kn, fun k => (dj s k).dt, fun k => (dj s k).b, (s.f : Int)⟩
def lf0 (n : Int) : LnF := ⟨n, fun _ => false, fun _ => false, fun _ => aF, 0⟩
theorem aeH {s : LnS} {k : Nat} (hk : k < s.l.length) (a : LC) (f : Nat) (j : Nat) : dj ⟨s.l.set k a, f⟩ j = if j = k then a else dj s j := fv _ _ _ _ _ hk
theorem yv {s : LnS} {k : Nat} (hk : k < s.l.length) (a : LC) (f : Nat) : lf ⟨s.l.set k a, f⟩ = ⟨(s.l.length : Int), fZ (lf s).kn k a.kn, fZ (lf s).dt k a.dt, fZ (lf s).bl k a.b, (f : Int)⟩ := by
 unfold lf;simp only [LnF.mk.injEq, List.length_set, true_and, and_true];refine ⟨funext fun j => ?_, funext fun j => ?_, funext fun j => ?_⟩ <;> (rw [aeH hk]; simp only [fZ]; split <;> rfl)
theorem ajl (s : LnS) : lf (gM s) = { lf s with dt := fun _ => false, f := 0 } := by
 unfold lf;simp only [LnF.mk.injEq, zz, true_and];refine ⟨funext fun j => ?_, funext fun j => ?_, funext fun j => ?_, rfl⟩ <;> rw [yE] <;> rfl
theorem aix (n : Nat) : lf (dC n) = lf0 (n : Int) := by
 have h : ∀ j, dj (dC n) j = lc0 := fun j => by
  simp only [dj, dC, List.getD, List.getElem?_replicate]
  split <;> rfl
 unfold lf lf0;simp only [LnF.mk.injEq];refine ⟨by simp [dC], funext fun j => by rw [h]; rfl, funext fun j => by rw [h]; rfl, funext fun j => by rw [h]; rfl, rfl⟩
theorem aaD {α : Type} {g : Nat -> α} {k : Nat} {a : α} (h : g k = a) : fZ g k a = g := funext fun j => by
 unfold fZ
 split
 ·rename_i e; subst e; exact h.symm
 ·rfl
theorem ajI : (prog.info? 165).map (fun i => i.zero) = some (some (.agg (iJ (lf0 0)).toArray)) := by kernel_rfl
theorem aap : (prog.info? 162).map (·.size) = some 16 := by kernel_rfl
section
variable {ρ : Operand -> Value} {o : Oper} {x y z : Operand} {w : World} {b off p j : Nat} {c : Blk}
theorem aei : (Instr.fieldAt 165 (.pointer (some ⟨b, 0, none⟩)) 0).run prog w = .ok (.pointer (some ⟨b, 0, none⟩)) w := by kernel_rfl
theorem pN : (Instr.fieldAt 165 (.pointer (some ⟨b, 0, none⟩)) 1).run prog w = .ok (.pointer (some ⟨b, 1, none⟩)) w := by kernel_rfl
theorem qI : (Instr.fieldAt 165 (.pointer (some ⟨b, 0, none⟩)) 2).run prog w = .ok (.pointer (some ⟨b, 17, none⟩)) w := by kernel_rfl
theorem yi : (Instr.fieldAt 165 (.pointer (some ⟨b, 0, none⟩)) 3).run prog w = .ok (.pointer (some ⟨b, 33, none⟩)) w := by kernel_rfl
theorem ni : (Instr.fieldAt 165 (.pointer (some ⟨b, 0, none⟩)) 4).run prog w = .ok (.pointer (some ⟨b, 1057, none⟩)) w := by kernel_rfl
theorem sR (hj : j < 16) : (Instr.indexAt 162 (.pointer (some ⟨b, off, none⟩)) (.int .i64 (j : Int))).run prog w = .ok (.pointer (some ⟨b, off + j, none⟩)) w := by
 have e : (0 <= (j : Int) /\ (j : Int) < 16) := by omega
 simp [Instr.indexAt, Instr.sureAddr, asIntOf, run_underlying underlying162, Tryz.sizeOf4, Addr.add_mid, e, hj]
theorem aiy (hj : j < 16) : (Instr.indexAt 163 (.pointer (some ⟨b, off, none⟩)) (.int .i64 (j : Int))).run prog w = .ok (.pointer (some ⟨b, off + j * 64, none⟩)) w := by
 have e : (0 <= (j : Int) /\ (j : Int) < 16) := by omega
 simp [Instr.indexAt, Instr.sureAddr, asIntOf, run_underlying underlying163, Tryz.sizeOf45, Addr.add_mid, e, hj]
theorem yN {ad : Addr} {u : Value} {n : Int} (h : w.cell? ad = some u) (hf : w.frozen? ad = false) : (Instr.storeAt 46 (.pointer (some ad)) (.int .u64 n)).run prog w = .ok () (w.setCell ad (.int .u64 n)) := by simp [go_sem, h, hf]
theorem rL (n : Int) : iJ (lf0 n) = .int .i64 n :: (iJ (lf0 0)).tail := by
 refine List.ext_getElem? fun i => ?_
 cases i with
 |zero => rw [jN _ (by omega)]; rfl
 |succ i =>
  rw [List.getElem?_cons_succ, List.getElem?_tail];by_cases hi : i + 1 < 1058
  ·rw [jN _ hi, jN _ hi]; unfold f9; rw [if_neg (show ¬ i + 1 = 0 by omega)]; rfl
  ·rw [List.getElem?_eq_none (by rw [iE]; omega), List.getElem?_eq_none (by rw [iE]; omega)]
theorem yD (n : Int) : (Instr.build 165 #[(0, .int .i64 n)]).run prog w = .ok (.agg (iJ (lf0 n)).toArray) w := by
 have hz := gB ajI w;have h1 := dm (place := fun i => (#[(0, 1), (1, 16), (17, 16), (33, 1024), (1057, 1)] : Array (Nat × Nat))[i]?) (i := 0) (off := 0) (size := 1) (v := .int .i64 n) (pre := []) (mid := [.int .i64 0]) (post := (iJ (lf0 0)).tail) (vs := [.int .i64 n]) (rest := []) rfl rfl rfl rfl rfl;simp only [List.nil_append, List.append_nil, List.cons_append] at h1;rw [<- rL n, <- rL 0] at h1;have hc : (Value.agg (iJ (lf0 0)).toArray).cells = (iJ (lf0 0)).toArray := rfl;simp only [Instr.build, Sem.run_bind, hz, run_underlying underlying165, Result.andThen_ok, hc];refine Eq.trans (congrArg (fun r => Result.andThen r _) (?h : _ = Result.ok #[(0, 1), (1, 16), (17, 16), (33, 1024), (1057, 1)] w)) ?_
 case h => kernel_rfl
 simp only [Result.andThen_ok];have h4 : Instr.fill (fun i => (#[(0, 1), (1, 16), (17, 16), (33, 1024), (1057, 1)] : Array (Nat × Nat))[i]?) (iJ (lf0 n)).toArray [] = some (iJ (lf0 n)).toArray := by rw [Instr.fill]
 rw [h1.trans h4]
 rfl
theorem acT : (Instr.build 162 #[]).run prog w = .ok (.agg q8.toArray) w := by kernel_rfl
theorem ye (ho : o.op = .store 162 x y) (hx : ρ x = .pointer (some ⟨b, off, none⟩)) (hy : ρ y = .agg q8.toArray) (ht : w.there b off 16) : (execOp ρ o).run prog w = .ok .skip (w.setCells b off q8) :=
 ix aap (fun v hv => by simp [q8] at hv; subst hv; rfl) ho hx hy ht
end
def mB : Obj -> Prop
 |.cells _ t _ => t = 165
 |_ => False
section
variable {w w' : World} {p B : Nat} {x : LnF} {s : LnS}
theorem LnA.below (h : LnA w p x) (hb : Below w.heap.size w w') : LnA w' p x := aC h hb
theorem LnA.drew (h : LnA w p x) : LnA w.drew p x := h
end
theorem jX (w : World) {p : Nat} {x : LnF} (h : LnA w p x) : Calls prog 125 #[.pointer (some ⟨p, 0, none⟩)] w fun e w' => e = .returned (.int .i64 x.n) /\ w = w' := by
 have HL := ae h;clear h;go_enter func125, ntmps125;go_upto_region 1 with fail;refine aJ 1 ?_;refine alM (cR false underlying109 rfl alW evk rfl) ?_;refine ah ?_;go_upto_region 3 with fail;refine aJ 2 ?_;refine alM (ax rfl alW aei) ?_;refine alM (aE rfl alW (bV HL.out.cN)) ?_;refine aH 1 ?_;go_wp2_with fail;go_ret;exact ⟨rfl, rfl⟩
theorem t7 (w : World) : Calls prog 125 #[.pointer none] w fun e w' => e = .returned (.int .i64 0) /\ w = w' := by
 go_enter func125, ntmps125;go_upto_region 1 with fail;refine aJ 1 ?_;refine alM (cR true underlying109 rfl alW evk rfl) ?_;refine ah ?_;go_wp2_with fail;go_ret;exact ⟨rfl, rfl⟩
def NoL (w : World) (v : Value) : Prop := v = .pointer none \/ ∃ p, v = .pointer (some ⟨p, 0, none⟩) /\ LnA w p (lf0 0)
theorem NoL.below {w w' : World} {v : Value} (h : NoL w v) (hb : Below w.heap.size w w') : NoL w' v := by
 rcases h with h | ⟨p, h, h1⟩
 ·exact .inl h
 ·exact .inr ⟨p, h, h1.below hb⟩
theorem lS (w : World) {v : Value} (h : NoL w v) : Calls prog 125 #[v] w fun e w' => e = .returned (.int .i64 0) /\ w = w' := by
 rcases h with rfl | ⟨p, rfl, h⟩
 ·exact t7 w
 ·exact jX w h
theorem sA (w : World) {v : Value} {n : Int} (t : Bool) (h : Calls prog 125 #[v] w fun e w' => e = .returned (.int .i64 n) /\ w = w') (ht : decide (0 < n) = t) : Calls prog 123 #[v] w fun e w' => e = .returned (.bool t) /\ w = w' := by
 have HC := ae h;have HT := ae ht;clear h ht;go_enter func123, ntmps123;go_upto_region 1 with fail;refine aJ 1 ?_;refine ay rfl (aB call125 rfl (evc alW evn)) ?_;refine (HC.out).mono ?_;rintro e w' ⟨rfl, rfl⟩;refine aR ?_;refine alM (ey t rfl alW evk HT) ?_;refine aH 1 ?_;go_wp2_with fail;go_ret;exact ⟨rfl, rfl⟩
theorem abS (w : World) (v : Value) (m : Int) (h : NoL w v) : Calls prog 111 #[v, .int .i64 m] w fun e w' => e = .returned (.int .i64 1) /\ w = w' := by
 have HC := ae (sA w false (lS w h) (by decide));clear h;go_enter func111, ntmps111;go_upto_region 1 with fail;refine aJ 1 ?_;refine ay rfl (aB call123 rfl (evc alW evn)) ?_;refine (HC.out).mono ?_;rintro e w' ⟨rfl, rfl⟩;refine aR ?_;refine aH 2 ?_;go_wp2_with fail;go_ret;exact ⟨rfl, rfl⟩
theorem ajG (w : World) (m : Int) {p : Nat} {s : LnS} (h : LnA w p (lf s)) (hs : dQ s) : Calls prog 111 #[.pointer (some ⟨p, 0, none⟩), .int .i64 m] w fun e w' => e = .returned (.int .i64 (lnE s m)) /\ w = w' := by
 have HC := ae (sA w true (jX w h) (ao (by have := hs.lo; show (0 : Int) < (s.l.length : Int); omega)));have HL := ae h;clear h hs;go_enter func111, ntmps111;go_upto_region 1 with fail;refine aJ 1 ?_;refine ay rfl (aB call123 rfl (evc alW evn)) ?_;refine (HC.out).mono ?_;rintro e w' ⟨rfl, rfl⟩;refine aR ?_;refine aH 2 ?_;go_upto_region 3 with fail;refine aJ 1 ?_;by_cases h0 : m < 0
 ·have H0 : Hid (decide (m < 0) = true) := ae (ao h0);have HE : Hid (lnE s m = 2) := ae (nJ (by unfold lnR; rw [am (by omega)]; rfl));clear h0;refine alM (aY true rfl alW evk H0) ?_;refine bq 6 rfl (aL rfl alW) (by kernel_rfl) ?_;simp only [bX, ac, aa];refine aH 2 ?_;go_wp2_with fail;go_ret;exact ⟨by rw [HE.out]; rfl, rfl⟩
 have H0 : Hid (decide (m < 0) = false) := ae (am h0);refine alM (aY false rfl alW evk H0) ?_;refine runs 3 ?_;refine runs 1 ?_;refine alT (ax rfl alW aei) ?_;refine alT (aE rfl alW (bV HL.out.cN)) ?_;by_cases h1 : (s.l.length : Int) <= m
 ·have H1 : Hid (decide ((s.l.length : Int) <= m) = true) := ae (ao h1);have HE : Hid (lnE s m = 2) := ae (nJ (by unfold lnR; rw [am (p := m < (s.l.length : Int)) (by omega), Bool.and_false]));clear h0 h1;refine alT (dM true rfl alW alW H1) ?_;refine aH 2 ?_;go_wp2_with fail;go_ret;exact ⟨by rw [HE.out]; rfl, rfl⟩
 have H1 : Hid (decide ((s.l.length : Int) <= m) = false) := ae (am h1);have HE : Hid (lnE s m = 0) := ae (by unfold lnE lnR; rw [ao (p := 0 <= m) (by omega), ao (p := m < (s.l.length : Int)) (by omega)]; rfl);clear h0 h1;refine alT (dM false rfl alW alW H1) ?_;refine aH 2 ?_;go_wp2_with fail;go_ret;exact ⟨by rw [HE.out]; rfl, rfl⟩
theorem gT (w : World) {m e : Int} {p : Nat} {s : LnS} (h : LnA w p (lf s)) (hs : dQ s) (he : lnE s m = e) : Calls prog 111 #[.pointer (some ⟨p, 0, none⟩), .int .i64 m] w fun a w' => a = .returned (.int .i64 e) /\ w = w' := by
 subst he; exact ajG w m h hs
theorem zj (N : Nat) (w : World) (h1 : 1 <= N) (h2 : N <= 16) : Calls prog 113 #[.int .i64 (N : Int)] w fun e w' => ∃ p, e = .returned (.tuple #[.pointer (some ⟨p, 0, none⟩), .int .i64 0]) /\ (LnA w' p (lf (dC N)) /\ w.heap.size <= p) /\ Below w.heap.size w w' := by
 have H0 : Hid (decide ((N : Int) < 1) = false) := ae (am (by omega));have H1 : Hid (decide ((16 : Int) < (N : Int)) = false) := ae (am (by omega));clear h1 h2;go_enter func113, ntmps113;go_upto_region 1 with fail;refine aJ 1 ?_;refine alM (aY false rfl alW evk H0) ?_;refine runs 2 ?_;refine alT (ey false rfl alW evk H1) ?_;refine aH 1 ?_;go_upto_region 3 with fail;refine aJ 1 ?_;refine alM (sd rfl alW (yD _)) ?_;refine alM (ct (cs := iJ (lf0 (N : Int))) rfl alW) ?_;refine aH 2 ?_;go_wp2_with fail;go_ret2;refine ⟨_, rfl, ⟨?_, aj⟩, ak.alloc aj _⟩;rw [aix];exact heap_alloc_new w _
def PLn (w : World) (B p : Nat) (s : LnS) : Prop := LnA w p (lf s) /\ B <= p /\ dQ s
theorem ahY {s : LnS} {k : Nat} (b : Blk) (hs : dQ s) (hk : k < s.l.length) (hn : (dj s k).kn = false) : lf (fA s (k : Int) b) = { lf s with kn := fZ (lf s).kn k true, bl := fZ (lf s).bl k b } := by
 have hd : (lf s).dt k = false := by show (dj s k).dt = false; rw [hs.no k hk hn]; rfl
 rw [nt hk hn, yv hk];exact congrArg (fun d => (⟨(s.l.length : Int), fZ (lf s).kn k true, d, fZ (lf s).bl k b, (s.f : Int)⟩ : LnF)) (aaD hd)
theorem yn {s : LnS} {k Q : Nat} (b : Blk) (hk : k < s.l.length) (hq : Q ≠ 0) : lf (eG s (k : Int) b Q) = { lf s with kn := fZ (lf s).kn k true, bl := fZ (lf s).bl k b, dt := fZ (lf s).dt k true, f := (oe s.f Q : Nat) } := by
 rw [na hk hq, yv hk]; rfl
theorem aiA {s : LnS} {k : Nat} (hk : k < s.l.length) : lf (gw s (k : Int)) = { lf s with kn := fZ (lf s).kn k false, dt := fZ (lf s).dt k false, bl := fZ (lf s).bl k aF } := by
 rw [vH hk, yv hk]; rfl
theorem aid (w : World) (m : Int) {B p : Nat} {s : LnS} (h : PLn w B p s) : Calls prog 58 #[.pointer (some ⟨p, 0, none⟩), .int .i64 m] w fun e w' => e = .returned (.tuple #[blk (lnG s m).b, .bool (lnG s m).kn]) /\ Below w.heap.size w w' := by
 obtain ⟨h, hB, hs⟩ := h;have HB1 : Hid (Below w.heap.size w (w.alloc (.cells (cel aF).toArray 45))) := ae (ak.alloc aj _);have HL : Hid (LnA (w.alloc (.cells (cel aF).toArray 45)) p (lf s)) := ae (h.below HB1);have HT := ae (eu w aF 45);have HNE : Hid (p ≠ w.heap.size) := ae (by have := h.lt; omega);have HS := ae hs;clear h hB hs;go_enter func58, ntmps58;go_upto_region 0 with fail;refine af ?_;refine alM (aX rfl) ?_;refine aH 1 ?_;generalize w.alloc (.cells (cel aF).toArray 45) = w1 at *;cases hr : lnR s m
 ·have HE := ae (nJ hr);have HR := ae hr;clear hr;go_upto_region 1 with fail;refine aJ 2 ?_;refine ay rfl (aB call111 rfl (evc alW (evc alW evn))) ?_;refine (gT _ HL HS HE).mono ?_;rintro e w' ⟨rfl, rfl⟩;refine aR ?_;refine alM (aN true rfl alW evk rfl) ?_;refine ah ?_;go_upto_region 2 with fail;refine af ?_;refine alM (cQ (c := aF) (parts := []) rfl rfl) ?_;refine aG rfl (aU rfl (ev rfl) (ev rfl) HT.out) ?_;simp only [aa];refine aH 1 ?_;go_wp2_with fail;exact bodyPost_ret (cj rfl _ _ _ rfl (World.rangeAt_setCells_same _ _ _ _ (by rw [aK]; exact HT))) rfl ⟨by rw [ail HR.out]; rfl, below_setCells HB1 aj _⟩
 obtain ⟨k, rfl, hk⟩ := jR hr;have HE := ae (tK hk);have HKL := ae hk;have HK : Hid (k < 16) := ae (au hk HS.out.hi);clear hr hk;go_upto_region 1 with fail;refine aJ 2 ?_;refine ay rfl (aB call111 rfl (evc alW (evc alW evn))) ?_;refine (gT _ HL HS HE).mono ?_;rintro e w' ⟨rfl, rfl⟩;refine aR ?_;refine alM (aN false rfl alW evk rfl) ?_;refine ah ?_;have HS1 : Hid (LnA (World.drew w1) p (lf s) /\ (World.drew w1).there w.heap.size 0 64) := ae ⟨HL.out.drew, there_drew HT⟩;have HW2 : Hid (LnA ((World.drew w1).setCells w.heap.size 0 (cel (dj s k).b)) p (lf s)) := ae (by
  show _ = _
  rw [fu w.heap.size _ _ _ p HNE.out];exact HL.out.drew)
 have HT2 : Hid (((World.drew w1).setCells w.heap.size 0 (cel (dj s k).b)).there w.heap.size 0 64) := ae (abE (there_drew HT));have HR2 : Hid (((World.drew w1).setCells w.heap.size 0 (cel (dj s k).b)).rangeAt w.heap.size 0 (cel (dj s k).b)) := ae (World.rangeAt_setCells_same _ _ _ _ (by rw [aK]; exact there_drew HT));have HB2 : Hid (Below w.heap.size w ((World.drew w1).setCells w.heap.size 0 (cel (dj s k).b))) := ae (below_setCells HB1.out.drew aj _);go_upto_region 3 with fail;refine wp_region_held (S := fun w' => LnA w' p (lf s) /\ w'.there w.heap.size 0 64) (by kernel_rfl) ?_;change wpAnyH _ _ _ _ _ 14 _ _ w1.drew;refine al9 0 rfl HS1 ?_;refine al9 1 rfl HS1 ?_;refine amb 2 rfl HS1 ?_;refine alP 3 rfl (fun _ hw => ax rfl alW yi) HS1 ?_;refine alP 4 rfl (fun _ hw => cX rfl alW alW (aiy HK)) HS1 ?_;refine alP 5 rfl (fun _ hw => aV (c := (dj s k).b) rfl alW (hw.1.cB HK)) HS1 ?_;refine al9 6 rfl HS1 ?_;refine al9 7 rfl HS1 ?_;refine amb 8 rfl HS1 ?_;refine alP 9 rfl (fun _ hw => ax rfl alW pN) HS1 ?_;refine alP 10 rfl (fun _ hw => cX rfl alW alW (sR HK)) HS1 ?_;refine alP 11 rfl (fun _ hw => aE rfl alW (wG (hw.1.cK HK))) HS1 ?_;refine dG 12 rfl (by kernel_rfl) rfl (aU rfl (ev rfl) (ev rfl) (there_drew HT.out)) ⟨HW2.out, HT2.out⟩ ?_;simp only [Act.put];generalize (World.drew w1).setCells w.heap.size 0 (cel (dj s k).b) = w2 at *;refine ama 13 rfl ⟨HW2, HT2⟩ ?_;refine wpAnyH_done (by kernel_rfl) ?_ _;go_wp2_with fail;exact bodyPost_ret (cj rfl _ _ _ rfl HR2) rfl ⟨by rw [yA HKL.out]; rfl, HB2⟩
theorem adn (w : World) {B p : Nat} {s : LnS} (h : PLn w B p s) : Calls prog 69 #[.pointer (some ⟨p, 0, none⟩)] w fun e w' => ∃ v, e = .returned v /\ aQ bg w' w.heap.size v (lnD s) /\ Below w.heap.size w w' := by
 obtain ⟨h, hB, hs⟩ := h;have HH := ae h;have HN : Hid (s.l.length <= 16) := ae hs.hi;have HC := ae (jX w h);clear h hB hs;go_enter func69, ntmps69;go_upto_region 2 with fail;refine aJ 1 ?_;refine ay rfl (aB call125 rfl (evc alW evn)) ?_;refine (HC.out).mono ?_;rintro e w' ⟨rfl, rfl⟩;refine aR ?_;refine aH 1 ?_;go_wp2_with fail
 go_loopw [3, 7] (fun z c wr => ∃ i : Nat, c = .int .i64 i /\ i <= s.l.length /\ aQ bg wr w.heap.size z (gu s.l i) /\ Below w.heap.size w wr) (fun _ c _ => s.l.length - (intOf c).toNat)
 case atStart => exact ⟨0, by go_num, Nat.zero_le _, aQ.nil _ _, ak⟩
 case round =>
  obtain ⟨i, rfl, hi, hm, hb⟩ := hrel;have HM := ae hm;have HW := ae hb;have HL := ae (HH.out.below hb);have HBS : Hid (w.heap.size <= wr.heap.size) := ae hb.size;by_cases hlt : i < s.l.length
  ·have HI := ae hlt;have HK : Hid (i < 16) := ae (by have := HN.out; omega);have HT : Hid (decide ((i : Int) < (s.l.length : Int)) = true) := ae (ao (by omega));have HA : Hid (IntKind.i64.wrap ((i : Int) + 1) = ((i + 1 : Nat) : Int)) := ae (by have := HN.out; rw [akZ ⟨by omega, by omega⟩]; omega);clear hm hb hi hlt;go_upto_region 3 with fail;refine af ?_;refine alM (aY true rfl alW alW HT) ?_;refine ah ?_;go_upto_region 4 with fail;refine cC 2 ?_;cases hd : (dj s i).dt
   ·have HD := ae hd;have HST : Hid (gu s.l (i + 1) = gu s.l i) := ae (by rw [gu, show (s.l.getD i lc0).dt = false from HD.out]; simp);clear hd;go_upto_region 5 with fail;refine aJ 3 ?_;refine alM (ax rfl alW qI) ?_;refine alM (cX rfl alW alW (sR HK)) ?_;refine alM (aE rfl alW (wG ((HL.out.cD HK.out).trans (congrArg (fun t => some (Value.bool t)) HD)))) ?_;refine ah ?_;go_upto_region 7 with fail;refine af ?_;refine alM (bP rfl alW evk HA) ?_;refine aH 1 ?_;go_wp2_with fail;go_roundw
    case rel => exact ⟨i + 1, by go_num, HI, by rw [HST.out]; exact HM, HW⟩
    case measure => have := HI.out; simp [intOf]; omega
   have HD := ae hd;have HST : Hid (gu s.l (i + 1) = gu s.l i ++ [(i : Int)]) := ae (by rw [gu, show (s.l.getD i lc0).dt = true from HD.out]; rfl);have hsz : (wr.alloc (.cells #[.int .i64 (i : Int)] 3)).heap.size = wr.heap.size + 1 := al;obtain ⟨v2, w2, hrun, hm2, hg2⟩ := gV bg (wr.alloc (.cells #[.int .i64 (i : Int)] 3)) 48 w.heap.size (wr.heap.size + 1) 1 1 u3 (gu s.l i) [(i : Int)] (some ⟨wr.heap.size, 0, none⟩) (aQ.below HM (ak.alloc aj _)) (eB (E := bg) (l := [(i : Int)]) wr #[.int .i64 (i : Int)] 3 rfl) (by have := HBS.out; omega) (by have := zM s.l i; have := HI.out; have := HN.out; simp; omega);have HRUN := ae hrun;have HM2 : Hid (aQ bg w2 w.heap.size v2 (gu s.l (i + 1))) := ae (by rw [HST.out]; exact hm2);have HW2 : Hid (Below w.heap.size w w2) := ae ((HW.out.trans (ak.alloc HBS _)).grown hg2 (by have := HBS.out; omega) (fun j' hj' => HM.out.ia j' hj'));clear hd hsz hrun hm2 hg2;go_upto_region 5 with fail;refine aJ 3 ?_;refine alM (ax rfl alW qI) ?_;refine alM (cX rfl alW alW (sR HK)) ?_;refine alM (aE rfl alW (wG ((HL.out.cD HK.out).trans (congrArg (fun t => some (Value.bool t)) HD)))) ?_;refine ah ?_;go_upto_region 6 with fail;refine aJ 2 ?_;refine alM (da (E := bg) (a := (i : Int)) rfl alW rfl (by decide)) ?_;refine alM (fX (E := bg) rfl alW alW HRUN) ?_;refine aH 1 ?_;go_upto_region 7 with fail;refine af ?_;refine alM (bP rfl alW evk HA) ?_;refine aH 1 ?_;go_wp2_with fail;go_roundw
   case rel => exact ⟨i + 1, by go_num, HI, HM2, HW2⟩
   case measure => have := HI.out; simp [intOf]; omega
  have hin : i = s.l.length := by omega
  subst hin;have HT : Hid (decide ((s.l.length : Int) < (s.l.length : Int)) = false) := ae (am (by omega));clear hlt hi hm hb;go_upto_region 3 with fail;refine af ?_;refine alM (aY false rfl alW alW HT) ?_;refine ah ?_;go_wp2_with fail;go_ret;exact ⟨_, rfl, HM, HW⟩
theorem adW (w : World) {p : Nat} {x : LnF} (h : LnA w p x) : Calls prog 70 #[.pointer (some ⟨p, 0, none⟩)] w fun e w' => e = .returned (.int .u64 x.f) /\ w = w' := by
 have HL := ae h;clear h;go_enter func70, ntmps70;go_upto_region 1 with fail;refine aJ 1 ?_;refine alM (cR false underlying109 rfl alW evk rfl) ?_;refine ah ?_;go_upto_region 3 with fail;refine aJ 2 ?_;refine alM (ax rfl alW ni) ?_;refine alM (aE rfl alW (lh HL.out.cF)) ?_;refine aH 1 ?_;go_wp2_with fail;go_ret;exact ⟨rfl, rfl⟩
theorem ajh (w : World) (v : Value) (m : Int) (h : NoL w v) : Calls prog 58 #[v, .int .i64 m] w fun e w' => e = .returned (.tuple #[blk aF, .bool false]) /\ Below w.heap.size w w' := by
 have HB1 : Hid (Below w.heap.size w (w.alloc (.cells (cel aF).toArray 45))) := ae (ak.alloc aj _);have HN := ae (h.below HB1);have HT := ae (eu w aF 45);clear h;go_enter func58, ntmps58;go_upto_region 0 with fail;refine af ?_;refine alM (aX rfl) ?_;refine aH 1 ?_;generalize w.alloc (.cells (cel aF).toArray 45) = w1 at *;go_upto_region 1 with fail;refine aJ 2 ?_;refine ay rfl (aB call111 rfl (evc alW (evc alW evn))) ?_;refine (abS _ _ m HN).mono ?_;rintro e w' ⟨rfl, rfl⟩;refine aR ?_;refine alM (aN true rfl alW evk rfl) ?_;refine ah ?_;go_upto_region 2 with fail;refine af ?_;refine alM (cQ (c := aF) (parts := []) rfl rfl) ?_;refine aG rfl (aU rfl (ev rfl) (ev rfl) HT.out) ?_;simp only [aa];refine aH 1 ?_;go_wp2_with fail;exact bodyPost_ret (cj rfl _ _ _ rfl (World.rangeAt_setCells_same _ _ _ _ (by rw [aK]; exact HT))) rfl ⟨rfl, below_setCells HB1 aj _⟩
theorem ab0 (w : World) (v : Value) (h : NoL w v) : Calls prog 69 #[v] w fun e w' => e = .returned (.slice none 0 0) /\ Below w.heap.size w w' := by
 have HC := ae (lS w h);clear h;go_enter func69, ntmps69;go_upto_region 2 with fail;refine aJ 1 ?_;refine ay rfl (aB call125 rfl (evc alW evn)) ?_;refine (HC.out).mono ?_;rintro e w' ⟨rfl, rfl⟩;refine aR ?_;refine aH 1 ?_;go_wp2_with fail
 go_loopw [3, 7] (fun z c wr => c = .int .i64 0 /\ z = .slice none 0 0 /\ w = wr) (fun _ c _ => 0)
 case atStart => exact ⟨by first | rfl | trivial, by first | rfl | trivial, by first | rfl | trivial⟩
 case round =>
  obtain ⟨rfl, rfl, rfl⟩ := hrel;go_upto_region 3 with fail;refine af ?_;refine alM (aY false rfl alW alW rfl) ?_;refine ah ?_;go_wp2_with fail;go_ret;exact ⟨rfl, ak⟩
theorem cf.setCells {I : Obj -> Prop} {F : Nat -> Prop} {w w1 : World} {p : Nat} {ob : Obj} (h : cf I F w w1) (hF : F p) (ho : w1.heap[p]? = some ob) (hI : ∀ cs t fr, ob = .cells cs t fr -> I ob) (hc : I ob) (o : Nat) (vs : List Value) : cf I F w (w1.setCells p o vs) :=
 h.trans (Only.setCells (Only.refl _ _) (.inl ⟨hF, fun o2 ho2 => by rw [ho] at ho2; cases ho2; exact hc⟩) vs o)
def nG (w : World) (B : Nat -> Prop) (p : Nat) (s : LnS) : Prop := LnA w p (lf s) /\ B p /\ dQ s
section
variable {B : Nat -> Prop} {w : World} {p : Nat} {x : LnF}
theorem LnA.t1F {w0 : World} (h : LnA w p x) (ht : cf mB B w0 w) (hB : B p) (j : Nat) (u : Value) : cf mB B w0 (w.setCell ⟨p, j, none⟩ u) := ht.setCell (p := ⟨p, j, none⟩) hB h rfl u
theorem LnA.tnF {w0 : World} (h : LnA w p x) (ht : cf mB B w0 w) (hB : B p) (o : Nat) (vs : List Value) : cf mB B w0 (w.setCells p o vs) := ht.setCells hB h (fun _ _ _ _ => rfl) rfl o vs
end
theorem ug (w : World) (k : Nat) (b : Blk) {B : Nat -> Prop} {p : Nat} {x : LnF} (h : LnA w p x) (hk : k < 16) (hB : B p) : Calls prog 118 #[.pointer (some ⟨p, 0, none⟩), .int .i64 (k : Int), blk b] w fun e w' => e = .returned (.tuple #[]) /\ LnA w' p { x with kn := fZ x.kn k true, bl := fZ x.bl k b } /\ cf mB B w w' := by
 have HK := ae hk;have hne : w.heap.size ≠ p := by have := h.lt; omega
 have HB1 : Hid (Below w.heap.size w (w.alloc (.cells (cel b).toArray 45))) := ae (ak.alloc aj _);have HL : Hid (LnA (w.alloc (.cells (cel b).toArray 45)) p x) := ae (h.below HB1);have HX : Hid ((w.alloc (.cells (cel b).toArray 45)).rangeAt w.heap.size 0 (cel b)) := ae (dc w (cel b) _);have HNE := ae hne;have HBp := ae hB;clear h hk hne hB;go_enter func118, ntmps118;go_upto_region 0 with fail;refine af ?_;refine alM (cm rfl alW) ?_;refine ah ?_;generalize w.alloc (.cells (cel b).toArray 45) = w1 at *;have HXd : Hid ((World.drew w1).rangeAt w.heap.size 0 (cel b)) := ae HX;have HX2 : Hid (((World.drew w1).setCell ⟨p, 1 + k, none⟩ (.bool true)).rangeAt w.heap.size 0 (cel b)) := ae (World.rangeAt_setCells_apart HXd p (1 + k) [.bool true] (.inl HNE));have HL2 : Hid (LnA ((World.drew w1).setCell ⟨p, 1 + k, none⟩ (.bool true)) p { x with kn := fZ x.kn k true }) := ae (HL.out.drew.sK HK true);have HT2 : Hid (cf mB B w ((World.drew w1).setCell ⟨p, 1 + k, none⟩ (.bool true))) := ae (HL.out.drew.t1F (cf.of_below HB1).drew HBp _ _);have HC2 := ae (HL.out.drew.cK HK);have HF2 := ae (HL.out.drew.fz (1 + k));go_upto_region 1 with fail;refine wp_region_held (S := fun w' => w'.rangeAt w.heap.size 0 (cel b)) (by kernel_rfl) ?_;change wpAnyH _ _ _ _ _ 13 _ _ w1.drew;refine al9 0 rfl HXd ?_;refine al9 1 rfl HXd ?_;refine al9 2 rfl HXd ?_;refine al9 3 rfl HXd ?_;refine alP 4 rfl (fun _ hw => aV rfl alW hw) HXd ?_;refine amb 5 rfl HXd ?_;refine alP 6 rfl (fun _ hw => ax rfl alW pN) HXd ?_;refine alP 7 rfl (fun _ hw => cX rfl alW alW (sR HK)) HXd ?_;refine amb 9 rfl HXd ?_;refine alP 10 rfl (fun _ hw => ax rfl alW yi) HXd ?_;refine dG 8 rfl (by kernel_rfl) rfl (dh rfl (ev rfl) evk (za HC2.out HF2.out)) HX2.out ?_;simp only [Act.put];generalize (World.drew w1).setCell ⟨p, 1 + k, none⟩ (.bool true) = w2 at *;have HTH := ae (HL2.out.there (o := 33 + k * 64) (m := 64) (by have := HK.out; omega));have HX3 : Hid ((w2.setCells p (33 + k * 64) (cel b)).rangeAt w.heap.size 0 (cel b)) := ae (World.rangeAt_setCells_apart HX2 p _ _ (.inl HNE));have HL3 : Hid (LnA (w2.setCells p (33 + k * 64) (cel b)) p { x with kn := fZ x.kn k true, bl := fZ x.bl k b }) := ae (HL2.out.sB HK b);have HT3 : Hid (cf mB B w (w2.setCells p (33 + k * 64) (cel b))) := ae (HL2.out.tnF HT2 HBp _ _);refine alP 11 rfl (fun _ hw => cX rfl alW alW (aiy HK)) HX2 ?_;refine dG 12 rfl (by kernel_rfl) rfl (aU rfl (ev rfl) (ev rfl) HTH.out) HX3.out ?_;simp only [Act.put];generalize w2.setCells p (33 + k * 64) (cel b) = w3 at *;refine wpAnyH_done (by kernel_rfl) ?_ _;go_wp2_with fail;exact bodyPost_end (results_none rfl _ _ _) rfl ⟨rfl, HL3, HT3⟩
theorem aai (w : World) (m : Int) (b : Blk) {B : Nat -> Prop} {p : Nat} {s : LnS} (h : nG w B p s) : Calls prog 61 #[.pointer (some ⟨p, 0, none⟩), .int .i64 m, blk b] w fun e w' => e = .returned (.int .i64 (lnE s m)) /\ nG w' B p (fA s m b) /\ cf mB B w w' := by
 obtain ⟨h, hB, hs⟩ := h;have HB1 : Hid (Below w.heap.size w (w.alloc (.cells (cel b).toArray 45))) := ae (ak.alloc aj _);have HL : Hid (LnA (w.alloc (.cells (cel b).toArray 45)) p (lf s)) := ae (h.below HB1);have HX : Hid ((w.alloc (.cells (cel b).toArray 45)).rangeAt w.heap.size 0 (cel b)) := ae (dc w (cel b) _);have HBp := ae hB;have HS := ae hs;clear h hB hs;go_enter func61, ntmps61;go_upto_region 0 with fail;refine af ?_;refine alM (cm rfl alW) ?_;refine aH 1 ?_;generalize w.alloc (.cells (cel b).toArray 45) = w1 at *;cases hr : lnR s m
 ·have HE := ae (nJ hr);have HR := ae hr;clear hr;go_upto_region 1 with fail;refine aJ 2 ?_;refine ay rfl (aB call111 rfl (evc alW (evc alW evn))) ?_;refine (gT _ HL HS HE).mono ?_;rintro e w' ⟨rfl, rfl⟩;refine aR ?_;refine aH 1 ?_;go_upto_region 2 with fail;refine aJ 1 ?_;refine alM (aN true rfl alW evk rfl) ?_;refine ah ?_;go_wp2_with fail;go_ret;exact ⟨by rw [HE.out]; rfl, by rw [aeG HR.out]; exact ⟨HL, HBp, HS⟩, cf.of_below HB1⟩
 obtain ⟨k, rfl, hk⟩ := jR hr;have HE := ae (tK hk);have HKL := ae hk;have HK : Hid (k < 16) := ae (au hk HS.out.hi);clear hr hk;go_upto_region 1 with fail;refine aJ 2 ?_;refine ay rfl (aB call111 rfl (evc alW (evc alW evn))) ?_;refine (gT _ HL HS HE).mono ?_;rintro e w' ⟨rfl, rfl⟩;refine aR ?_;refine aH 1 ?_;go_upto_region 2 with fail;refine aJ 1 ?_;refine alM (aN false rfl alW evk rfl) ?_;refine ah ?_;cases hkn : (dj s k).kn;rotate_left 1
 ·have HKN := ae hkn;clear hkn;go_upto_region 4 with fail;refine aJ 3 ?_;refine alM (ax rfl alW pN) ?_;refine alM (cX rfl alW alW (sR HK)) ?_;refine alM (aE rfl alW (wG ((HL.out.cK HK.out).trans (congrArg (fun t => some (Value.bool t)) HKN)))) ?_;refine aH 1 ?_;go_wp2_with fail;go_ret;exact ⟨by rw [HE.out]; rfl, by rw [abB HKL.out HKN.out]; exact ⟨HL, HBp, HS⟩, cf.of_below HB1⟩
 have HKN := ae hkn;clear hkn;go_upto_region 4 with fail;refine aJ 3 ?_;refine alM (ax rfl alW pN) ?_;refine alM (cX rfl alW alW (sR HK)) ?_;refine alM (aE rfl alW (wG ((HL.out.cK HK.out).trans (congrArg (fun t => some (Value.bool t)) HKN)))) ?_;refine aH 1 ?_;go_upto_region 5 with fail;refine aJ 2 ?_;refine alM (aV rfl alW HX) ?_;refine ay rfl (aB call118 rfl (evc alW (evc alW (evc alW evn)))) ?_;refine (ug _ k b HL HK HBp).mono ?_;rintro e w2 ⟨rfl, h2, t2⟩;have HL2 := ae h2;have HT2 := ae ((cf.of_below HB1).trans t2);clear h2 t2;refine aR ?_;refine ah ?_;go_wp2_with fail;go_ret;exact ⟨by rw [HE.out]; rfl, ⟨by rw [ahY b HS.out HKL.out HKN.out]; exact HL2, HBp, HS.out.lrn _ _⟩, HT2⟩
theorem agA (w : World) (m : Int) (b : Blk) (Q : Nat) {B : Nat -> Prop} {p : Nat} {s : LnS} (h : nG w B p s) (hQ : Q < 18446744073709551616) : Calls prog 105 #[.pointer (some ⟨p, 0, none⟩), .int .i64 m, blk b, .int .u64 (Q : Int)] w fun e w' => e = .returned (.int .i64 (q7 s m Q)) /\ nG w' B p (eG s m b Q) /\ cf mB B w w' := by
 obtain ⟨h, hB, hs⟩ := h;have HQ := ae hQ;clear hQ;have HB1 : Hid (Below w.heap.size w (w.alloc (.cells (cel b).toArray 45))) := ae (ak.alloc aj _);have HL : Hid (LnA (w.alloc (.cells (cel b).toArray 45)) p (lf s)) := ae (h.below HB1);have HX : Hid ((w.alloc (.cells (cel b).toArray 45)).rangeAt w.heap.size 0 (cel b)) := ae (dc w (cel b) _);have HBp := ae hB;have HS := ae hs;clear h hB hs;go_enter func105, ntmps105;go_upto_region 0 with fail;refine af ?_;refine alM (cm rfl alW) ?_;refine aH 1 ?_;generalize w.alloc (.cells (cel b).toArray 45) = w1 at *;cases hr : lnR s m
 ·have HE := ae (nJ hr);have HR := ae hr;clear hr;go_upto_region 1 with fail;refine aJ 2 ?_;refine ay rfl (aB call111 rfl (evc alW (evc alW evn))) ?_;refine (gT _ HL HS HE).mono ?_;rintro e w' ⟨rfl, rfl⟩;refine aR ?_;refine aH 1 ?_;go_upto_region 2 with fail;refine aJ 1 ?_;refine alM (aN true rfl alW evk rfl) ?_;refine ah ?_;go_wp2_with fail;go_ret;exact ⟨by rw [ag8 HR.out]; rfl, by rw [acG HR.out]; exact ⟨HL, HBp, HS⟩, cf.of_below HB1⟩
 obtain ⟨k, rfl, hk⟩ := jR hr;have HE := ae (tK hk);have HKL := ae hk;have HK : Hid (k < 16) := ae (au hk HS.out.hi);clear hr hk;go_upto_region 1 with fail;refine aJ 2 ?_;refine ay rfl (aB call111 rfl (evc alW (evc alW evn))) ?_;refine (gT _ HL HS HE).mono ?_;rintro e w' ⟨rfl, rfl⟩;refine aR ?_;refine aH 1 ?_;go_upto_region 2 with fail;refine aJ 1 ?_;refine alM (aN false rfl alW evk rfl) ?_;refine ah ?_;by_cases hq0 : Q = 0
 ·subst hq0;have HZ : Hid ((((0 : Nat) : Int) == 0) = true) := ae rfl;go_upto_region 4 with fail;refine aJ 1 ?_;refine alM (aI true rfl alW evk HZ) ?_;refine ah ?_;go_wp2_with fail;go_ret;exact ⟨by rw [ai1]; rfl, by rw [agk]; exact ⟨HL, HBp, HS⟩, cf.of_below HB1⟩
 have HZ : Hid (((Q : Int) == 0) = false) := ae (av (by omega));have HQ0 := ae hq0;clear hq0;go_upto_region 4 with fail;refine aJ 1 ?_;refine alM (aI false rfl alW evk HZ) ?_;refine ah ?_;go_upto_region 6 with fail;refine aJ 2 ?_;refine alM (aV rfl alW HX) ?_;refine ay rfl (aB call118 rfl (evc alW (evc alW (evc alW evn)))) ?_;refine (ug _ k b HL HK HBp).mono ?_;rintro e w2 ⟨rfl, h2, t2⟩;have HL2 := ae h2;have HT2 := ae ((cf.of_below HB1).trans t2);clear h2 t2;refine aR ?_;refine ah ?_;have HC2 := ae (HL2.out.cD HK);have HF2 := ae (HL2.out.fz (17 + k));have HL3 := ae (HL2.out.sD HK true);have HT3 := ae (HL2.out.t1F HT2 HBp (17 + k) (.bool true));go_upto_region 7 with fail;refine aJ 3 ?_;refine alM (ax rfl alW qI) ?_;refine alM (cX rfl alW alW (sR HK)) ?_;refine aG rfl (dh rfl (ev rfl) evk (za HC2.out HF2.out)) ?_;simp only [aa];generalize w2.setCell ⟨p, 17 + k, none⟩ (.bool true) = w3 at *;refine ah ?_;have HC3 : Hid (w3.cell? ⟨p, 1057, none⟩ = some (.int .u64 (s.f : Int))) := ae HL3.out.cF;have HF3 := ae (HL3.out.fz 1057);have HL4 := ae (HL3.out.sF (Q : Int));have HT4 := ae (HL3.out.t1F HT3 HBp 1057 (.int .u64 (Q : Int)));have HSE : Hid (q7 s (k : Int) Q = 0) := ae (zy HKL HQ0);have HOK : Hid (dQ (eG s (k : Int) b Q)) := ae (HS.out.set _ _ HQ);go_upto_region 8 with fail;refine aJ 2 ?_;refine alM (ax rfl alW ni) ?_;refine alM (aE rfl alW (lh HC3)) ?_;by_cases hf : s.f = 0
 ·have HZf : Hid (((s.f : Int) == 0) = true) := ae (beq_iff_eq.2 (by omega));have HM : Hid (oe s.f Q = Q) := ae (if_pos (.inl hf));clear hf;refine alM (aI true rfl alW evk HZf) ?_;refine bq 6 rfl (aL rfl alW) (by kernel_rfl) ?_;simp only [bX, ac, aa];refine aH 1 ?_;go_upto_region 9 with fail;refine aJ 3 ?_;refine alM (ax rfl alW ni) ?_;refine aG rfl (dh rfl (ev rfl) (ev rfl) (yN HC3.out HF3.out)) ?_;simp only [aa];generalize w3.setCell ⟨p, 1057, none⟩ (.int .u64 (Q : Int)) = w4 at *;refine ah ?_;go_wp2_with fail;go_ret;exact ⟨by rw [HSE.out]; rfl, ⟨by rw [yn b HKL.out HQ0.out, HM.out]; exact HL4, HBp, HOK⟩, HT4⟩
 have HZf : Hid (((s.f : Int) == 0) = false) := ae (av (by omega));refine alM (aI false rfl alW evk HZf) ?_;refine runs 3 ?_;refine runs 1 ?_;refine alT (ax rfl alW ni) ?_;refine alT (aE rfl alW (lh HC3)) ?_;by_cases hl : Q < s.f
 ·have HLS : Hid (decide ((Q : Int) < (s.f : Int)) = true) := ae (ao (by omega));have HM : Hid (oe s.f Q = Q) := ae (if_pos (.inr hl));clear hf hl;refine alT (aY true rfl alW alW HLS) ?_;refine aH 1 ?_;go_upto_region 9 with fail;refine aJ 3 ?_;refine alM (ax rfl alW ni) ?_;refine aG rfl (dh rfl (ev rfl) (ev rfl) (yN HC3.out HF3.out)) ?_;simp only [aa];generalize w3.setCell ⟨p, 1057, none⟩ (.int .u64 (Q : Int)) = w4 at *;refine ah ?_;go_wp2_with fail;go_ret;exact ⟨by rw [HSE.out]; rfl, ⟨by rw [yn b HKL.out HQ0.out, HM.out]; exact HL4, HBp, HOK⟩, HT4⟩
 have HLS : Hid (decide ((Q : Int) < (s.f : Int)) = false) := ae (am (by omega));have HM : Hid (oe s.f Q = s.f) := ae (if_neg (by omega));clear hf hl;refine alT (aY false rfl alW alW HLS) ?_;refine aH 1 ?_;go_wp2_with fail;go_ret;exact ⟨by rw [HSE.out]; rfl, ⟨by rw [yn b HKL.out HQ0.out, HM.out]; exact HL3, HBp, HOK⟩, HT3⟩
theorem yy (w : World) (m : Int) {B : Nat -> Prop} {p : Nat} {s : LnS} (h : nG w B p s) : Calls prog 107 #[.pointer (some ⟨p, 0, none⟩), .int .i64 m] w fun e w' => e = .returned (.int .i64 (lnE s m)) /\ nG w' B p (gw s m) /\ cf mB B w w' := by
 obtain ⟨h, hB, hs⟩ := h;have HL := ae h;have HBp := ae hB;have HS := ae hs;clear h hB hs;go_enter func107, ntmps107;cases hr : lnR s m
 ·have HE := ae (nJ hr);have HR := ae hr;clear hr;go_upto_region 1 with fail;refine aJ 2 ?_;refine ay rfl (aB call111 rfl (evc alW (evc alW evn))) ?_;refine (gT _ HL HS HE).mono ?_;rintro e w' ⟨rfl, rfl⟩;refine aR ?_;refine aH 1 ?_;go_upto_region 2 with fail;refine aJ 1 ?_;refine alM (aN true rfl alW evk rfl) ?_;refine ah ?_;go_wp2_with fail;go_ret;exact ⟨by rw [HE.out]; rfl, by rw [adT HR.out]; exact ⟨HL, HBp, HS⟩, cf.refl _ _ _⟩
 obtain ⟨k, rfl, hk⟩ := jR hr;have HE := ae (tK hk);have HKL := ae hk;have HK : Hid (k < 16) := ae (au hk HS.out.hi);clear hr hk;go_upto_region 1 with fail;refine aJ 2 ?_;refine ay rfl (aB call111 rfl (evc alW (evc alW evn))) ?_;refine (gT _ HL HS HE).mono ?_;rintro e w' ⟨rfl, rfl⟩;refine aR ?_;refine aH 1 ?_;go_upto_region 2 with fail;refine aJ 1 ?_;refine alM (aN false rfl alW evk rfl) ?_;refine ah ?_;have HC0 := ae (HL.out.drew.cK HK);have HF0 := ae (HL.out.drew.fz (1 + k));have HL1 := ae (HL.out.drew.sK HK false);have HT1 := ae (HL.out.drew.t1F (cf.refl mB B w).drew HBp (1 + k) (.bool false));go_upto_region 4 with fail;refine wp_region_held (S := fun _ => True) (by kernel_rfl) ?_;change wpAnyH _ _ _ _ _ 19 _ _ w.drew;refine al9 0 rfl trivial ?_;refine al9 1 rfl trivial ?_;refine al9 2 rfl trivial ?_;refine al9 3 rfl trivial ?_;refine al9 4 rfl trivial ?_;refine al9 5 rfl trivial ?_;refine alP 6 rfl (fun _ hw => cQ (c := aF) (parts := []) rfl rfl) trivial ?_;refine amb 7 rfl trivial ?_;refine alP 8 rfl (fun _ hw => ax rfl alW pN) trivial ?_;refine amb 11 rfl trivial ?_;refine alP 12 rfl (fun _ hw => ax rfl alW qI) trivial ?_;refine amb 15 rfl trivial ?_;refine alP 16 rfl (fun _ hw => ax rfl alW yi) trivial ?_;refine alP 9 rfl (fun _ hw => cX rfl alW alW (sR HK)) trivial ?_;refine dG 10 rfl (by kernel_rfl) rfl (dh rfl (ev rfl) evk (za HC0.out HF0.out)) trivial ?_;simp only [Act.put];generalize (World.drew w).setCell ⟨p, 1 + k, none⟩ (.bool false) = w1 at *;have HC1 := ae (HL1.out.cD HK);have HF1 := ae (HL1.out.fz (17 + k));have HL2 := ae (HL1.out.sD HK false);have HT2 := ae (HL1.out.t1F HT1 HBp (17 + k) (.bool false));refine alP 13 rfl (fun _ hw => cX rfl alW alW (sR HK)) trivial ?_;refine dG 14 rfl (by kernel_rfl) rfl (dh rfl (ev rfl) evk (za HC1.out HF1.out)) trivial ?_;simp only [Act.put];generalize w1.setCell ⟨p, 17 + k, none⟩ (.bool false) = w2 at *;have HTH := ae (HL2.out.there (o := 33 + k * 64) (m := 64) (by have := HK.out; omega));have HL3 := ae (HL2.out.sB HK aF);have HT3 := ae (HL2.out.tnF HT2 HBp (33 + k * 64) (cel aF));refine alP 17 rfl (fun _ hw => cX rfl alW alW (aiy HK)) trivial ?_;refine dG 18 rfl (by kernel_rfl) rfl (aU rfl (ev rfl) (ev rfl) HTH.out) trivial ?_;simp only [Act.put];generalize w2.setCells p (33 + k * 64) (cel aF) = w3 at *;refine wpAnyH_done (by kernel_rfl) ?_ _;go_wp2_with fail;go_ret;exact ⟨by rw [HE.out]; rfl, ⟨by rw [aiA HKL.out]; exact HL3, HBp, HS.out.frg _⟩, HT3⟩
theorem aau (w : World) {B : Nat -> Prop} {p : Nat} {s : LnS} (h : nG w B p s) : Calls prog 66 #[.pointer (some ⟨p, 0, none⟩)] w fun e w' => e = .returned (.int .i64 0) /\ nG w' B p (gM s) /\ cf mB B w w' := by
 obtain ⟨h, hB, hs⟩ := h;have HC := ae (sA w true (jX w h) (ao (by have := hs.lo; show (0 : Int) < (s.l.length : Int); omega)));have HL := ae h;have HBp := ae hB;have HS := ae hs;have HTH := ae (h.there (o := 17) (m := 16) (by omega));have HL1 := ae h.sD0;have HT1 := ae (h.tnF (cf.refl mB B w) hB 17 q8);clear h hB hs;go_enter func66, ntmps66;go_upto_region 1 with fail;refine aJ 1 ?_;refine ay rfl (aB call123 rfl (evc alW evn)) ?_;refine (HC.out).mono ?_;rintro e w' ⟨rfl, rfl⟩;refine aR ?_;refine aH 1 ?_;go_upto_region 3 with fail;refine aJ 2 ?_;refine alM (lE rfl acT) ?_;refine runs 1 ?_;refine alM (ax rfl alW qI) ?_;refine aG rfl (ye rfl (ev rfl) (ev rfl) HTH.out) ?_;simp only [aa];generalize w.setCells p 17 q8 = w1 at *;have HC1 := ae HL1.out.cF;have HF1 := ae (HL1.out.fz 1057);have HL2 := ae (HL1.out.sF 0);have HT2 := ae (HL1.out.t1F HT1 HBp 1057 (.int .u64 0));refine runs 1 ?_;refine alM (ax rfl alW ni) ?_;refine aG rfl (dh rfl (ev rfl) evk (yN HC1.out HF1.out)) ?_;simp only [aa];generalize w1.setCell ⟨p, 1057, none⟩ (.int .u64 0) = w2 at *;refine ah ?_;go_wp2_with fail;go_ret;exact ⟨rfl, ⟨by rw [ajl]; exact HL2, HBp, HS.out.cln⟩, HT2⟩
theorem ajR (w : World) : (zeroValue 109).run prog w = .ok (.pointer none) w := by kernel_rfl
section
variable {w w' : World} {b N : Nat} {M : Int -> Option Nat} {k : Int}
theorem dU.kw (h : dU w b N M) (hw : (Lit.int .i64 k).wf = true) : (Instr.lookup 64 (.map (some b)) (.int .i64 k) false).run prog w = .ok (ptO (M k)) w := by
 obtain ⟨D, h1, _, h3⟩ := h;obtain ⟨v, ps, hr, hv⟩ := h1.lookup fN underlying64 (ajR w) (zd := .nil) (zp := []) rfl (qZ hw);rw [(h3 k hw).1] at hv;rw [hr, zU hv]
theorem dU.ach (h : dU w b N M) (hw : (Lit.int .i64 k).wf = true) (hn : M k = none) (hN : N < maxLen) (q : Nat) :
  ∃ w', (Instr.mapUpdate 64 (.map (some b)) (.int .i64 k) (.pointer (some ⟨q, 0, none⟩))).run prog w = .ok () w' /\ dU w' b (N + 1) (fun j => if j = k then some q else M j) /\ w.mapTurned w' b := by
 obtain ⟨D, h1, h2, h3⟩ := h;obtain ⟨w', hr, ho, ht⟩ := h1.store fN underlying64 hN (qZ hw) (aeD (some q));have hT := h1.tidy fN;have hk : WideAt.IsKeyLit (Lit.int .i64 k) := fN.key (qZ hw);have hs : Maps.size (D.put (.int .i64 k) (ptD (some q))) = N + 1 := by
  rw [Maps.size_put hT, (h3 k hw).2, hn, h2]; rfl
 refine ⟨w', hr, ⟨_, by rw [<- hs]; exact my ho, hs, fun j hj => ?_⟩, ht⟩;by_cases e : j = k
 ·subst e;dsimp only;rw [if_pos rfl, Maps.atKey_put_same hT.isMap hk, Maps.has_put_same hT.isMap hk];exact ⟨rfl, rfl⟩
 ·dsimp only;rw [if_neg e, Maps.atKey_put_other (jV e), Maps.has_put_other (jV e)];exact h3 j hj
theorem dU.als (h : dU w b (N + 1) M) (hw : (Lit.int .i64 k).wf = true) (hn : (M k).isSome = true) (ty : TypeId) :
  ∃ w', (Builtin.delete_ #[64, 3] ty #[.map (some b), .int .i64 k]).run prog w = .ok (.tuple #[]) w' /\ dU w' b N (fun j => if j = k then none else M j) /\ w.mapTurned w' b := by
 obtain ⟨D, h1, h2, h3⟩ := h;obtain ⟨w', hr, ho, ht⟩ := h1.drop fN underlying64 (qZ hw) ty;have hT := h1.tidy fN;have hs : Maps.size (D.del (.int .i64 k)) = N := by
  have := Maps.size_del (k := .int .i64 k) hT;rw [(h3 k hw).2, hn, h2] at this
  simpa using this
 refine ⟨w', hr, ⟨_, by rw [<- hs]; exact my ho, hs, fun j hj => ?_⟩, ht⟩;by_cases e : j = k
 ·subst e;dsimp only;rw [if_pos rfl, Maps.atKey_del_same, Maps.has_del_same];exact ⟨rfl, rfl⟩
 ·dsimp only;rw [if_neg e, Maps.atKey_del_other (jV e), Maps.has_del_other (jV e)];exact h3 j hj
end
theorem fO {w w' : World} {b : Nat} {F : Nat -> Prop} (h : w.mapTurned w' b) (hF : F b) : Only F w w' := by
 have hg := h.grown;obtain ⟨es, c, es', c', hb, e⟩ := h;exact Only.grown (Only.refl _ _) hg fun j hj => by injection hj with hj; subst hj; exact .inl hF
def shC (N T : Nat) (r : Int) (lp mp : Nat) : List Value := [.int .i64 (N : Int), .int .i64 (T : Int), .int .i64 r, ptB lp, .map (some mp)]
def uF (w : World) : Option Nat -> Option LnS -> Prop
 |none, none => True
 |some b, some x => LnA w b (lf x) /\ dQ x
 |_, _ => False
def mLn (m : Nat -> Option Nat) (k : Int) : Option Nat := if 0 <= k then m k.toNat else none
structure PRu (w : World) (t lp mp : Nat) (FL : Nat -> Prop) (L : List Ky) (c : Nat) (m : Nat -> Option Nat) (ln : Nat -> Option LnS) (N T room : Nat) (r : Int) : Prop where
 at_ : w.heap[t]? = some (.cells (shC N T r lp mp).toArray 66 (0, 0))
 li : PLF w FL lp room L
 map : dU w mp c (mLn m)
 ln : ∀ n, uF w (m n) (ln n)
 inj : ∀ i j b, m i = some b -> m j = some b -> i = j
 ap : ¬ FL t /\ ¬ FL mp /\ ∀ n b, m n = some b -> ¬ FL b
 lt : ∀ b, FL b -> b < w.heap.size
 may : dW (gx N T r) = true
def qS (t mp : Nat) (FL : Nat -> Prop) (m : Nat -> Option Nat) (b : Nat) : Prop := b = t \/ b = mp \/ FL b \/ ∃ n, m n = some b
def PSh (w : World) (S : Nat -> Prop) (t K : Nat) (s : ShS) : Prop := ∃ lp mp FL m r, PRu w t lp mp FL (kyL s.dty s.o) s.o.length m s.ln s.N s.T s.room r /\ co s /\ S = qS t mp FL m
section
variable {w w' : World} {G FL : Nat -> Prop} {a : Option Nat} {x : Option LnS}
theorem uF.only (h : uF w a x) (hk : Only G w w') (hG : ∀ b, a = some b -> ¬ G b) : uF w' a x := by
 cases a <;> cases x
 ·exact h
 ·exact h
 ·exact h
 ·exact ⟨Only.keep hk h.1 (hG _ rfl), h.2⟩
theorem uF.some_ {y : LnS} (h : uF w a (some y)) : ∃ b, a = some b /\ LnA w b (lf y) /\ dQ y := by
 cases a
 ·exact h.elim
 ·exact ⟨_, rfl, h.1, h.2⟩
theorem uF.none_ (h : uF w a none) : a = none := by
 cases a
 ·rfl
 ·exact h.elim
end
section
variable {w w' : World} {t lp mp c N T room n b : Nat} {FL G FL' : Nat -> Prop} {L L' : List Ky} {m : Nat -> Option Nat} {ln : Nat -> Option LnS} {r : Int}
theorem PRu.rng (h : PRu w t lp mp FL L c m ln N T room r) : w.rangeAt t 0 (shC N T r lp mp) := aP h.at_
theorem PRu.c0 (h : PRu w t lp mp FL L c m ln N T room r) : w.cell? ⟨t, 0, none⟩ = some (.int .i64 (N : Int)) := h.rng 0 _ rfl
theorem PRu.c3 (h : PRu w t lp mp FL L c m ln N T room r) : w.cell? ⟨t, 3, none⟩ = some (ptB lp) := h.rng 3 _ rfl
theorem PRu.c4 (h : PRu w t lp mp FL L c m ln N T room r) : w.cell? ⟨t, 4, none⟩ = some (.map (some mp)) := h.rng 4 _ rfl
theorem PRu.geo (h : PRu w t lp mp FL L c m ln N T room r) : w.rangeAt t 0 [.int .i64 (N : Int), .int .i64 (T : Int), .int .i64 r] := fx (k := 0) (ds := []) (es := [.int .i64 (N : Int), .int .i64 (T : Int), .int .i64 r]) (fs := [ptB lp, .map (some mp)]) h.rng rfl rfl
theorem PRu.ah8 (h : PRu w t lp mp FL L c m ln N T room r) : ∃ es q, w.heap[mp]? = some (.map es q) := h.map.obj
theorem PRu.lnb (h : PRu w t lp mp FL L c m ln N T room r) (hn : m n = some b) : ∃ y, ln n = some y /\ LnA w b (lf y) /\ dQ y := by
 have := h.ln n;rw [hn] at this;cases e : ln n with
 |none => rw [e] at this; exact this.elim
 |some y => rw [e] at this; exact ⟨y, rfl, this.1, this.2⟩
theorem PRu.ne (h : PRu w t lp mp FL L c m ln N T room r) : t ≠ mp /\ ∀ n b, m n = some b -> b ≠ t /\ b ≠ mp := by
 obtain ⟨es, q, hm⟩ := h.ah8;refine ⟨fun e => ?_, fun n b hn => ⟨fun e => ?_, fun e => ?_⟩⟩
 ·have ha := h.at_;rw [e, hm] at ha;cases ha
 ·obtain ⟨y, _, hy, _⟩ := h.lnb hn;have ha := h.at_;unfold LnA at hy;rw [e, ha] at hy;injection hy with hy;injection hy with _ hy;exact absurd hy (by decide)
 ·obtain ⟨y, _, hy, _⟩ := h.lnb hn;unfold LnA at hy;rw [e, hm] at hy;cases hy
theorem PRu.size (h : PRu w t lp mp FL L c m ln N T room r) : ∀ b, qS t mp FL m b -> b < w.heap.size := by
 intro b hb;rcases hb with rfl | rfl | hb | ⟨n, hb⟩
 ·exact aS h.at_
 ·exact h.map.lt
 ·exact h.lt b hb
 ·obtain ⟨y, _, hy, _⟩ := h.lnb hb; exact hy.lt
theorem PRu.only (h : PRu w t lp mp FL L c m ln N T room r) (hk : Only G w w') (hG : ∀ b, qS t mp FL m b -> ¬ G b) : PRu w' t lp mp FL L c m ln N T room r :=
 ⟨Only.keep hk h.at_ (hG t (.inl rfl)), h.li.only hk fun b hb => hG b (.inr (.inr (.inl hb))), h.map.kept fun es q hb => Only.keep hk hb (hG mp (.inr (.inl rfl))), fun n => (h.ln n).only hk fun b hb => hG b (.inr (.inr (.inr ⟨n, hb⟩))), h.inj, h.ap, fun b hb => au (h.lt b hb) hk.size, h.may⟩
theorem PRu.below (h : PRu w t lp mp FL L c m ln N T room r) (hb : Below w.heap.size w w') : PRu w' t lp mp FL L c m ln N T room r := h.only (Only.of_below (fun _ => False) hb) fun _ _ e => e
theorem PRu.list (h : PRu w t lp mp FL L c m ln N T room r) (hk : Only FL w w') (hl : PLF w' FL' lp room L') (hF : ∀ b, FL' b -> FL b \/ w.heap.size <= b) (ht : ∀ b, FL' b -> b < w'.heap.size) : PRu w' t lp mp FL' L' c m ln N T room r := by
 have hs := h.size;have no : ∀ b, qS t mp FL m b -> ¬ FL b -> ¬ FL' b := fun b hb hn hb' => by
  rcases hF b hb' with e | e
  ·exact hn e
  ·have := hs b hb; omega
 exact ⟨Only.keep hk h.at_ h.ap.1, hl, h.map.kept fun es q hb => Only.keep hk hb h.ap.2.1, fun n => (h.ln n).only hk fun b hb => h.ap.2.2 n b hb, h.inj, ⟨no t (.inl rfl) h.ap.1, no mp (.inr (.inl rfl)) h.ap.2.1, fun n b hb => no b (.inr (.inr (.inr ⟨n, hb⟩))) (h.ap.2.2 n b hb)⟩, ht, h.may⟩
theorem PRu.line {y : LnS} (h : PRu w t lp mp FL L c m ln N T room r) (hn : m n = some b) (hk : Only (fun j => j = b) w w') (hl : LnA w' b (lf y)) (hy : dQ y) : PRu w' t lp mp FL L c m (fun j => if j = n then some y else ln j) N T room r := by
 obtain ⟨h1, h2⟩ := h.ne;obtain ⟨n1, n2⟩ := h2 n b hn;refine ⟨Only.keep hk h.at_ fun e => n1 e.symm, h.li.only hk fun j hj e => h.ap.2.2 n b hn (by rw [<- e]; exact hj), h.map.kept fun es q hb => Only.keep hk hb fun e => n2 e.symm, fun j => ?_, h.inj, h.ap, fun j hj => au (h.lt j hj) hk.size, h.may⟩
 try dsimp only
 by_cases e : j = n
 ·subst e; rw [if_pos rfl, hn]; exact ⟨hl, hy⟩
 ·rw [if_neg e]; exact (h.ln j).only hk fun b' hb' e2 => e (h.inj j n b (by rw [<- e2]; exact hb') hn)
theorem PRu.del (h : PRu w t lp mp FL L (c + 1) m ln N T room r) (hk : w.mapTurned w' mp) (hm : dU w' mp c (fun j => if j = (n : Int) then none else mLn m j)) : PRu w' t lp mp FL L c (fun j => if j = n then none else m j) (fun j => if j = n then none else ln j) N T room r := by
 obtain ⟨h1, h2⟩ := h.ne;have ho := fO (F := fun j => j = mp) hk rfl;have e : (fun j => if j = (n : Int) then none else mLn m j) = mLn (fun j => if j = n then none else m j) := funext fun j => by
  unfold mLn;by_cases h0 : 0 <= j
  ·rw [if_pos h0, if_pos h0]
   try dsimp only
   by_cases e : j = (n : Int)
   ·rw [if_pos e, if_pos (by omega)]
   ·rw [if_neg e, if_neg (by omega)]
  ·rw [if_neg h0, if_neg h0, if_neg (by omega)]
 refine ⟨Only.keep ho h.at_ h1, h.li.only ho fun j hj e => h.ap.2.1 (by rw [<- e]; exact hj), by rw [<- e]; exact hm, fun j => ?_, fun i j b hi hj => ?_, ⟨h.ap.1, h.ap.2.1, fun j b hj => ?_⟩, fun j hj => au (h.lt j hj) ho.size, h.may⟩
 ·try dsimp only
  by_cases e : j = n
  ·rw [if_pos e, if_pos e]; trivial
  ·rw [if_neg e, if_neg e]; exact (h.ln j).only ho fun b hb e2 => (h2 j b hb).2 e2
 ·try dsimp only at hi hj
  by_cases e : i = n
  ·rw [if_pos e] at hi; cases hi
  ·by_cases e' : j = n
   ·rw [if_pos e'] at hj; cases hj
   ·rw [if_neg e] at hi; rw [if_neg e'] at hj; exact h.inj i j b hi hj
 ·try dsimp only at hj
  by_cases e : j = n
  ·rw [if_pos e] at hj; cases hj
  ·rw [if_neg e] at hj; exact h.ap.2.2 j b hj
theorem PRu.add {y : LnS} (h : PRu w t lp mp FL L c m ln N T room r) (hn : m n = none) (hb : LnA w b (lf y)) (hy : dQ y) (hF : ¬ FL b) (hmb : ∀ j, m j ≠ some b) (hk : w.mapTurned w' mp) (hm : dU w' mp (c + 1) (fun j => if j = (n : Int) then some b else mLn m j)) : PRu w' t lp mp FL L (c + 1) (fun j => if j = n then some b else m j) (fun j => if j = n then some y else ln j) N T room r := by
 obtain ⟨h1, h2⟩ := h.ne;have ho := fO (F := fun j => j = mp) hk rfl;have e : (fun j => if j = (n : Int) then some b else mLn m j) = mLn (fun j => if j = n then some b else m j) := funext fun j => by
  unfold mLn;by_cases h0 : 0 <= j
  ·rw [if_pos h0, if_pos h0]
   try dsimp only
   by_cases e : j = (n : Int)
   ·rw [if_pos e, if_pos (by omega)]
   ·rw [if_neg e, if_neg (by omega)]
  ·rw [if_neg h0, if_neg h0, if_neg (by omega)]
 have hbm : b ≠ mp := fun e => by
  obtain ⟨es, q, hq⟩ := h.ah8;unfold LnA at hb;rw [e, hq] at hb;cases hb
 refine ⟨Only.keep ho h.at_ h1, h.li.only ho fun j hj e => h.ap.2.1 (by rw [<- e]; exact hj), by rw [<- e]; exact hm, fun j => ?_, fun i j b' hi hj => ?_, ⟨h.ap.1, h.ap.2.1, fun j b' hj => ?_⟩, fun j hj => au (h.lt j hj) ho.size, h.may⟩
 ·try dsimp only
  by_cases e : j = n
  ·rw [if_pos e, if_pos e]; exact ⟨Only.keep ho hb hbm, hy⟩
  ·rw [if_neg e, if_neg e]; exact (h.ln j).only ho fun b hb e2 => (h2 j b hb).2 e2
 ·try dsimp only at hi hj
  by_cases e : i = n
  ·rw [if_pos e] at hi;by_cases e' : j = n
   ·omega
   ·rw [if_neg e'] at hj; cases hi; exact absurd hj (hmb j)
  ·rw [if_neg e] at hi;by_cases e' : j = n
   ·rw [if_pos e'] at hj; cases hj; exact absurd hi (hmb i)
   ·rw [if_neg e'] at hj; exact h.inj i j b' hi hj
 ·try dsimp only at hj
  by_cases e : j = n
  ·rw [if_pos e] at hj; cases hj; exact hF
  ·rw [if_neg e] at hj; exact h.ap.2.2 j b' hj
end
end Go.Proofs.YtdmhelalbemlcaaGreatDoor
