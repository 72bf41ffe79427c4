import Derived.Test.YtdmhelalbemlcaaSnae
import Derived.Test.YtdmhelalbemlcaaSnaa
import Derived.Deep.Slices
import Derived.Test.YtdmhelalbemlcaaSnab
import Derived.Test.YtdmhelalbemlcaaSnac
import Derived.Test.YtdmhelalbemlcaaSnZ
namespace Go.Proofs.Ytdmhelalbemlcaa
open Go.RowKit
open Go.Maps (Keyed)
set_option linter.unusedVariables false
set_option linter.unusedSimpArgs false
set_option maxRecDepth 100000
section
variable {w w' : World} {B : Nat → Prop} {p room E bm i : Nat} {bs : List Nat} {ky : Nat → Ky} {pv nx : Nat → Nat} {M : Int → Option Nat} {L : List Ky} {k : Int}
theorem PLuF.below (h : PLuF w B p room E bm bs ky pv nx M) (hb : Below w.heap.size w w') : PLuF w' B p room E bm bs ky pv nx M := h.keep fun b o ho _ => aw ho hb
theorem p_loose_noF (w : World) (h : PLuF w B p room E bm bs ky pv nx M) (h0 : lu (bs.map ky) = 0) : Calls Try.prog 63 #[.pointer (some ⟨p, 0, none⟩)] w fun e w' => e = .returned (.pointer none) ∧ w = w' :=
  (plu_looseF w h).mono fun e w' hh => by rw [lsB_none h0] at hh; exact hh
theorem p_loose_atF (w : World) (h : PLuF w B p room E bm bs ky pv nx M) {j b : Nat} (h0 : lu (bs.map ky) = j + 1) (hb : bs.getD j 0 = b) : Calls Try.prog 63 #[.pointer (some ⟨p, 0, none⟩)] w fun e w' => e = .returned (.pointer (some ⟨b, 0, none⟩)) ∧ w = w' :=
  (plu_looseF w h).mono fun e w' hh => by rw [lsB_some h0, hb] at hh; exact hh
theorem PLuF.front (h : PLuF w B p room E bm bs ky pv nx M) (hi : i < bs.length) {pv' nx' : Nat → Nat} (hat : w'.heap[p]? = some (.cells #[.int .i64 (room : Int), ptB E, .map (some bm)] 63 (0, 0)))
    (hl : Lnk w' ky pv' nx' (bs.getD i 0 :: E :: wo bs i)) (hs : Seg pv' nx' E (bs.getD i 0 :: wo bs i) E) (hm : a8 w' bm bs.length M) : PLuF w' B p room E bm (bs.getD i 0 :: wo bs i) ky pv' nx' M := by
  have hd := List.nodup_cons.1 h.one
  refine ⟨hat, hl.sub fun x hx => ?_, hs, List.nodup_cons.2 ⟨fun e => hd.1 ((bX hi).1 e), List.nodup_cons.2 ⟨not_wo hd.2 hi, hd.2.sublist (wo_sub bs i)⟩⟩, by rw [List.length_cons, wo_len hi]; exact hm, fun x hx => h.hit x ((bX hi).1 hx), fun j x hj hx => ⟨(bX hi).2 (h.who j x hj hx).1, (h.who j x hj hx).2⟩, ⟨h.low.1, h.low.2.1, fun x hx => ?_⟩, ?_, h.rm⟩
  · rcases List.mem_cons.1 hx with rfl | hx
    · simp
    · rcases List.mem_cons.1 hx with rfl | hx
      · simp
      · simp [hx]
  · rcases List.mem_cons.1 hx with rfl | hx
    · exact h.low.2.2 _ (by simp)
    · exact h.low.2.2 _ (List.mem_cons_of_mem _ ((bX hi).1 hx))
  · have hw := h.ok.wf _ (List.mem_map.2 ⟨_, aK (d := 0) hi, rfl⟩)
    have hi' : i < (bs.map ky).length := by rw [List.length_map]; exact hi
    rw [List.map_cons, wo_map, ← getD_map ky bs 0 ky0 hi]
    exact (h.ok.wo i).cons (wo_not h.ok.one hi') (h.ok.lt hi') (h.ok.wf _ (aK hi'))
def TchPostF (B : Nat → Prop) (p room : Nat) (k : Int) (L : List Ky) (w : World) (e : Ending) (w' : World) : Prop := e = .returned (.tuple #[.int .i64 (tchG room k L), .bool (tchW room k L), .int .i64 (tchE room k L)]) ∧ PLF w' B p room (tchS room k L) ∧ TurnPF B w w'
set_option maxHeartbeats 1000000 in
theorem touch_hitF (w : World) (h : PLuF w B p room E bm bs ky pv nx M) (hw : (Lit.int .i64 k).wf = true) (hi : plc k (bs.map ky) < bs.length) :
    Calls Try.prog 40 #[.pointer (some ⟨p, 0, none⟩), .int .i64 k] w (TchPostF B p room k (bs.map ky) w) := by
  obtain ⟨i, hpi⟩ : ∃ i, plc k (bs.map ky) = i := ⟨_, rfl⟩
  have hmk := h.at_key hi
  rw [hpi] at hi hmk
  obtain ⟨b, hb⟩ : ∃ b, bs.getD i 0 = b := ⟨_, rfl⟩
  rw [hb] at hmk
  have hbs : b ∈ bs := by rw [← hb]; exact aK hi
  have hm : b ∈ E :: bs := List.mem_cons_of_mem _ hbs
  have HL := Lib.hid h
  have HK : Hid ((Instr.lookup 61 (.map (some bm)) (.int .i64 k) false).run Try.prog w = .ok (.pointer (some ⟨b, 0, none⟩)) w) := Lib.hid (by have := h.map.look hw; rw [hmk] at this; exact this)
  have HLV := Lib.hid (p_leaveF (B := B) w h.lnk hm (h.pvm hm) (h.nxm hm) h.low.2.2)
  have HSG := Lib.hid (seg_wo h.seg h.one hi)
  have HI := Lib.hid hi
  have HB := Lib.hid hb
  have HPI := Lib.hid hpi
  clear h hi hb hm hbs hmk hpi hw
  go_enter Try.func40, Try.ntmps40
  go_wp2_with fail
  refine (bJ _ HL.out).mono ?_
  rintro e w1 ⟨rfl, rfl⟩
  go_upto_region 3 with fail
  refine wp_region_lit ?_
  refine af rfl (ah rfl (ev rfl)) ?_
  simp only [Act.put, aa, ac, ae]
  refine af rfl (ao rfl (ev rfl)) ?_
  simp only [Act.put, aa, ac, ae]
  refine af rfl (ai rfl (ev rfl) faLs2) ?_
  simp only [Act.put, aa, ac, ae]
  refine af rfl (aq rfl (ev rfl) (ldMp (HL.out).c2)) ?_
  simp only [Act.put, aa, ac, ae]
  refine af rfl (ah rfl (ev rfl)) ?_
  simp only [Act.put, aa, ac, ae]
  refine af rfl (aZ rfl (ev rfl) (ev rfl) HK.out) ?_
  simp only [Act.put, aa, ac, ae]
  refine af rfl (al rfl (ev rfl)) ?_
  simp only [Act.put, aa, ac, ae]
  refine wpList_nil ?_
  go_upto_region 4 with fail
  refine wp_region_lit ?_
  refine af rfl (ah rfl (ev rfl)) ?_
  simp only [Act.put, aa, ac, ae]
  refine af (v := .bool true) rfl (bb true Try.underlying58 rfl (ev rfl) evk rfl) ?_
  simp only [Act.put, aa, ac, ae]
  refine wpList_nil ?_
  go_upto_region 5 with fail
  refine wp_region_lit ?_
  refine af rfl (ah rfl (ev rfl)) ?_
  simp only [Act.put, aa, ac, ae]
  refine aj rfl (ar Try.call61 rfl (evc (ev rfl) evn)) ?_
  refine HLV.out.mono ?_
  rintro e w1 ⟨rfl, hl1, ht1⟩
  refine ⟨_, rfl, ?_⟩
  simp only [Act.put, aa, ac, ae]
  refine wpList_nil ?_
  have hat : w1.heap[p]? = some (.cells #[.int .i64 (room : Int), ptB E, .map (some bm)] 63 (0, 0)) := ht1.keep HL.out.at_ (by show ¬ (63 = 60); decide)
  have hsg := HSG.out
  rw [HB.out] at hsg
  have hnw : b ∉ E :: wo bs i := fun e => by
    have hd := List.nodup_cons.1 HL.out.one
    rcases List.mem_cons.1 e with e | e
    · exact hd.1 (by rw [← e, ← HB.out]; exact aK HI.out)
    · exact not_wo hd.2 HI.out (by rw [HB.out]; exact e)
  have hod : (E :: wo bs i).Nodup := HL.out.one.sublist ((wo_sub bs i).cons_cons _)
  have hsub : ∀ x, x ∈ E :: wo bs i → x ∈ E :: bs := fun x hx => by
    rcases List.mem_cons.1 hx with rfl | hx
    · simp
    · exact List.mem_cons_of_mem _ ((wo_sub bs i).subset hx)
  have hbs : b ∈ bs := by rw [← HB.out]; exact aK HI.out
  have hnxm : aR nx (pv b) (nx b) E ∈ E :: wo bs i := by
    rcases List.mem_append.1 (seg_nx hsg) with e | e
    · exact List.mem_cons_of_mem _ e
    · simp at e; rw [e]; simp
  have HF := Lib.hid (p_followF (B := B) (E := E) w1 (ky b) _ _ (hl1.sub hsub) (hl1 b (List.mem_cons_of_mem _ hbs)) hnw (by simp) hnxm (fun x hx => HL.out.low.2.2 x (hsub x hx)) (HL.out.low.2.2 b (List.mem_cons_of_mem _ hbs)))
  have HS2 := Lib.hid (seg_follow hsg hod hnw)
  have HC1 := Lib.hid (cells3 hat).2.1
  have HAT := Lib.hid hat
  have HT := Lib.hid ht1
  clear hat hsg hnw hod hsub hbs hnxm hl1 ht1
  go_upto_region 6 with fail
  refine wp_region_lit ?_
  refine af rfl (ah rfl (ev rfl)) ?_
  simp only [Act.put, aa, ac, ae]
  refine af rfl (ah rfl (ev rfl)) ?_
  simp only [Act.put, aa, ac, ae]
  refine af rfl (ao rfl (ev rfl)) ?_
  simp only [Act.put, aa, ac, ae]
  refine af rfl (ai rfl (ev rfl) faLs1) ?_
  simp only [Act.put, aa, ac, ae]
  refine af rfl (aq rfl (ev rfl) (ldNd HC1.out)) ?_
  simp only [Act.put, aa, ac, ae]
  refine aj rfl (ar Try.call62 rfl (evc (ev rfl) (evc (ev rfl) evn))) ?_
  refine HF.out.mono ?_
  rintro e w2 ⟨rfl, hl2, ht2⟩
  refine ⟨_, rfl, ?_⟩
  simp only [Act.put, aa, ac, ae]
  refine wpList_nil ?_
  go_wp2_with fail
  go_ret3
  rw [put1_same] at hl2
  have hnd : ∀ es c, ¬ isNd (.map es c) := fun _ _ e => e
  have hat2 := ht2.keep HAT.out (by show ¬ (63 = 60); decide)
  have hmp : a8 w2 bm bs.length M := HL.out.map.kept fun es c hb => ht2.keep (HT.out.keep hb (hnd es c)) (hnd es c)
  have hs2 := HS2.out
  rw [← HB.out] at hl2 hs2
  have hp := HL.out.front HI.out hat2 hl2 hs2 hmp
  have hi' : plc k (bs.map ky) < (bs.map ky).length := by rw [HPI.out, List.length_map]; exact HI.out
  refine ⟨?_, ⟨E, bm, _, ky, _, _, M, hp, ?_⟩, (HT.out.trans ht2).widen nd_pl⟩
  · unfold tchG tchW tchE
    rw [if_pos hi', if_pos hi', if_pos hi']
    rfl
  · unfold tchS
    rw [if_pos hi', HPI.out, List.map_cons, wo_map, getD_map ky bs 0 ky0 HI.out]
set_option maxHeartbeats 1000000 in
theorem touch_roomF (w : World) (hup : ∀ b, w.heap.size ≤ b → B b) (h : PLuF w B p room E bm bs ky pv nx M) (hw : (Lit.int .i64 k).wf = true) (hi : ¬ plc k (bs.map ky) < bs.length) (hl : bs.length < room) :
    Calls Try.prog 40 #[.pointer (some ⟨p, 0, none⟩), .int .i64 k] w (TchPostF B p room k (bs.map ky) w) := by
  have hmk := h.no_key hw hi
  have hlen : (bs.map ky).length = bs.length := List.length_map _
  have hle := h.ok.len
  rw [hlen] at hle
  have HI' : Hid (¬ plc k (bs.map ky) < (bs.map ky).length) := Lib.hid (by rw [hlen]; exact hi)
  have HLN := Lib.hid hlen
  have HL := Lib.hid h
  have HUP := Lib.hid hup
  clear hup
  have HK : Hid ((Instr.lookup 61 (.map (some bm)) (.int .i64 k) false).run Try.prog w = .ok (.pointer none) w) := Lib.hid (by have := h.map.look hw; rw [hmk] at this; exact this)
  have HI := Lib.hid hi
  have HW := Lib.hid hw
  have HLT := Lib.hid hl
  have HEQ : Hid (((bs.length : Int) == (room : Int)) = false) := Lib.hid (by simp; omega)
  clear hl
  clear h hi hmk hw hlen hle
  go_enter Try.func40, Try.ntmps40
  go_wp2_with fail
  refine (bJ _ HL.out).mono ?_
  rintro e w1 ⟨rfl, rfl⟩
  go_upto_region 3 with fail
  refine wp_region_lit ?_
  refine af rfl (ah rfl (ev rfl)) ?_
  simp only [Act.put, aa, ac, ae]
  refine af rfl (ao rfl (ev rfl)) ?_
  simp only [Act.put, aa, ac, ae]
  refine af rfl (ai rfl (ev rfl) faLs2) ?_
  simp only [Act.put, aa, ac, ae]
  refine af rfl (aq rfl (ev rfl) (ldMp (HL.out).c2)) ?_
  simp only [Act.put, aa, ac, ae]
  refine af rfl (ah rfl (ev rfl)) ?_
  simp only [Act.put, aa, ac, ae]
  refine af rfl (aZ rfl (ev rfl) (ev rfl) HK.out) ?_
  simp only [Act.put, aa, ac, ae]
  refine af rfl (al rfl (ev rfl)) ?_
  simp only [Act.put, aa, ac, ae]
  refine wpList_nil ?_
  go_upto_region 4 with fail
  refine wp_region_lit ?_
  refine af rfl (ah rfl (ev rfl)) ?_
  simp only [Act.put, aa, ac, ae]
  refine af (v := .bool false) rfl (bb false Try.underlying58 rfl (ev rfl) evk rfl) ?_
  simp only [Act.put, aa, ac, ae]
  refine wpList_nil ?_
  go_upto_region 8 with fail
  refine aN (B := w.heap.size) (by kernel_rfl) ?_
  refine av rfl (fun w' hw => ah rfl (ev rfl)) ?_
  simp only [Act.put, aa, ac, ae]
  refine av rfl (fun w' hw => ao rfl (ev rfl)) ?_
  simp only [Act.put, aa, ac, ae]
  refine av rfl (fun w' hw => ai rfl (ev rfl) faLs2) ?_
  simp only [Act.put, aa, ac, ae]
  refine av rfl (fun w' hw => aq rfl (ev rfl) (ldMp (HL.out.below hw).c2)) ?_
  simp only [Act.put, aa, ac, ae]
  refine av rfl (fun w' hw => exec_lenM rfl (ev rfl) (HL.out.below hw).map) ?_
  simp only [Act.put, aa, ac, ae]
  refine av rfl (fun w' hw => ah rfl (ev rfl)) ?_
  simp only [Act.put, aa, ac, ae]
  refine av rfl (fun w' hw => ao rfl (ev rfl)) ?_
  simp only [Act.put, aa, ac, ae]
  refine av rfl (fun w' hw => ai rfl (ev rfl) faLs0) ?_
  simp only [Act.put, aa, ac, ae]
  refine av rfl (fun w' hw => aq rfl (ev rfl) (bn (HL.out.below hw).c0)) ?_
  simp only [Act.put, aa, ac, ae]
  refine av (v := .bool false) rfl (fun w' hw => ay false rfl (ev rfl) (ev rfl) HEQ.out) ?_
  simp only [Act.put, aa, ac, ae]
  refine wpQuiet_nil ?_
  intro w2 hw2
  have HL2 := Lib.hid (HL.out.below hw2)
  have HT2 := Lib.hid (aB.of_below (I := isPl) (F := B) hw2)
  clear hw2
  go_upto_region 14 with fail
  refine wp_region_lit ?_
  refine af rfl (ah rfl (ev rfl)) ?_
  simp only [Act.put, aa, ac, ae]
  refine af rfl (ah rfl (ev rfl)) ?_
  simp only [Act.put, aa, ac, ae]
  refine aj rfl (ar Try.call65 rfl (evc (ev rfl) (evc (ev rfl) evn))) ?_
  refine (p_addF w2 (HUP.out _ HT2.out.size) HL2.out HI.out HLT.out HW.out).mono ?_
  rintro e w3 ⟨rfl, ⟨n, ky', pv', nx', M', h3, e3⟩, ht3⟩
  refine ⟨_, rfl, ?_⟩
  simp only [Act.put, aa, ac, ae]
  refine wpList_nil ?_
  go_wp2_with fail
  go_ret3
  refine ⟨?_, ⟨E, bm, _, ky', pv', nx', M', h3, ?_⟩, HT2.out.trans ht3⟩
  · unfold tchG tchW tchE
    rw [if_neg HI'.out, if_neg HI'.out, if_neg HI'.out, HLN.out, if_pos HLT.out, if_pos HLT.out, if_pos HLT.out]
    rfl
  · unfold tchS
    rw [e3, if_neg HI'.out, HLN.out, if_pos HLT.out]
set_option maxHeartbeats 1000000 in
theorem touch_fullF (w : World) (h : PLuF w B p room E bm bs ky pv nx M) (hw : (Lit.int .i64 k).wf = true) (hi : ¬ plc k (bs.map ky) < bs.length) (hl : ¬ bs.length < room) (hu : lu (bs.map ky) = 0) :
    Calls Try.prog 40 #[.pointer (some ⟨p, 0, none⟩), .int .i64 k] w (TchPostF B p room k (bs.map ky) w) := by
  have hmk := h.no_key hw hi
  have hlen : (bs.map ky).length = bs.length := List.length_map _
  have hle := h.ok.len
  rw [hlen] at hle
  have HI' : Hid (¬ plc k (bs.map ky) < (bs.map ky).length) := Lib.hid (by rw [hlen]; exact hi)
  have HLN := Lib.hid hlen
  have HL := Lib.hid h
  have HK : Hid ((Instr.lookup 61 (.map (some bm)) (.int .i64 k) false).run Try.prog w = .ok (.pointer none) w) := Lib.hid (by have := h.map.look hw; rw [hmk] at this; exact this)
  have HI := Lib.hid hi
  have HW := Lib.hid hw
  have HLT : Hid (¬ bs.length < room) := Lib.hid hl
  have HEQ : Hid (((bs.length : Int) == (room : Int)) = true) := Lib.hid (by simp; omega)
  have HU := Lib.hid hu
  clear hl hu
  clear h hi hmk hw hlen hle
  go_enter Try.func40, Try.ntmps40
  go_wp2_with fail
  refine (bJ _ HL.out).mono ?_
  rintro e w1 ⟨rfl, rfl⟩
  go_upto_region 3 with fail
  refine wp_region_lit ?_
  refine af rfl (ah rfl (ev rfl)) ?_
  simp only [Act.put, aa, ac, ae]
  refine af rfl (ao rfl (ev rfl)) ?_
  simp only [Act.put, aa, ac, ae]
  refine af rfl (ai rfl (ev rfl) faLs2) ?_
  simp only [Act.put, aa, ac, ae]
  refine af rfl (aq rfl (ev rfl) (ldMp (HL.out).c2)) ?_
  simp only [Act.put, aa, ac, ae]
  refine af rfl (ah rfl (ev rfl)) ?_
  simp only [Act.put, aa, ac, ae]
  refine af rfl (aZ rfl (ev rfl) (ev rfl) HK.out) ?_
  simp only [Act.put, aa, ac, ae]
  refine af rfl (al rfl (ev rfl)) ?_
  simp only [Act.put, aa, ac, ae]
  refine wpList_nil ?_
  go_upto_region 4 with fail
  refine wp_region_lit ?_
  refine af rfl (ah rfl (ev rfl)) ?_
  simp only [Act.put, aa, ac, ae]
  refine af (v := .bool false) rfl (bb false Try.underlying58 rfl (ev rfl) evk rfl) ?_
  simp only [Act.put, aa, ac, ae]
  refine wpList_nil ?_
  go_upto_region 8 with fail
  refine aN (B := w.heap.size) (by kernel_rfl) ?_
  refine av rfl (fun w' hw => ah rfl (ev rfl)) ?_
  simp only [Act.put, aa, ac, ae]
  refine av rfl (fun w' hw => ao rfl (ev rfl)) ?_
  simp only [Act.put, aa, ac, ae]
  refine av rfl (fun w' hw => ai rfl (ev rfl) faLs2) ?_
  simp only [Act.put, aa, ac, ae]
  refine av rfl (fun w' hw => aq rfl (ev rfl) (ldMp (HL.out.below hw).c2)) ?_
  simp only [Act.put, aa, ac, ae]
  refine av rfl (fun w' hw => exec_lenM rfl (ev rfl) (HL.out.below hw).map) ?_
  simp only [Act.put, aa, ac, ae]
  refine av rfl (fun w' hw => ah rfl (ev rfl)) ?_
  simp only [Act.put, aa, ac, ae]
  refine av rfl (fun w' hw => ao rfl (ev rfl)) ?_
  simp only [Act.put, aa, ac, ae]
  refine av rfl (fun w' hw => ai rfl (ev rfl) faLs0) ?_
  simp only [Act.put, aa, ac, ae]
  refine av rfl (fun w' hw => aq rfl (ev rfl) (bn (HL.out.below hw).c0)) ?_
  simp only [Act.put, aa, ac, ae]
  refine av (v := .bool true) rfl (fun w' hw => ay true rfl (ev rfl) (ev rfl) HEQ.out) ?_
  simp only [Act.put, aa, ac, ae]
  refine wpQuiet_nil ?_
  intro w2 hw2
  have HL2 := Lib.hid (HL.out.below hw2)
  have HT2 := Lib.hid (aB.of_below (I := isPl) (F := B) hw2)
  clear hw2
  go_upto_region 9 with fail
  refine wp_region_lit ?_
  refine af rfl (ah rfl (ev rfl)) ?_
  simp only [Act.put, aa, ac, ae]
  refine aj rfl (ar Try.call63 rfl (evc (ev rfl) evn)) ?_
  refine (p_loose_noF w2 HL2.out HU.out).mono ?_
  rintro e w3 ⟨rfl, rfl⟩
  refine ⟨_, rfl, ?_⟩
  simp only [Act.put, aa, ac, ae]
  refine af rfl (al rfl (ev rfl)) ?_
  simp only [Act.put, aa, ac, ae]
  refine wpList_nil ?_
  go_upto_region 10 with fail
  refine wp_region_lit ?_
  refine af rfl (ah rfl (ev rfl)) ?_
  simp only [Act.put, aa, ac, ae]
  refine af (v := .bool true) rfl (bj true Try.underlying58 rfl (ev rfl) evk rfl) ?_
  simp only [Act.put, aa, ac, ae]
  refine wpList_nil ?_
  go_wp2_with fail
  go_ret3
  refine ⟨?_, ⟨E, bm, bs, ky, pv, nx, M, HL2.out, ?_⟩, HT2.out⟩
  · unfold tchG tchW tchE
    rw [if_neg HI'.out, if_neg HI'.out, if_neg HI'.out, HLN.out, if_neg HLT.out, if_neg HLT.out, if_neg HLT.out, if_pos HU.out, if_pos HU.out, if_pos HU.out]
    rfl
  · unfold tchS
    rw [if_neg HI'.out, HLN.out, if_neg HLT.out, if_pos HU.out]
set_option maxHeartbeats 1000000 in
theorem touch_goesF (w : World) (hup : ∀ b, w.heap.size ≤ b → B b) (h : PLuF w B p room E bm bs ky pv nx M) (hw : (Lit.int .i64 k).wf = true) (hi : ¬ plc k (bs.map ky) < bs.length) (hl : ¬ bs.length < room) {j : Nat} (hu : lu (bs.map ky) = j + 1) :
    Calls Try.prog 40 #[.pointer (some ⟨p, 0, none⟩), .int .i64 k] w (TchPostF B p room k (bs.map ky) w) := by
  have hmk := h.no_key hw hi
  have hlen : (bs.map ky).length = bs.length := List.length_map _
  have hle := h.ok.len
  rw [hlen] at hle
  have HI' : Hid (¬ plc k (bs.map ky) < (bs.map ky).length) := Lib.hid (by rw [hlen]; exact hi)
  have HLN := Lib.hid hlen
  have HL := Lib.hid h
  have HUP := Lib.hid hup
  clear hup
  have HK : Hid ((Instr.lookup 61 (.map (some bm)) (.int .i64 k) false).run Try.prog w = .ok (.pointer none) w) := Lib.hid (by have := h.map.look hw; rw [hmk] at this; exact this)
  have HI := Lib.hid hi
  have HW := Lib.hid hw
  have HLT : Hid (¬ bs.length < room) := Lib.hid hl
  have HEQ : Hid (((bs.length : Int) == (room : Int)) = true) := Lib.hid (by simp; omega)
  have hj : j < bs.length := by have := lu_le (bs.map ky); omega
  obtain ⟨b, hb⟩ : ∃ b, bs.getD j 0 = b := ⟨_, rfl⟩
  have HU := Lib.hid hu
  have HU0 : Hid (¬ lu (bs.map ky) = 0) := Lib.hid (by omega)
  have HJ := Lib.hid hj
  have HB := Lib.hid hb
  have HI3 : Hid (¬ plc k ((wo bs j).map ky) < (wo bs j).length) := Lib.hid fun e => by
    have e1 : k ∈ keyL ((wo bs j).map ky) := plc_mem.1 (by rw [List.length_map]; exact e)
    have e2 : plc k (bs.map ky) < (bs.map ky).length := plc_mem.2 ((((wo_sub bs j).map ky).map Ky.n).subset e1)
    exact HI'.out e2
  have HLT3 : Hid ((wo bs j).length < room) := Lib.hid (by have := wo_len hj; omega)
  clear hl hu hj hb
  clear h hi hmk hw hlen hle
  go_enter Try.func40, Try.ntmps40
  go_wp2_with fail
  refine (bJ _ HL.out).mono ?_
  rintro e w1 ⟨rfl, rfl⟩
  go_upto_region 3 with fail
  refine wp_region_lit ?_
  refine af rfl (ah rfl (ev rfl)) ?_
  simp only [Act.put, aa, ac, ae]
  refine af rfl (ao rfl (ev rfl)) ?_
  simp only [Act.put, aa, ac, ae]
  refine af rfl (ai rfl (ev rfl) faLs2) ?_
  simp only [Act.put, aa, ac, ae]
  refine af rfl (aq rfl (ev rfl) (ldMp (HL.out).c2)) ?_
  simp only [Act.put, aa, ac, ae]
  refine af rfl (ah rfl (ev rfl)) ?_
  simp only [Act.put, aa, ac, ae]
  refine af rfl (aZ rfl (ev rfl) (ev rfl) HK.out) ?_
  simp only [Act.put, aa, ac, ae]
  refine af rfl (al rfl (ev rfl)) ?_
  simp only [Act.put, aa, ac, ae]
  refine wpList_nil ?_
  go_upto_region 4 with fail
  refine wp_region_lit ?_
  refine af rfl (ah rfl (ev rfl)) ?_
  simp only [Act.put, aa, ac, ae]
  refine af (v := .bool false) rfl (bb false Try.underlying58 rfl (ev rfl) evk rfl) ?_
  simp only [Act.put, aa, ac, ae]
  refine wpList_nil ?_
  go_upto_region 8 with fail
  refine aN (B := w.heap.size) (by kernel_rfl) ?_
  refine av rfl (fun w' hw => ah rfl (ev rfl)) ?_
  simp only [Act.put, aa, ac, ae]
  refine av rfl (fun w' hw => ao rfl (ev rfl)) ?_
  simp only [Act.put, aa, ac, ae]
  refine av rfl (fun w' hw => ai rfl (ev rfl) faLs2) ?_
  simp only [Act.put, aa, ac, ae]
  refine av rfl (fun w' hw => aq rfl (ev rfl) (ldMp (HL.out.below hw).c2)) ?_
  simp only [Act.put, aa, ac, ae]
  refine av rfl (fun w' hw => exec_lenM rfl (ev rfl) (HL.out.below hw).map) ?_
  simp only [Act.put, aa, ac, ae]
  refine av rfl (fun w' hw => ah rfl (ev rfl)) ?_
  simp only [Act.put, aa, ac, ae]
  refine av rfl (fun w' hw => ao rfl (ev rfl)) ?_
  simp only [Act.put, aa, ac, ae]
  refine av rfl (fun w' hw => ai rfl (ev rfl) faLs0) ?_
  simp only [Act.put, aa, ac, ae]
  refine av rfl (fun w' hw => aq rfl (ev rfl) (bn (HL.out.below hw).c0)) ?_
  simp only [Act.put, aa, ac, ae]
  refine av (v := .bool true) rfl (fun w' hw => ay true rfl (ev rfl) (ev rfl) HEQ.out) ?_
  simp only [Act.put, aa, ac, ae]
  refine wpQuiet_nil ?_
  intro w2 hw2
  have HL2 := Lib.hid (HL.out.below hw2)
  have HT2 := Lib.hid (aB.of_below (I := isPl) (F := B) hw2)
  clear hw2
  go_upto_region 9 with fail
  refine wp_region_lit ?_
  refine af rfl (ah rfl (ev rfl)) ?_
  simp only [Act.put, aa, ac, ae]
  refine aj rfl (ar Try.call63 rfl (evc (ev rfl) evn)) ?_
  refine (p_loose_atF w2 HL2.out HU.out HB.out).mono ?_
  rintro e w3 ⟨rfl, rfl⟩
  refine ⟨_, rfl, ?_⟩
  simp only [Act.put, aa, ac, ae]
  refine af rfl (al rfl (ev rfl)) ?_
  simp only [Act.put, aa, ac, ae]
  refine wpList_nil ?_
  go_upto_region 10 with fail
  refine wp_region_lit ?_
  refine af rfl (ah rfl (ev rfl)) ?_
  simp only [Act.put, aa, ac, ae]
  refine af (v := .bool false) rfl (bj false Try.underlying58 rfl (ev rfl) evk rfl) ?_
  simp only [Act.put, aa, ac, ae]
  refine wpList_nil ?_
  go_upto_region 12 with fail
  refine wp_region_lit ?_
  refine af rfl (ah rfl (ev rfl)) ?_
  simp only [Act.put, aa, ac, ae]
  refine af rfl (ah rfl (ev rfl)) ?_
  simp only [Act.put, aa, ac, ae]
  refine aj rfl (ar Try.call64 rfl (evc (ev rfl) (evc (ev rfl) evn))) ?_
  refine (p_removeF w2 HL2.out HJ.out HB.out).mono ?_
  rintro e w3 ⟨rfl, ⟨pv', nx', M', h3⟩, ht3, u, v, hn3⟩
  refine ⟨_, rfl, ?_⟩
  simp only [Act.put, aa, ac, ae]
  refine wpList_nil ?_
  have HL3 := Lib.hid h3
  have HN3 := Lib.hid hn3
  have HT3 := Lib.hid (HT2.out.trans ht3)
  clear h3 hn3 ht3
  go_upto_region 13 with fail
  refine wp_region_lit ?_
  refine af rfl (ah rfl (ev rfl)) ?_
  simp only [Act.put, aa, ac, ae]
  refine af rfl (ao rfl (ev rfl)) ?_
  simp only [Act.put, aa, ac, ae]
  refine af rfl (ai rfl (ev rfl) faNd0) ?_
  simp only [Act.put, aa, ac, ae]
  refine af rfl (aq rfl (ev rfl) (bn (HN3.out).c0)) ?_
  simp only [Act.put, aa, ac, ae]
  refine af rfl (al rfl (ev rfl)) ?_
  simp only [Act.put, aa, ac, ae]
  refine af (v := .bool true) rfl (al rfl evk) ?_
  simp only [Act.put, aa, ac, ae]
  refine wpList_nil ?_
  go_upto_region 14 with fail
  refine wp_region_lit ?_
  refine af rfl (ah rfl (ev rfl)) ?_
  simp only [Act.put, aa, ac, ae]
  refine af rfl (ah rfl (ev rfl)) ?_
  simp only [Act.put, aa, ac, ae]
  refine aj rfl (ar Try.call65 rfl (evc (ev rfl) (evc (ev rfl) evn))) ?_
  refine (p_addF w3 (HUP.out _ HT3.out.size) HL3.out HI3.out HLT3.out HW.out).mono ?_
  rintro e w4 ⟨rfl, ⟨n, ky', pv4, nx4, M4, h4, e4⟩, ht4⟩
  refine ⟨_, rfl, ?_⟩
  simp only [Act.put, aa, ac, ae]
  refine wpList_nil ?_
  go_wp2_with fail
  go_ret3
  refine ⟨?_, ⟨E, bm, _, ky', pv4, nx4, M4, h4, ?_⟩, HT3.out.trans ht4⟩
  · unfold tchG tchW tchE
    rw [if_neg HI'.out, if_neg HI'.out, if_neg HI'.out, HLN.out, if_neg HLT.out, if_neg HLT.out, if_neg HLT.out, if_neg HU0.out, if_neg HU0.out, if_neg HU0.out, HU.out, Nat.add_sub_cancel, getD_map ky bs 0 ky0 HJ.out, HB.out]
    rfl
  · unfold tchS
    rw [e4, if_neg HI'.out, HLN.out, if_neg HLT.out, if_neg HU0.out, HU.out, Nat.add_sub_cancel, wo_map]
theorem pl_touchF (w : World) (hup : ∀ b, w.heap.size ≤ b → B b) (h : PLF w B p room L) (hw : (Lit.int .i64 k).wf = true) : Calls Try.prog 40 #[.pointer (some ⟨p, 0, none⟩), .int .i64 k] w (TchPostF B p room k L w) := by
  obtain ⟨E, bm, bs, ky, pv, nx, M, h, rfl⟩ := h
  by_cases hi : plc k (bs.map ky) < bs.length
  · exact touch_hitF w h hw hi
  · by_cases hl : bs.length < room
    · exact touch_roomF w hup h hw hi hl
    · rcases Nat.eq_zero_or_pos (lu (bs.map ky)) with hu | hu
      · exact touch_fullF w h hw hi hl hu
      · exact touch_goesF w hup h hw hi hl (j := lu (bs.map ky) - 1) (by omega)
theorem PLuF.find (w : World) (h : PLuF w B p room E bm bs ky pv nx M) (hw : (Lit.int .i64 k).wf = true) {i b : Nat} (hp : plc k (bs.map ky) = i) (hi : i < bs.length) (hb : bs.getD i 0 = b) : Calls Try.prog 34 #[.pointer (some ⟨p, 0, none⟩), .int .i64 k] w fun e w' => e = .returned (.tuple #[.pointer (some ⟨b, 0, none⟩), .int .i64 0]) ∧ w = w' :=
  p_find_hitF w h hw (by have := h.at_key (k := k) (by rw [hp]; exact hi); rw [hp, hb] at this; exact this)
theorem pin_noF (w : World) (h : PLuF w B p room E bm bs ky pv nx M) (hw : (Lit.int .i64 k).wf = true) (is : Bool) (hi : ¬ plc k (bs.map ky) < bs.length) :
    Calls Try.prog 25 #[.pointer (some ⟨p, 0, none⟩), .int .i64 k, .bool is] w fun e w' => e = .returned (.int .i64 (fndE k (bs.map ky))) ∧ PLF w' B p room (pinS k is (bs.map ky)) ∧ TurnPF B w w' := by
  have hi' : ¬ plc k (bs.map ky) < (bs.map ky).length := by rw [List.length_map]; exact hi
  have HI' := Lib.hid hi'
  have HF := Lib.hid (p_find_noF w h hw (h.no_key hw hi))
  have HL := Lib.hid h
  clear h hi hi' hw
  go_enter Try.func25, Try.ntmps25
  go_wp2_with fail
  refine HF.out.mono ?_
  rintro e w1 ⟨rfl, rfl⟩
  go_wp2_with fail
  go_ret
  refine ⟨by rw [fndE_no HI'.out]; rfl, ⟨E, bm, bs, ky, pv, nx, M, HL.out, ?_⟩, aB.refl _ _ _⟩
  unfold pinS
  rw [if_neg HI'.out]
theorem pin_hitF (w : World) (h : PLuF w B p room E bm bs ky pv nx M) (hw : (Lit.int .i64 k).wf = true) (is : Bool) (hi : plc k (bs.map ky) < bs.length) :
    Calls Try.prog 25 #[.pointer (some ⟨p, 0, none⟩), .int .i64 k, .bool is] w fun e w' => e = .returned (.int .i64 (fndE k (bs.map ky))) ∧ PLF w' B p room (pinS k is (bs.map ky)) ∧ TurnPF B w w' := by
  obtain ⟨i, hpi⟩ : ∃ i, plc k (bs.map ky) = i := ⟨_, rfl⟩
  rw [hpi] at hi
  obtain ⟨b, hb⟩ : ∃ b, bs.getD i 0 = b := ⟨_, rfl⟩
  have hbs : b ∈ bs := by rw [← hb]; exact aK hi
  have hi' : i < (bs.map ky).length := by rw [List.length_map]; exact hi
  have HL := Lib.hid h
  have HF := Lib.hid (h.find w hw hpi hi hb)
  have HI := Lib.hid hi
  have HI' := Lib.hid hi'
  have HB := Lib.hid hb
  have HBS := Lib.hid hbs
  have HPI := Lib.hid hpi
  have hkn : (ky b).n = k := by
    have := plc_at (k := k) (L := bs.map ky) (by rw [hpi]; exact hi')
    rw [hpi, getD_map ky bs 0 ky0 hi, hb] at this
    exact this
  have HKN := Lib.hid hkn
  have HN := Lib.hid (h.lnk b (List.mem_cons_of_mem _ hbs))
  clear hkn
  clear h hi hb hbs hpi hw hi'
  go_enter Try.func25, Try.ntmps25
  go_wp2_with fail
  refine HF.out.mono ?_
  rintro e w1 ⟨rfl, rfl⟩
  go_upto_region 4 with fail
  refine wp_region_lit ?_
  refine af rfl (ah rfl (ev rfl)) ?_
  simp only [Act.put, aa, ac, ae]
  refine af rfl (ah rfl (ev rfl)) ?_
  simp only [Act.put, aa, ac, ae]
  refine af rfl (ao rfl (ev rfl)) ?_
  simp only [Act.put, aa, ac, ae]
  refine af rfl (ai rfl (ev rfl) faNd1) ?_
  simp only [Act.put, aa, ac, ae]
  refine aA rfl (bi rfl (ev rfl) (ev rfl) (stBo HN.out.c1 (HN.out.fz 1))) ?_
  simp only [Act.put, aa, ac, ae]
  refine wpList_nil ?_
  go_wp2_with fail
  go_ret
  have hm : b ∈ E :: bs := List.mem_cons_of_mem _ HBS.out
  have hd := List.nodup_cons.1 HL.out.one
  have hmap : bs.map (aR ky b ⟨(ky b).n, is⟩) = (bs.map ky).set i ⟨k, is⟩ := by
    have := map_put1 (ky := ky) (x := ⟨(ky b).n, is⟩) hd.2 HI.out
    rw [HB.out] at this
    rw [this, HKN.out]
  have hpin : pinS k is (bs.map ky) = (bs.map ky).set i ⟨k, is⟩ := by unfold pinS; rw [HPI.out, if_pos HI'.out]
  have hkk : ∀ x, (aR ky b ⟨(ky b).n, is⟩ x).n = (ky x).n := fun x => by
    by_cases e : x = b
    · subst e; rw [aQ]
    · rw [aD _ _ e]
  have hB := HL.out.low.2.2 b hm
  have ht : TurnPF B w (w.setCell ⟨b, 1, none⟩ (.bool is)) := ((aB.refl isNd B w).node hB HN.out 1 (.bool is)).widen nd_pl
  have hoth : ∀ (c : Nat) (o : Obj), w.heap[c]? = some o → ¬ isNd o → (w.setCell ⟨b, 1, none⟩ (.bool is)).heap[c]? = some o := fun c o ho hn => ((aB.refl isNd B w).node hB HN.out 1 (.bool is)).keep ho hn
  refine ⟨by rw [fndE_hit HPI.out HI'.out]; rfl, ⟨E, bm, bs, aR ky b ⟨(ky b).n, is⟩, pv, nx, M, ⟨hoth _ _ HL.out.at_ (by show ¬ (63 = 60); decide), HL.out.lnk.s1 is hm, HL.out.seg, HL.out.one, HL.out.map.kept fun es c hb => hoth _ _ hb fun e => e, fun x hx => by rw [hkk]; exact HL.out.hit x hx, fun j x hj hx => by rw [hkk]; exact HL.out.who j x hj hx, HL.out.low, ?_, HL.out.rm⟩, by rw [hmap, hpin]⟩, ht⟩
  rw [hmap, ← hpin]
  exact HL.out.ok.pin
theorem pinned_noF (w : World) (h : PLuF w B p room E bm bs ky pv nx M) (hw : (Lit.int .i64 k).wf = true) (hi : ¬ plc k (bs.map ky) < bs.length) :
    Calls Try.prog 20 #[.pointer (some ⟨p, 0, none⟩), .int .i64 k] w fun e w' => e = .returned (.bool (pndK k (bs.map ky))) ∧ w = w' := by
  have hr : pndK k (bs.map ky) = false := by unfold pndK; rw [List.length_map, decide_eq_false hi]; rfl
  have HF := Lib.hid (p_find_noF w h hw (h.no_key hw hi))
  rw [hr]
  clear h hi hw hr
  go_enter Try.func20, Try.ntmps20
  go_wp2_with fail
  refine HF.out.mono ?_
  rintro e w1 ⟨rfl, rfl⟩
  go_wp2_with fail
  go_ret
  exact ⟨rfl, rfl⟩
theorem pinned_hitF (w : World) (h : PLuF w B p room E bm bs ky pv nx M) (hw : (Lit.int .i64 k).wf = true) (hi : plc k (bs.map ky) < bs.length) :
    Calls Try.prog 20 #[.pointer (some ⟨p, 0, none⟩), .int .i64 k] w fun e w' => e = .returned (.bool (pndK k (bs.map ky))) ∧ w = w' := by
  obtain ⟨i, hpi⟩ : ∃ i, plc k (bs.map ky) = i := ⟨_, rfl⟩
  rw [hpi] at hi
  obtain ⟨b, hb⟩ : ∃ b, bs.getD i 0 = b := ⟨_, rfl⟩
  have hbs : b ∈ bs := by rw [← hb]; exact aK hi
  have hi' : i < (bs.map ky).length := by rw [List.length_map]; exact hi
  have HL := Lib.hid h
  have HF := Lib.hid (h.find w hw hpi hi hb)
  have HI := Lib.hid hi
  have HI' := Lib.hid hi'
  have HB := Lib.hid hb
  have HBS := Lib.hid hbs
  have HPI := Lib.hid hpi
  have HN := Lib.hid (h.lnk b (List.mem_cons_of_mem _ hbs))
  have hr : pndK k (bs.map ky) = (ky b).pin := by unfold pndK; rw [hpi, decide_eq_true hi', getD_map ky bs 0 ky0 hi, hb]; rfl
  rw [hr]
  clear hr
  clear h hi hb hbs hpi hw hi'
  go_enter Try.func20, Try.ntmps20
  go_wp2_with fail
  refine HF.out.mono ?_
  rintro e w1 ⟨rfl, rfl⟩
  go_upto_region 2 with fail
  refine wp_region_lit ?_
  refine af rfl (ah rfl (ev rfl)) ?_
  simp only [Act.put, aa, ac, ae]
  refine af (v := .bool true) rfl (ay true rfl (ev rfl) evk rfl) ?_
  simp only [Act.put, aa, ac, ae]
  refine af (v := .bool true) rfl (ah rfl (ev rfl)) ?_
  simp only [Act.put, aa, ac, ae]
  refine ak (am rfl rfl rfl rfl) (ah rfl (ev rfl)) ?_
  simp only [Act.put, aa, ac, ae]
  refine ak (am rfl rfl rfl rfl) (ao rfl (ev rfl)) ?_
  simp only [Act.put, aa, ac, ae]
  refine ak (am rfl rfl rfl rfl) (ai rfl (ev rfl) faNd1) ?_
  simp only [Act.put, aa, ac, ae]
  refine ak (am rfl rfl rfl rfl) (aq rfl (ev rfl) (ldBoL (HN.out).c1)) ?_
  simp only [Act.put, aa, ac, ae]
  refine af rfl (aY rfl (ev rfl) (ev rfl)) ?_
  simp only [Act.put, aa, ac, ae]
  refine af rfl (al rfl (ev rfl)) ?_
  simp only [Act.put, aa, ac, ae]
  refine wpList_nil ?_
  go_wp2_with fail
  go_ret
  exact ⟨rfl, rfl⟩
theorem pl_pinF (w : World) (h : PLF w B p room L) (hw : (Lit.int .i64 k).wf = true) (is : Bool) : Calls Try.prog 25 #[.pointer (some ⟨p, 0, none⟩), .int .i64 k, .bool is] w fun e w' => e = .returned (.int .i64 (fndE k L)) ∧ PLF w' B p room (pinS k is L) ∧ TurnPF B w w' := by
  obtain ⟨E, bm, bs, ky, pv, nx, M, h, rfl⟩ := h
  by_cases hi : plc k (bs.map ky) < bs.length
  · exact pin_hitF w h hw is hi
  · exact pin_noF w h hw is hi
theorem pl_pinnedF (w : World) (h : PLF w B p room L) (hw : (Lit.int .i64 k).wf = true) : Calls Try.prog 20 #[.pointer (some ⟨p, 0, none⟩), .int .i64 k] w fun e w' => e = .returned (.bool (pndK k L)) ∧ w = w' := by
  obtain ⟨E, bm, bs, ky, pv, nx, M, h, rfl⟩ := h
  by_cases hi : plc k (bs.map ky) < bs.length
  · exact pinned_hitF w h hw hi
  · exact pinned_noF w h hw hi
theorem pl_roomF (w : World) (h : PLF w B p room L) : Calls Try.prog 39 #[.pointer (some ⟨p, 0, none⟩)] w fun e w' => e = .returned (.int .i64 (room : Int)) ∧ w = w' := by
  obtain ⟨E, bm, bs, ky, pv, nx, M, h, rfl⟩ := h
  have HL := Lib.hid h
  clear h
  go_enter Try.func39, Try.ntmps39
  go_wp2_with fail
  refine (bJ _ HL.out).mono ?_
  rintro e w1 ⟨rfl, rfl⟩
  have c0 := HL.out.c0
  go_wp2_with fail
  go_ret
  exact ⟨rfl, rfl⟩
set_option maxHeartbeats 1000000 in
theorem pl_keysF (w : World) (h : PLF w B p room L) : Calls Try.prog 33 #[.pointer (some ⟨p, 0, none⟩)] w fun e w' => ∃ v, e = .returned v ∧ ax aH w' w.heap.size v (keyL L) ∧ Below w.heap.size w w' := by
  obtain ⟨E, bm, bs, ky, pv, nx, M, h, rfl⟩ := h
  have HL := Lib.hid h
  have HE := Lib.hid (h.lnk E (by simp))
  have HNV : Hid (∀ i, i ≤ bs.length → nx ((E :: bs).getD i 0) = (bs ++ [E]).getD i 0) := Lib.hid (seg_nxi h.seg)
  have HEV : Hid (nx E = (bs ++ [E]).getD 0 0) := Lib.hid (HNV.out 0 (Nat.zero_le _))
  have hd := List.nodup_cons.1 h.one
  have hone : (bs ++ [E]).Nodup := List.nodup_append.2 ⟨hd.2, by simp, fun x hx y hy e => by simp at hy; subst hy e; exact hd.1 hx⟩
  have HPS : Hid (∀ i, i ≤ bs.length → posn ((bs ++ [E]).getD i 0) (bs ++ [E]) = i) := Lib.hid fun i hi => posn_at hone (by simp; omega)
  have HNO := Lib.hid hd.1
  have HLE : Hid (bs.length ≤ 64) := Lib.hid (by have := h.ok.len; rw [List.length_map] at this; have := h.rm; omega)
  obtain ⟨j0, hj0, hz0⟩ := infNd
  have HJ := Lib.hid hj0
  have HZ := Lib.hid hz0
  have HLK := Lib.hid h.lnk
  have HKY : Hid (∀ i, i < bs.length → keyL ((bs.take i).map ky) ++ [(ky (bs.getD i 0)).n] = keyL ((bs.take (i + 1)).map ky)) := Lib.hid fun i hi => by
    have e0 : bs.getD i 0 = bs[i] := by simp [List.getD, hi]
    rw [List.take_succ_eq_append_getElem hi, e0]
    unfold keyL
    rw [List.map_append, List.map_append]
    rfl
  have HKL : Hid (∀ i, i ≤ bs.length → (keyL ((bs.take i).map ky)).length ≤ 64) := Lib.hid fun i hi => by have := HLE.out; unfold keyL; simp; omega
  clear h hj0 hz0 hd hone
  go_enter Try.func33, Try.ntmps33
  go_wp2_with fail
  refine (bJ _ HL.out).mono ?_
  rintro e w1 ⟨rfl, rfl⟩
  go_upto_region 4 with fail
  refine wp_region_lit ?_
  refine af rfl (ah rfl (ev rfl)) ?_
  simp only [Act.put, aa, ac, ae]
  refine af rfl (ao rfl (ev rfl)) ?_
  simp only [Act.put, aa, ac, ae]
  refine af rfl (ai rfl (ev rfl) faLs1) ?_
  simp only [Act.put, aa, ac, ae]
  refine af rfl (aq rfl (ev rfl) (ldNd (HL.out).c1)) ?_
  simp only [Act.put, aa, ac, ae]
  refine af rfl (ao rfl (ev rfl)) ?_
  simp only [Act.put, aa, ac, ae]
  refine af rfl (ai rfl (ev rfl) faNd3) ?_
  simp only [Act.put, aa, ac, ae]
  refine af rfl (aq rfl (ev rfl) (ldNd (HE.out).c3)) ?_
  simp only [Act.put, aa, ac, ae]
  refine af rfl (al rfl (ev rfl)) ?_
  simp only [Act.put, aa, ac, ae]
  refine wpList_nil ?_
  rw [HEV.out]
  go_wp2_with fail
  go_loopw [3, 4] (fun u v wr => ∃ i, i ≤ bs.length ∧ v = .pointer (some ⟨(bs ++ [E]).getD i 0, 0, none⟩) ∧ ax aH wr w.heap.size u (keyL ((bs.take i).map ky)) ∧ Below w.heap.size w wr) (fun _ v _ => bs.length - posn (blkOf v) (bs ++ [E]))
  case atStart => exact ⟨0, Nat.zero_le _, rfl, by rw [List.take_zero]; exact ax.nil _ _, Below.refl _ _⟩
  case round =>
    obtain ⟨i, hi, rfl, hm, hbl⟩ := hrel
    have HM := Lib.hid hm
    have HB := Lib.hid hbl
    clear hm hbl
    by_cases hlt : i < bs.length
    · obtain ⟨b, hb⟩ : ∃ b, bs.getD i 0 = b := ⟨_, rfl⟩
      have hbm : b ∈ bs := by rw [← hb]; exact aK hlt
      have hga : (bs ++ [E]).getD i 0 = b := by rw [← hb]; simp [List.getD, List.getElem?_append_left hlt]
      have HN := Lib.hid (HL.out.below HB.out).lnk
      have HNB := Lib.hid (HN.out b (List.mem_cons_of_mem _ hbm))
      have HNE : Hid (b ≠ E) := Lib.hid fun e => HNO.out (by rw [← e]; exact hbm)
      have HPB : Hid (nx b = (bs ++ [E]).getD (i + 1) 0) := Lib.hid (by
        have := HNV.out (i + 1) (by omega)
        rw [← this, ← hb]
        rfl)
      have HGA := Lib.hid hga
      have HBE := Lib.hid hb
      have HLT := Lib.hid hlt
      clear hb hbm hga hlt
      rw [HGA.out]
      go_upto_region 5 with fail
      refine wp_region_lit ?_
      refine af rfl (ah rfl (ev rfl)) ?_
      simp only [Act.put, aa, ac, ae]
      refine af rfl (ah rfl (ev rfl)) ?_
      simp only [Act.put, aa, ac, ae]
      refine af rfl (ao rfl (ev rfl)) ?_
      simp only [Act.put, aa, ac, ae]
      refine af rfl (ai rfl (ev rfl) faLs1) ?_
      simp only [Act.put, aa, ac, ae]
      refine af rfl (aq rfl (ev rfl) (ldNd ((HL.out.below HB.out)).c1)) ?_
      simp only [Act.put, aa, ac, ae]
      refine af (v := .bool true) rfl (exec_nePt true Try.underlying58 HJ.out HZ.out rfl (ev rfl) (ev rfl) HNB.out (HN.out E (by simp)) (by have := HNE.out; simp [this])) ?_
      simp only [Act.put, aa, ac, ae]
      refine wpList_nil ?_
      go_upto_region 7 with fail
      refine wp_region_lit ?_
      refine af rfl (ah rfl (ev rfl)) ?_
      simp only [Act.put, aa, ac, ae]
      refine af rfl (ah rfl (ev rfl)) ?_
      simp only [Act.put, aa, ac, ae]
      refine af rfl (ao rfl (ev rfl)) ?_
      simp only [Act.put, aa, ac, ae]
      refine af rfl (ai rfl (ev rfl) faNd0) ?_
      simp only [Act.put, aa, ac, ae]
      refine af rfl (aq rfl (ev rfl) (bn (HNB.out).c0)) ?_
      simp only [Act.put, aa, ac, ae]
      refine af rfl (exec_mk1E (E := aH) (a := (ky b).n) rfl (ev rfl) rfl (by decide)) ?_
      simp only [Act.put, aa, ac, ae]
      refine wpList_appE aH rfl _ _ rfl w.heap.size (wr.heap.size + 1) 1 1 _ (keyL ((bs.take i).map ky)) [(ky b).n] (some ⟨wr.heap.size, 0, none⟩) (ev rfl) (ev rfl) (HM.out.below ((Below.refl _ wr).alloc (Nat.le_refl _) _)) (rdE_new wr _ _ rfl) (by rw [World.size_alloc]; exact Nat.le_succ_of_le HB.out.size) (by have := HKL.out i hi; omega) ?_
      intro v' w2 hm2 hg2
      simp only [Act.put, aa, ac, ae]
      refine af rfl (al rfl (ev rfl)) ?_
      simp only [Act.put, aa, ac, ae]
      refine wpList_nil ?_
      have hky := HKY.out i HLT.out
      rw [HBE.out] at hky
      rw [hky] at hm2
      have HM2 := Lib.hid hm2
      have HB2 : Hid (Below w.heap.size w w2) := Lib.hid ((HB.out.alloc HB.out.size _).grown hg2 (by have := HB.out.size; simp; omega) fun j hj => HM.out.lt_own j hj)
      have HN2 := Lib.hid ((HL.out.below HB2.out).lnk b (List.mem_cons_of_mem _ (by rw [← HBE.out]; exact aK HLT.out)))
      clear hm2 hg2 hky
      go_upto_region 6 with fail
      refine wp_region_lit ?_
      refine af rfl (ah rfl (ev rfl)) ?_
      simp only [Act.put, aa, ac, ae]
      refine af rfl (ao rfl (ev rfl)) ?_
      simp only [Act.put, aa, ac, ae]
      refine af rfl (ai rfl (ev rfl) faNd3) ?_
      simp only [Act.put, aa, ac, ae]
      refine af rfl (aq rfl (ev rfl) (ldNd (HN2.out).c3)) ?_
      simp only [Act.put, aa, ac, ae]
      refine af rfl (al rfl (ev rfl)) ?_
      simp only [Act.put, aa, ac, ae]
      refine wpList_nil ?_
      rw [HPB.out]
      go_wp2_with fail
      go_roundw
      case rel => exact ⟨i + 1, HLT.out, rfl, HM2.out, HB2.out⟩
      case measure =>
        show bs.length - posn ((bs ++ [E]).getD (i + 1) 0) (bs ++ [E]) < bs.length - posn b (bs ++ [E])
        have h1 := HPS.out (i + 1) HLT.out
        have h2 := HPS.out i hi
        rw [HGA.out] at h2
        have := HLT.out
        omega
    · have hie : i = bs.length := by omega
      have HGA : Hid ((bs ++ [E]).getD i 0 = E) := Lib.hid (by rw [hie]; simp)
      have HN := Lib.hid ((HL.out.below HB.out).lnk E (by simp))
      have HTK : Hid (bs.take i = bs) := Lib.hid (by rw [hie, List.take_length])
      clear hie hlt
      rw [HGA.out]
      go_upto_region 5 with fail
      refine wp_region_lit ?_
      refine af rfl (ah rfl (ev rfl)) ?_
      simp only [Act.put, aa, ac, ae]
      refine af rfl (ah rfl (ev rfl)) ?_
      simp only [Act.put, aa, ac, ae]
      refine af rfl (ao rfl (ev rfl)) ?_
      simp only [Act.put, aa, ac, ae]
      refine af rfl (ai rfl (ev rfl) faLs1) ?_
      simp only [Act.put, aa, ac, ae]
      refine af rfl (aq rfl (ev rfl) (ldNd ((HL.out.below HB.out)).c1)) ?_
      simp only [Act.put, aa, ac, ae]
      refine af (v := .bool false) rfl (exec_nePt false Try.underlying58 HJ.out HZ.out rfl (ev rfl) (ev rfl) HN.out HN.out (by simp)) ?_
      simp only [Act.put, aa, ac, ae]
      refine wpList_nil ?_
      have hm := HM.out
      rw [HTK.out] at hm
      have HM2 := Lib.hid hm
      clear hm
      go_wp2_with fail
      go_ret
      exact ⟨_, rfl, HM2.out, HB.out⟩
end
set_option maxHeartbeats 1000000 in
theorem pl_newF (room : Nat) (w : World) (h1 : 1 ≤ room) (h2 : room ≤ 64) : Calls Try.prog 8 #[.int .i64 (room : Int)] w fun e w' => ∃ p, e = .returned (.tuple #[.pointer (some ⟨p, 0, none⟩), .int .i64 0]) ∧ PLF w' (fun b => w.heap.size ≤ b) p room [] ∧ Below w.heap.size w w' := by
  have hmm := @run_makeMap Try.prog
  have hd : decide ((room : Int) < 1) = false := decide_eq_false (by omega)
  have hd2 : decide (64 < (room : Int)) = false := decide_eq_false (by omega)
  go_enter Try.func8, Try.ntmps8
  go_wp2_with fail
  go_ret2
  have b1 : Below w.heap.size w (w.alloc (.cells (nodC ky0 (ptB w.heap.size) (ptB w.heap.size)).toArray 60)) := (Below.refl _ _).alloc (Nat.le_refl _) _
  have hb : Below w.heap.size w (((w.alloc (.cells (nodC ky0 (ptB w.heap.size) (ptB w.heap.size)).toArray 60)).alloc (.map #[] 0)).alloc (.cells #[.int .i64 (room : Int), ptB w.heap.size, .map (some (w.heap.size + 1))] 63)) :=
    (b1.alloc (by simp) _).alloc (by simp; omega) _
  refine ⟨_, rfl, ⟨w.heap.size, w.heap.size + 1, [], fun _ => ky0, fun _ => w.heap.size, fun _ => w.heap.size, fun _ => none, ⟨?_, fun b hb => ?_, ⟨rfl, rfl⟩, by simp, ?_, by simp, (fun k b _ e => by cases e), ⟨by omega, by omega, fun b hb => by simp at hb; omega⟩, LOk.nil, ⟨h1, h2⟩⟩, rfl⟩, hb⟩
  · have := heap_alloc_new ((w.alloc (.cells (nodC ky0 (ptB w.heap.size) (ptB w.heap.size)).toArray 60)).alloc (.map #[] 0)) (.cells #[.int .i64 (room : Int), ptB w.heap.size, .map (some (w.heap.size + 1))] 63)
    rw [World.size_alloc, World.size_alloc] at this
    exact this
  · simp at hb
    subst hb
    exact blk_past (blk_past (heap_alloc_new w _) _) _
  · have := a8.made (w.alloc (.cells (nodC ky0 (ptB w.heap.size) (ptB w.heap.size)).toArray 60))
    rw [World.size_alloc] at this
    exact this.kept fun es c hb => blk_past hb _
open Go.RowKit Go.ChangeShapes Go.WideShapes Go.ChangeAt Go.Deep
structure Act17 where
  Do : Int
  Mem : Int
  B : Blk
  Seq : Nat
structure LnI where
  P : World → Nat → Nat → LnS → Prop
  I : Obj → Prop
  keep : ∀ {w w' : World} {B p : Nat} {s : LnS}, P w B p s → (∀ (b : Nat) (o : Obj), w.heap[b]? = some o → I o → w'.heap[b]? = some o) → P w' B p s
  ok : ∀ {w : World} {B p : Nat} {s : LnS}, P w B p s → LnOk s ∧ B ≤ p ∧ p < w.heap.size
  rn : ∀ o, isRn o → ¬ I o
  new_ok : ∀ (N : Nat) (w : World), 1 ≤ N → N ≤ 16 → Calls Try.prog 41 #[.int .i64 (N : Int)] w fun e w' => ∃ p, e = .returned (.tuple #[.pointer (some ⟨p, 0, none⟩), .int .i64 0]) ∧ P w' w.heap.size p (bH N) ∧ Below w.heap.size w w'
  new_no : ∀ (n : Int) (w : World), ¬ (1 ≤ n ∧ n ≤ 16) → Calls Try.prog 41 #[.int .i64 n] w fun e w' => e = .returned (.tuple #[.pointer none, .int .i64 2]) ∧ Below w.heap.size w w'
  set_ : ∀ (w : World) (m : Int) (b : Blk) (Q : Nat) {B p : Nat} {s : LnS}, P w B p s → Q < 18446744073709551616 → Calls Try.prog 30 #[.pointer (some ⟨p, 0, none⟩), .int .i64 m, blk b, .int .u64 (Q : Int)] w fun e w' => e = .returned (.int .i64 (lnSE s m Q)) ∧ P w' B p (bv s m b Q) ∧ Turn I B w w'
  forget_ : ∀ (w : World) (m : Int) {B p : Nat} {s : LnS}, P w B p s → Calls Try.prog 32 #[.pointer (some ⟨p, 0, none⟩), .int .i64 m] w fun e w' => e = .returned (.int .i64 (lnE s m)) ∧ P w' B p (lnFrg s m) ∧ Turn I B w w'
  clean_ : ∀ (w : World)  {B p : Nat} {s : LnS}, P w B p s → Calls Try.prog 24 #[.pointer (some ⟨p, 0, none⟩)] w fun e w' => e = .returned (.int .i64 0) ∧ P w' B p (lnCln s) ∧ Turn I B w w'
  first_ : ∀ (w : World)  {B p : Nat} {s : LnS}, P w B p s → Calls Try.prog 22 #[.pointer (some ⟨p, 0, none⟩)] w fun e w' => e = .returned (.int .u64 (s.f : Int)) ∧ Below w.heap.size w w'
  members_ : ∀ (w : World)  {B p : Nat} {s : LnS}, P w B p s → Calls Try.prog 57 #[.pointer (some ⟨p, 0, none⟩)] w fun e w' => e = .returned (.int .i64 (s.l.length : Int)) ∧ Below w.heap.size w w'
  No : World → Value → Prop
  zc : List Value
  no_nil : ∀ w : World, No w (.pointer none)
  bld0 : ∀ w : World, (Instr.build 84 #[]).run Try.prog w = .ok (.agg zc.toArray) w
  no_zero : ∀ w : World, No (w.alloc (.cells zc.toArray 84)) (.pointer (some ⟨w.heap.size, 0, none⟩))
  no_below : ∀ {w w' : World} {v : Value}, No w v → Below w.heap.size w w' → No w' v
  no_set : ∀ (w : World) (v : Value) (m : Int) (b : Blk) (Q : Nat), No w v → Calls Try.prog 30 #[v, .int .i64 m, blk b, .int .u64 (Q : Int)] w fun e w' => e = .returned (.int .i64 1) ∧ Below w.heap.size w w'
  no_forget : ∀ (w : World) (v : Value) (m : Int), No w v → Calls Try.prog 32 #[v, .int .i64 m] w fun e w' => e = .returned (.int .i64 1) ∧ Below w.heap.size w w'
  no_clean : ∀ (w : World) (v : Value) , No w v → Calls Try.prog 24 #[v] w fun e w' => e = .returned (.int .i64 1) ∧ Below w.heap.size w w'
  no_first : ∀ (w : World) (v : Value) , No w v → Calls Try.prog 22 #[v] w fun e w' => e = .returned (.int .u64 0) ∧ Below w.heap.size w w'
  no_members : ∀ (w : World) (v : Value) , No w v → Calls Try.prog 57 #[v] w fun e w' => e = .returned (.int .i64 0) ∧ Below w.heap.size w w'
structure LnF where
  n : Int
  kn : Nat → Bool
  dt : Nat → Bool
  bl : Nat → Blk
  f : Int
def bM (x : LnF) (i : Nat) : Value :=
  if i = 0 then .int .i64 x.n
  else if i < 17 then .bool (x.kn (i - 1))
  else if i < 33 then .bool (x.dt (i - 17))
  else if i < 1057 then .int .u8 (byt (x.bl ((i - 33) / 64)) ((i - 33) % 64))
  else .int .u64 x.f
def lnCs (x : LnF) : List Value := (List.range 1058).map (bM x)
theorem bQ (x : LnF) : (lnCs x).length = 1058 := by simp [lnCs]
theorem lnCs_at (x : LnF) {i : Nat} (h : i < 1058) : (lnCs x)[i]? = some (bM x i) := by
  simp only [lnCs, List.getElem?_map, List.getElem?_range h, Option.map_some]
section
variable {x y : LnF} {k j : Nat}
theorem lncelK (hk : k < 16) : bM x (1 + k) = .bool (x.kn k) := by
  unfold bM
  rw [if_neg (by omega), if_pos (by omega), show 1 + k - 1 = k from by omega]
theorem lncelD (hk : k < 16) : bM x (17 + k) = .bool (x.dt k) := by
  unfold bM
  rw [if_neg (by omega), if_neg (by omega), if_pos (by omega), show 17 + k - 17 = k from by omega]
theorem lncelB (hk : k < 16) (hj : j < 64) : bM x (33 + k * 64 + j) = .int .u8 (byt (x.bl k) j) := by
  unfold bM
  rw [if_neg (by omega), if_neg (by omega), if_neg (by omega), if_pos (by omega), show (33 + k * 64 + j - 33) / 64 = k from by omega, show (33 + k * 64 + j - 33) % 64 = j from by omega]
def LnBut (o m : Nat) (x y : LnF) : Prop := ∀ i, i < 1058 → ¬ (o ≤ i ∧ i < o + m) → bM x i = bM y i
theorem lnCs_put {o : Nat} {vs : List Value} (h : ∀ j, j < vs.length → vs[j]? = some (bM y (o + j))) (h2 : LnBut o vs.length x y) (hm : o + vs.length ≤ 1058) : (lnCs x).take o ++ vs ++ (lnCs x).drop (o + vs.length) = lnCs y := by
  have hl : ((lnCs x).take o).length = o := by rw [List.length_take, bQ]; omega
  refine List.ext_getElem? fun i => ?_
  by_cases hi : i < 1058
  · rw [lnCs_at y hi, List.append_assoc]
    by_cases h1 : i < o
    · rw [List.getElem?_append_left (by omega), List.getElem?_take_of_lt h1, lnCs_at x hi, h2 i hi (by omega)]
    · rw [List.getElem?_append_right (by omega), hl]
      by_cases h3 : i < o + vs.length
      · rw [List.getElem?_append_left (by omega), h (i - o) (by omega), show o + (i - o) = i from by omega]
      · rw [List.getElem?_append_right (by omega), List.getElem?_drop, show o + vs.length + (i - o - vs.length) = i from by omega, lnCs_at x hi, h2 i hi (by omega)]
  · rw [List.getElem?_eq_none (by simp only [List.length_append, hl, List.length_drop, bQ]; omega), List.getElem?_eq_none (by rw [bQ]; omega)]
end
def LnA (w : World) (p : Nat) (x : LnF) : Prop := w.heap[p]? = some (.cells (lnCs x).toArray 84 (0, 0))
section
variable {w w' : World} {p o k : Nat} {x y : LnF} {vs : List Value}
theorem LnA.put (h : LnA w p x) (hv : ∀ j, j < vs.length → vs[j]? = some (bM y (o + j))) (h2 : LnBut o vs.length x y) (hm : o + vs.length ≤ 1058) : LnA (w.setCells p o vs) p y := by
  have hs : lnCs x = (lnCs x).take o ++ ((lnCs x).drop o).take vs.length ++ (lnCs x).drop (o + vs.length) := by
    rw [List.append_assoc, ← List.drop_drop, List.take_append_drop, List.take_append_drop]
  have h' := h
  unfold LnA at h'
  rw [hs] at h'
  have := heap_put p 84 _ vs _ _ w (by rw [List.length_take, List.length_drop, bQ]; omega) h'
  rw [lnCs_put hv h2 hm, List.length_take, bQ, Nat.min_eq_left (by omega)] at this
  exact this
theorem LnA.lt (h : LnA w p x) : p < w.heap.size := bN h
theorem LnA.fz (h : LnA w p x) (j : Nat) : w.frozen? ⟨p, j, none⟩ = false := frozen_of_row w p j _ _ h
theorem LnA.at_ (h : LnA w p x) {i : Nat} (hi : i < 1058) : w.cell? ⟨p, i, none⟩ = some (bM x i) := by
  have := (aL h) i _ (lnCs_at x hi)
  rwa [Nat.zero_add] at this
theorem LnA.there (h : LnA w p x) {o m : Nat} (hm : o + m ≤ 1058) : w.there p o m := fun i hi => ⟨by rw [h.at_ (by omega)]; rfl, h.fz _⟩
theorem LnA.cN (h : LnA w p x) : w.cell? ⟨p, 0, none⟩ = some (.int .i64 x.n) := h.at_ (i := 0) (by omega)
theorem LnA.cK (h : LnA w p x) (hk : k < 16) : w.cell? ⟨p, 1 + k, none⟩ = some (.bool (x.kn k)) := by rw [h.at_ (by omega), lncelK hk]
theorem LnA.cD (h : LnA w p x) (hk : k < 16) : w.cell? ⟨p, 17 + k, none⟩ = some (.bool (x.dt k)) := by rw [h.at_ (by omega), lncelD hk]
theorem LnA.cF (h : LnA w p x) : w.cell? ⟨p, 1057, none⟩ = some (.int .u64 x.f) := h.at_ (i := 1057) (by omega)
def updF {α : Type} (g : Nat → α) (k : Nat) (a : α) : Nat → α := fun j => if j = k then a else g j
theorem LnA.sK (h : LnA w p x) (hk : k < 16) (c : Bool) : LnA (w.setCell ⟨p, 1 + k, none⟩ (.bool c)) p { x with kn := updF x.kn k c } := by
  refine LnA.put (vs := [.bool c]) (o := 1 + k) h (fun j hj => ?_) (fun i hi hn => ?_) (by simp; omega)
  · have : j = 0 := by simpa using hj
    subst this
    rw [Nat.add_zero, lncelK hk]; simp [updF]
  · simp at hn
    unfold bM
    split
    · rfl
    · split
      · simp only [updF]; rw [if_neg (by omega)]
      · rfl
theorem LnA.sD (h : LnA w p x) (hk : k < 16) (c : Bool) : LnA (w.setCell ⟨p, 17 + k, none⟩ (.bool c)) p { x with dt := updF x.dt k c } := by
  refine LnA.put (vs := [.bool c]) (o := 17 + k) h (fun j hj => ?_) (fun i hi hn => ?_) (by simp; omega)
  · have : j = 0 := by simpa using hj
    subst this
    rw [Nat.add_zero, lncelD hk]; simp [updF]
  · simp at hn
    unfold bM
    split
    · rfl
    · split
      · rfl
      · split
        · simp only [updF]; rw [if_neg (by omega)]
        · rfl
theorem LnA.sB (h : LnA w p x) (hk : k < 16) (b : Blk) : LnA (w.setCells p (33 + k * 64) (cel b)) p { x with bl := updF x.bl k b } := by
  refine LnA.put h (fun j hj => ?_) (fun i hi hn => ?_) (by rw [bz]; omega)
  · rw [bz] at hj
    rw [lncelB hk hj, cel_at _ hj]; simp [updF]
  · rw [bz] at hn
    unfold bM
    split
    · rfl
    · split
      · rfl
      · split
        · rfl
        · split
          · simp only [updF]; rw [if_neg (by omega)]
          · rfl
theorem LnA.sF (h : LnA w p x) (q : Int) : LnA (w.setCell ⟨p, 1057, none⟩ (.int .u64 q)) p { x with f := q } := by
  refine LnA.put (vs := [.int .u64 q]) (o := 1057) h (fun j hj => ?_) (fun i hi hn => ?_) (by simp)
  · have : j = 0 := by simpa using hj
    subst this
    rfl
  · simp at hn
    unfold bM
    split
    · rfl
    · split
      · rfl
      · split
        · rfl
        · rw [if_pos (by omega), if_pos (by omega)]
def no16 : List Value := List.replicate 16 (.bool false)
theorem LnA.sD0 (h : LnA w p x) : LnA (w.setCells p 17 no16) p { x with dt := fun _ => false } := by
  refine LnA.put h (fun j hj => ?_) (fun i hi hn => ?_) (by simp [no16])
  · have hj' : j < 16 := by simpa [no16] using hj
    rw [lncelD hj']
    exact List.getElem?_replicate_of_lt hj'
  · simp [no16] at hn
    unfold bM
    split
    · rfl
    · split
      · rfl
      · split
        · omega
        · rfl
end
def lf (s : LnS) : LnF := ⟨(s.l.length : Int), fun k => (lnAt s k).kn, fun k => (lnAt s k).dt, fun k => (lnAt s k).b, (s.f : Int)⟩
def lf0 (n : Int) : LnF := ⟨n, fun _ => false, fun _ => false, fun _ => zeroB, 0⟩
theorem lnAt_set {s : LnS} {k : Nat} (hk : k < s.l.length) (a : LC) (f : Nat) (j : Nat) : lnAt ⟨s.l.set k a, f⟩ j = if j = k then a else lnAt s j := getD_set_ _ _ _ _ _ hk
theorem lf_set {s : LnS} {k : Nat} (hk : k < s.l.length) (a : LC) (f : Nat) : lf ⟨s.l.set k a, f⟩ = ⟨(s.l.length : Int), updF (lf s).kn k a.kn, updF (lf s).dt k a.dt, updF (lf s).bl k a.b, (f : Int)⟩ := by
  unfold lf
  simp only [LnF.mk.injEq, List.length_set, true_and, and_true]
  refine ⟨funext fun j => ?_, funext fun j => ?_, funext fun j => ?_⟩ <;> (rw [lnAt_set hk]; simp only [updF]; split <;> rfl)
theorem lf_cln (s : LnS) : lf (lnCln s) = { lf s with dt := fun _ => false, f := 0 } := by
  unfold lf
  simp only [LnF.mk.injEq, len_cln, true_and]
  refine ⟨funext fun j => ?_, funext fun j => ?_, funext fun j => ?_, rfl⟩ <;> rw [map_at] <;> rfl
theorem lf_new (n : Nat) : lf (bH n) = lf0 (n : Int) := by
  have h : ∀ j, lnAt (bH n) j = lc0 := fun j => by
    simp only [lnAt, bH, List.getD, List.getElem?_replicate]
    split <;> rfl
  unfold lf lf0
  simp only [LnF.mk.injEq]
  refine ⟨by simp [bH], funext fun j => by rw [h]; rfl, funext fun j => by rw [h]; rfl, funext fun j => by rw [h]; rfl, rfl⟩
end Go.Proofs.Ytdmhelalbemlcaa
