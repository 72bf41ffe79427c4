/-
  The program's list: New, Touch, Pin, Drop, Has, Pinned, Keys, Room.
-/
import Derived.Test.YtmnabdojlekjcaaLuC
import Derived.Test.YtmnabdojlekjcaaIntE
import Derived.Test.YtmnabdojlekjcaaEltOps
namespace Go.Proofs.Ytmnabdojlekjcaa
open Go.RowKit
set_option linter.unusedVariables false
set_option linter.unusedSimpArgs false
set_option maxRecDepth 100000

section
variable {w w' : World} {B p room E bm i : Nat} {bs : List Nat} {ky : Nat → Ky} {pv nx : Nat → Nat} {M : Int → Option Nat} {L : List Ky} {k : Int}
theorem PLu.below (h : PLu w B p room E bm bs ky pv nx M) (hb : Below w.heap.size w w') : PLu w' B p room E bm bs ky pv nx M := h.keep fun b o ho _ => blk_keep ho hb
theorem p_loose_no (w : World) (h : PLu w B p room E bm bs ky pv nx M) (h0 : lu (bs.map ky) = 0) : Calls Try.prog 30 #[.pointer (some ⟨p, 0, none⟩)] w fun e w' => e = .returned (.pointer none) ∧ w = w' :=
  (p_loose w h).mono fun e w' hh => by rw [lsB_none h0] at hh; exact hh
theorem p_loose_at (w : World) (h : PLu w B p room E bm bs ky pv nx M) {j b : Nat} (h0 : lu (bs.map ky) = j + 1) (hb : bs.getD j 0 = b) : Calls Try.prog 30 #[.pointer (some ⟨p, 0, none⟩)] w fun e w' => e = .returned (.pointer (some ⟨b, 0, none⟩)) ∧ w = w' :=
  (p_loose w h).mono fun e w' hh => by rw [lsB_some h0, hb] at hh; exact hh
theorem mem_cons_wo {x : Nat} (hi : i < bs.length) : x ∈ bs.getD i 0 :: wo bs i ↔ x ∈ bs := by
  constructor
  · intro h
    rcases List.mem_cons.1 h with rfl | h
    · exact getD_mem hi
    · exact (wo_sub bs i).subset h
  · intro h
    by_cases e : x = bs.getD i 0
    · rw [e]; simp
    · exact List.mem_cons_of_mem _ (mem_wo hi h e)
/-- One that was taken out comes in again, the first. -/
theorem PLu.front (h : PLu w B p room E bm bs ky pv nx M) (hi : i < bs.length) {pv' nx' : Nat → Nat} (hat : w'.heap[p]? = some (.cells #[.int .i64 (room : Int), ptB E, .map (some bm)] 49 (0, 0)))
    (hl : Lnk w' ky pv' nx' (bs.getD i 0 :: E :: wo bs i)) (hs : Seg pv' nx' E (bs.getD i 0 :: wo bs i) E) (hm : MapN w' bm bs.length M) : PLu w' B p room E bm (bs.getD i 0 :: wo bs i) ky pv' nx' M := by
  have hd := List.nodup_cons.1 h.one
  refine ⟨hat, hl.sub fun x hx => ?_, hs, List.nodup_cons.2 ⟨fun e => hd.1 ((mem_cons_wo hi).1 e), List.nodup_cons.2 ⟨not_wo hd.2 hi, hd.2.sublist (wo_sub bs i)⟩⟩, by rw [List.length_cons, wo_len hi]; exact hm, fun x hx => h.hit x ((mem_cons_wo hi).1 hx), fun j x hj hx => ⟨(mem_cons_wo hi).2 (h.who j x hj hx).1, (h.who j x hj hx).2⟩, ⟨h.low.1, h.low.2.1, fun x hx => ?_⟩, ?_, h.rm⟩
  · rcases List.mem_cons.1 hx with rfl | hx
    · simp
    · rcases List.mem_cons.1 hx with rfl | hx
      · simp
      · simp [hx]
  · rcases List.mem_cons.1 hx with rfl | hx
    · exact h.low.2.2 _ (by simp)
    · exact h.low.2.2 _ (List.mem_cons_of_mem _ ((mem_cons_wo hi).1 hx))
  · have hw := h.ok.wf _ (List.mem_map.2 ⟨_, getD_mem (d := 0) hi, rfl⟩)
    have hi' : i < (bs.map ky).length := by rw [List.length_map]; exact hi
    rw [List.map_cons, wo_map, ← getD_map ky bs 0 ky0 hi]
    exact (h.ok.wo i).cons (wo_not h.ok.one hi') (h.ok.lt hi') (h.ok.wf _ (getD_mem hi'))
/-- What Touch answers and leaves. -/
def TchPost (B p room : Nat) (k : Int) (L : List Ky) (w : World) (e : Ending) (w' : World) : Prop := e = .returned (.tuple #[.int .i64 (tchG room k L), .bool (tchW room k L), .int .i64 (tchE room k L)]) ∧ PL w' B p room (tchS room k L) ∧ TurnP B w w'
set_option maxHeartbeats 1000000 in
theorem touch_hit (w : World) (h : PLu w B p room E bm bs ky pv nx M) (hw : (Lit.int .i64 k).wf = true) (hi : plc k (bs.map ky) < bs.length) :
    Calls Try.prog 16 #[.pointer (some ⟨p, 0, none⟩), .int .i64 k] w (TchPost B p room k (bs.map ky) w) := by
  obtain ⟨i, hpi⟩ : ∃ i, plc k (bs.map ky) = i := ⟨_, rfl⟩
  have hmk := h.at_key hi
  rw [hpi] at hi hmk
  obtain ⟨b, hb⟩ : ∃ b, bs.getD i 0 = b := ⟨_, rfl⟩
  rw [hb] at hmk
  have hbs : b ∈ bs := by rw [← hb]; exact getD_mem hi
  have hm : b ∈ E :: bs := List.mem_cons_of_mem _ hbs
  have HL := Lib.hid h
  have HK : Hid ((Instr.lookup 47 (.map (some bm)) (.int .i64 k) false).run Try.prog w = .ok (.pointer (some ⟨b, 0, none⟩)) w) := Lib.hid (by have := h.map.look hw; rw [hmk] at this; exact this)
  have HLV := Lib.hid (p_leave (B := B) w h.lnk hm (h.pvm hm) (h.nxm hm) h.low.2.2)
  have HSG := Lib.hid (seg_wo h.seg h.one hi)
  have HI := Lib.hid hi
  have HB := Lib.hid hb
  have HPI := Lib.hid hpi
  clear h hi hb hm hbs hmk hpi hw
  go_enter Try.func16, Try.ntmps16
  go_wp2_with fail
  refine (p_made _ HL.out).mono ?_
  rintro e w1 ⟨rfl, rfl⟩
  go_upto_region 3 with fail
  refine wp_region_lit ?_
  refine wpList_valn rfl (exec_mv rfl (ev rfl)) ?_
  simp only [Act.put, List.setIfInBounds_toArray, List.set_cons_succ, List.set_cons_zero]
  refine wpList_valn rfl (exec_nil rfl (ev rfl)) ?_
  simp only [Act.put, List.setIfInBounds_toArray, List.set_cons_succ, List.set_cons_zero]
  refine wpList_valn rfl (exec_faddr rfl (ev rfl) faLs2) ?_
  simp only [Act.put, List.setIfInBounds_toArray, List.set_cons_succ, List.set_cons_zero]
  refine wpList_valn rfl (exec_ld rfl (ev rfl) (ldMp (HL.out).c2)) ?_
  simp only [Act.put, List.setIfInBounds_toArray, List.set_cons_succ, List.set_cons_zero]
  refine wpList_valn rfl (exec_mv rfl (ev rfl)) ?_
  simp only [Act.put, List.setIfInBounds_toArray, List.set_cons_succ, List.set_cons_zero]
  refine wpList_valn rfl (exec_look rfl (ev rfl) (ev rfl) HK.out) ?_
  simp only [Act.put, List.setIfInBounds_toArray, List.set_cons_succ, List.set_cons_zero]
  refine wpList_valn rfl (exec_as rfl (ev rfl)) ?_
  simp only [Act.put, List.setIfInBounds_toArray, List.set_cons_succ, List.set_cons_zero]
  refine wpList_nil ?_
  go_upto_region 4 with fail
  refine wp_region_lit ?_
  refine wpList_valn rfl (exec_mv rfl (ev rfl)) ?_
  simp only [Act.put, List.setIfInBounds_toArray, List.set_cons_succ, List.set_cons_zero]
  refine wpList_valn (v := .bool true) rfl (exec_neNil true Try.underlying46 rfl (ev rfl) evk rfl) ?_
  simp only [Act.put, List.setIfInBounds_toArray, List.set_cons_succ, List.set_cons_zero]
  refine wpList_nil ?_
  go_upto_region 5 with fail
  refine wp_region_lit ?_
  refine wpList_valn rfl (exec_mv rfl (ev rfl)) ?_
  simp only [Act.put, List.setIfInBounds_toArray, List.set_cons_succ, List.set_cons_zero]
  refine wpList_call rfl (exec_cl Try.call28 rfl (evc (ev rfl) evn)) ?_
  refine HLV.out.mono ?_
  rintro e w1 ⟨rfl, hl1, ht1⟩
  refine ⟨_, rfl, ?_⟩
  simp only [Act.put, List.setIfInBounds_toArray, List.set_cons_succ, List.set_cons_zero]
  refine wpList_nil ?_
  have hat : w1.heap[p]? = some (.cells #[.int .i64 (room : Int), ptB E, .map (some bm)] 49 (0, 0)) := ht1.keep HL.out.at_ (by show ¬ (49 = 52); decide)
  have hsg := HSG.out
  rw [HB.out] at hsg
  have hnw : b ∉ E :: wo bs i := fun e => by
    have hd := List.nodup_cons.1 HL.out.one
    rcases List.mem_cons.1 e with e | e
    · exact hd.1 (by rw [← e, ← HB.out]; exact getD_mem HI.out)
    · exact not_wo hd.2 HI.out (by rw [HB.out]; exact e)
  have hod : (E :: wo bs i).Nodup := HL.out.one.sublist ((wo_sub bs i).cons_cons _)
  have hsub : ∀ x, x ∈ E :: wo bs i → x ∈ E :: bs := fun x hx => by
    rcases List.mem_cons.1 hx with rfl | hx
    · simp
    · exact List.mem_cons_of_mem _ ((wo_sub bs i).subset hx)
  have hbs : b ∈ bs := by rw [← HB.out]; exact getD_mem HI.out
  have hnxm : put1 nx (pv b) (nx b) E ∈ E :: wo bs i := by
    rcases List.mem_append.1 (seg_nx hsg) with e | e
    · exact List.mem_cons_of_mem _ e
    · simp at e; rw [e]; simp
  have HF := Lib.hid (p_follow (B := B) (E := E) w1 (ky b) _ _ (hl1.sub hsub) (hl1 b (List.mem_cons_of_mem _ hbs)) hnw (by simp) hnxm (fun x hx => HL.out.low.2.2 x (hsub x hx)) (HL.out.low.2.2 b (List.mem_cons_of_mem _ hbs)))
  have HS2 := Lib.hid (seg_follow hsg hod hnw)
  have HC1 := Lib.hid (cells3 hat).2.1
  have HAT := Lib.hid hat
  have HT := Lib.hid ht1
  clear hat hsg hnw hod hsub hbs hnxm hl1 ht1
  go_upto_region 6 with fail
  refine wp_region_lit ?_
  refine wpList_valn rfl (exec_mv rfl (ev rfl)) ?_
  simp only [Act.put, List.setIfInBounds_toArray, List.set_cons_succ, List.set_cons_zero]
  refine wpList_valn rfl (exec_mv rfl (ev rfl)) ?_
  simp only [Act.put, List.setIfInBounds_toArray, List.set_cons_succ, List.set_cons_zero]
  refine wpList_valn rfl (exec_nil rfl (ev rfl)) ?_
  simp only [Act.put, List.setIfInBounds_toArray, List.set_cons_succ, List.set_cons_zero]
  refine wpList_valn rfl (exec_faddr rfl (ev rfl) faLs1) ?_
  simp only [Act.put, List.setIfInBounds_toArray, List.set_cons_succ, List.set_cons_zero]
  refine wpList_valn rfl (exec_ld rfl (ev rfl) (ldNd HC1.out)) ?_
  simp only [Act.put, List.setIfInBounds_toArray, List.set_cons_succ, List.set_cons_zero]
  refine wpList_call rfl (exec_cl Try.call29 rfl (evc (ev rfl) (evc (ev rfl) evn))) ?_
  refine HF.out.mono ?_
  rintro e w2 ⟨rfl, hl2, ht2⟩
  refine ⟨_, rfl, ?_⟩
  simp only [Act.put, List.setIfInBounds_toArray, List.set_cons_succ, List.set_cons_zero]
  refine wpList_nil ?_
  go_wp2_with fail
  go_ret3
  rw [put1_same] at hl2
  have hnd : ∀ es c, ¬ isNd (.map es c) := fun _ _ e => e
  have hat2 := ht2.keep HAT.out (by show ¬ (49 = 52); decide)
  have hmp : MapN w2 bm bs.length M := HL.out.map.kept fun es c hb => ht2.keep (HT.out.keep hb (hnd es c)) (hnd es c)
  have hs2 := HS2.out
  rw [← HB.out] at hl2 hs2
  have hp := HL.out.front HI.out hat2 hl2 hs2 hmp
  have hi' : plc k (bs.map ky) < (bs.map ky).length := by rw [HPI.out, List.length_map]; exact HI.out
  refine ⟨?_, ⟨E, bm, _, ky, _, _, M, hp, ?_⟩, (HT.out.trans ht2).widen nd_pl⟩
  · unfold tchG tchW tchE
    rw [if_pos hi', if_pos hi', if_pos hi']
    rfl
  · unfold tchS
    rw [if_pos hi', HPI.out, List.map_cons, wo_map, getD_map ky bs 0 ky0 HI.out]
set_option maxHeartbeats 1000000 in
theorem touch_room (w : World) (h : PLu w B p room E bm bs ky pv nx M) (hw : (Lit.int .i64 k).wf = true) (hi : ¬ plc k (bs.map ky) < bs.length) (hl : bs.length < room) :
    Calls Try.prog 16 #[.pointer (some ⟨p, 0, none⟩), .int .i64 k] w (TchPost B p room k (bs.map ky) w) := by
  have hmk := h.no_key hw hi
  have hlen : (bs.map ky).length = bs.length := List.length_map _
  have hle := h.ok.len
  rw [hlen] at hle
  have HI' : Hid (¬ plc k (bs.map ky) < (bs.map ky).length) := Lib.hid (by rw [hlen]; exact hi)
  have HLN := Lib.hid hlen
  have HL := Lib.hid h
  have HK : Hid ((Instr.lookup 47 (.map (some bm)) (.int .i64 k) false).run Try.prog w = .ok (.pointer none) w) := Lib.hid (by have := h.map.look hw; rw [hmk] at this; exact this)
  have HI := Lib.hid hi
  have HW := Lib.hid hw
  have HLT := Lib.hid hl
  have HEQ : Hid (((bs.length : Int) == (room : Int)) = false) := Lib.hid (by simp; omega)
  clear hl
  clear h hi hmk hw hlen hle
  go_enter Try.func16, Try.ntmps16
  go_wp2_with fail
  refine (p_made _ HL.out).mono ?_
  rintro e w1 ⟨rfl, rfl⟩
  go_upto_region 3 with fail
  refine wp_region_lit ?_
  refine wpList_valn rfl (exec_mv rfl (ev rfl)) ?_
  simp only [Act.put, List.setIfInBounds_toArray, List.set_cons_succ, List.set_cons_zero]
  refine wpList_valn rfl (exec_nil rfl (ev rfl)) ?_
  simp only [Act.put, List.setIfInBounds_toArray, List.set_cons_succ, List.set_cons_zero]
  refine wpList_valn rfl (exec_faddr rfl (ev rfl) faLs2) ?_
  simp only [Act.put, List.setIfInBounds_toArray, List.set_cons_succ, List.set_cons_zero]
  refine wpList_valn rfl (exec_ld rfl (ev rfl) (ldMp (HL.out).c2)) ?_
  simp only [Act.put, List.setIfInBounds_toArray, List.set_cons_succ, List.set_cons_zero]
  refine wpList_valn rfl (exec_mv rfl (ev rfl)) ?_
  simp only [Act.put, List.setIfInBounds_toArray, List.set_cons_succ, List.set_cons_zero]
  refine wpList_valn rfl (exec_look rfl (ev rfl) (ev rfl) HK.out) ?_
  simp only [Act.put, List.setIfInBounds_toArray, List.set_cons_succ, List.set_cons_zero]
  refine wpList_valn rfl (exec_as rfl (ev rfl)) ?_
  simp only [Act.put, List.setIfInBounds_toArray, List.set_cons_succ, List.set_cons_zero]
  refine wpList_nil ?_
  go_upto_region 4 with fail
  refine wp_region_lit ?_
  refine wpList_valn rfl (exec_mv rfl (ev rfl)) ?_
  simp only [Act.put, List.setIfInBounds_toArray, List.set_cons_succ, List.set_cons_zero]
  refine wpList_valn (v := .bool false) rfl (exec_neNil false Try.underlying46 rfl (ev rfl) evk rfl) ?_
  simp only [Act.put, List.setIfInBounds_toArray, List.set_cons_succ, List.set_cons_zero]
  refine wpList_nil ?_
  go_upto_region 8 with fail
  refine wp_region_above (B := w.heap.size) (by kernel_rfl) ?_
  refine qv_val rfl (fun w' hw => exec_mv rfl (ev rfl)) ?_
  simp only [Act.put, List.setIfInBounds_toArray, List.set_cons_succ, List.set_cons_zero]
  refine qv_val rfl (fun w' hw => exec_nil rfl (ev rfl)) ?_
  simp only [Act.put, List.setIfInBounds_toArray, List.set_cons_succ, List.set_cons_zero]
  refine qv_val rfl (fun w' hw => exec_faddr rfl (ev rfl) faLs2) ?_
  simp only [Act.put, List.setIfInBounds_toArray, List.set_cons_succ, List.set_cons_zero]
  refine qv_val rfl (fun w' hw => exec_ld rfl (ev rfl) (ldMp (HL.out.below hw).c2)) ?_
  simp only [Act.put, List.setIfInBounds_toArray, List.set_cons_succ, List.set_cons_zero]
  refine qv_val rfl (fun w' hw => exec_lenM rfl (ev rfl) (HL.out.below hw).map) ?_
  simp only [Act.put, List.setIfInBounds_toArray, List.set_cons_succ, List.set_cons_zero]
  refine qv_val rfl (fun w' hw => exec_mv rfl (ev rfl)) ?_
  simp only [Act.put, List.setIfInBounds_toArray, List.set_cons_succ, List.set_cons_zero]
  refine qv_val rfl (fun w' hw => exec_nil rfl (ev rfl)) ?_
  simp only [Act.put, List.setIfInBounds_toArray, List.set_cons_succ, List.set_cons_zero]
  refine qv_val rfl (fun w' hw => exec_faddr rfl (ev rfl) faLs0) ?_
  simp only [Act.put, List.setIfInBounds_toArray, List.set_cons_succ, List.set_cons_zero]
  refine qv_val rfl (fun w' hw => exec_ld rfl (ev rfl) (ldInt (HL.out.below hw).c0)) ?_
  simp only [Act.put, List.setIfInBounds_toArray, List.set_cons_succ, List.set_cons_zero]
  refine qv_val (v := .bool false) rfl (fun w' hw => exec_eqInt false rfl (ev rfl) (ev rfl) HEQ.out) ?_
  simp only [Act.put, List.setIfInBounds_toArray, List.set_cons_succ, List.set_cons_zero]
  refine wpQuiet_nil ?_
  intro w2 hw2
  have HL2 := Lib.hid (HL.out.below hw2)
  have HT2 := Lib.hid (Turn.of_below (I := isPl) (B := B) hw2)
  clear hw2
  go_upto_region 14 with fail
  refine wp_region_lit ?_
  refine wpList_valn rfl (exec_mv rfl (ev rfl)) ?_
  simp only [Act.put, List.setIfInBounds_toArray, List.set_cons_succ, List.set_cons_zero]
  refine wpList_valn rfl (exec_mv rfl (ev rfl)) ?_
  simp only [Act.put, List.setIfInBounds_toArray, List.set_cons_succ, List.set_cons_zero]
  refine wpList_call rfl (exec_cl Try.call32 rfl (evc (ev rfl) (evc (ev rfl) evn))) ?_
  refine (p_add w2 HL2.out HI.out HLT.out HW.out).mono ?_
  rintro e w3 ⟨rfl, ⟨n, ky', pv', nx', M', h3, e3⟩, ht3⟩
  refine ⟨_, rfl, ?_⟩
  simp only [Act.put, List.setIfInBounds_toArray, List.set_cons_succ, List.set_cons_zero]
  refine wpList_nil ?_
  go_wp2_with fail
  go_ret3
  refine ⟨?_, ⟨E, bm, _, ky', pv', nx', M', h3, ?_⟩, HT2.out.trans ht3⟩
  · unfold tchG tchW tchE
    rw [if_neg HI'.out, if_neg HI'.out, if_neg HI'.out, HLN.out, if_pos HLT.out, if_pos HLT.out, if_pos HLT.out]
    rfl
  · unfold tchS
    rw [e3, if_neg HI'.out, HLN.out, if_pos HLT.out]
set_option maxHeartbeats 1000000 in
theorem touch_full (w : World) (h : PLu w B p room E bm bs ky pv nx M) (hw : (Lit.int .i64 k).wf = true) (hi : ¬ plc k (bs.map ky) < bs.length) (hl : ¬ bs.length < room) (hu : lu (bs.map ky) = 0) :
    Calls Try.prog 16 #[.pointer (some ⟨p, 0, none⟩), .int .i64 k] w (TchPost B p room k (bs.map ky) w) := by
  have hmk := h.no_key hw hi
  have hlen : (bs.map ky).length = bs.length := List.length_map _
  have hle := h.ok.len
  rw [hlen] at hle
  have HI' : Hid (¬ plc k (bs.map ky) < (bs.map ky).length) := Lib.hid (by rw [hlen]; exact hi)
  have HLN := Lib.hid hlen
  have HL := Lib.hid h
  have HK : Hid ((Instr.lookup 47 (.map (some bm)) (.int .i64 k) false).run Try.prog w = .ok (.pointer none) w) := Lib.hid (by have := h.map.look hw; rw [hmk] at this; exact this)
  have HI := Lib.hid hi
  have HW := Lib.hid hw
  have HLT : Hid (¬ bs.length < room) := Lib.hid hl
  have HEQ : Hid (((bs.length : Int) == (room : Int)) = true) := Lib.hid (by simp; omega)
  have HU := Lib.hid hu
  clear hl hu
  clear h hi hmk hw hlen hle
  go_enter Try.func16, Try.ntmps16
  go_wp2_with fail
  refine (p_made _ HL.out).mono ?_
  rintro e w1 ⟨rfl, rfl⟩
  go_upto_region 3 with fail
  refine wp_region_lit ?_
  refine wpList_valn rfl (exec_mv rfl (ev rfl)) ?_
  simp only [Act.put, List.setIfInBounds_toArray, List.set_cons_succ, List.set_cons_zero]
  refine wpList_valn rfl (exec_nil rfl (ev rfl)) ?_
  simp only [Act.put, List.setIfInBounds_toArray, List.set_cons_succ, List.set_cons_zero]
  refine wpList_valn rfl (exec_faddr rfl (ev rfl) faLs2) ?_
  simp only [Act.put, List.setIfInBounds_toArray, List.set_cons_succ, List.set_cons_zero]
  refine wpList_valn rfl (exec_ld rfl (ev rfl) (ldMp (HL.out).c2)) ?_
  simp only [Act.put, List.setIfInBounds_toArray, List.set_cons_succ, List.set_cons_zero]
  refine wpList_valn rfl (exec_mv rfl (ev rfl)) ?_
  simp only [Act.put, List.setIfInBounds_toArray, List.set_cons_succ, List.set_cons_zero]
  refine wpList_valn rfl (exec_look rfl (ev rfl) (ev rfl) HK.out) ?_
  simp only [Act.put, List.setIfInBounds_toArray, List.set_cons_succ, List.set_cons_zero]
  refine wpList_valn rfl (exec_as rfl (ev rfl)) ?_
  simp only [Act.put, List.setIfInBounds_toArray, List.set_cons_succ, List.set_cons_zero]
  refine wpList_nil ?_
  go_upto_region 4 with fail
  refine wp_region_lit ?_
  refine wpList_valn rfl (exec_mv rfl (ev rfl)) ?_
  simp only [Act.put, List.setIfInBounds_toArray, List.set_cons_succ, List.set_cons_zero]
  refine wpList_valn (v := .bool false) rfl (exec_neNil false Try.underlying46 rfl (ev rfl) evk rfl) ?_
  simp only [Act.put, List.setIfInBounds_toArray, List.set_cons_succ, List.set_cons_zero]
  refine wpList_nil ?_
  go_upto_region 8 with fail
  refine wp_region_above (B := w.heap.size) (by kernel_rfl) ?_
  refine qv_val rfl (fun w' hw => exec_mv rfl (ev rfl)) ?_
  simp only [Act.put, List.setIfInBounds_toArray, List.set_cons_succ, List.set_cons_zero]
  refine qv_val rfl (fun w' hw => exec_nil rfl (ev rfl)) ?_
  simp only [Act.put, List.setIfInBounds_toArray, List.set_cons_succ, List.set_cons_zero]
  refine qv_val rfl (fun w' hw => exec_faddr rfl (ev rfl) faLs2) ?_
  simp only [Act.put, List.setIfInBounds_toArray, List.set_cons_succ, List.set_cons_zero]
  refine qv_val rfl (fun w' hw => exec_ld rfl (ev rfl) (ldMp (HL.out.below hw).c2)) ?_
  simp only [Act.put, List.setIfInBounds_toArray, List.set_cons_succ, List.set_cons_zero]
  refine qv_val rfl (fun w' hw => exec_lenM rfl (ev rfl) (HL.out.below hw).map) ?_
  simp only [Act.put, List.setIfInBounds_toArray, List.set_cons_succ, List.set_cons_zero]
  refine qv_val rfl (fun w' hw => exec_mv rfl (ev rfl)) ?_
  simp only [Act.put, List.setIfInBounds_toArray, List.set_cons_succ, List.set_cons_zero]
  refine qv_val rfl (fun w' hw => exec_nil rfl (ev rfl)) ?_
  simp only [Act.put, List.setIfInBounds_toArray, List.set_cons_succ, List.set_cons_zero]
  refine qv_val rfl (fun w' hw => exec_faddr rfl (ev rfl) faLs0) ?_
  simp only [Act.put, List.setIfInBounds_toArray, List.set_cons_succ, List.set_cons_zero]
  refine qv_val rfl (fun w' hw => exec_ld rfl (ev rfl) (ldInt (HL.out.below hw).c0)) ?_
  simp only [Act.put, List.setIfInBounds_toArray, List.set_cons_succ, List.set_cons_zero]
  refine qv_val (v := .bool true) rfl (fun w' hw => exec_eqInt true rfl (ev rfl) (ev rfl) HEQ.out) ?_
  simp only [Act.put, List.setIfInBounds_toArray, List.set_cons_succ, List.set_cons_zero]
  refine wpQuiet_nil ?_
  intro w2 hw2
  have HL2 := Lib.hid (HL.out.below hw2)
  have HT2 := Lib.hid (Turn.of_below (I := isPl) (B := B) hw2)
  clear hw2
  go_upto_region 9 with fail
  refine wp_region_lit ?_
  refine wpList_valn rfl (exec_mv rfl (ev rfl)) ?_
  simp only [Act.put, List.setIfInBounds_toArray, List.set_cons_succ, List.set_cons_zero]
  refine wpList_call rfl (exec_cl Try.call30 rfl (evc (ev rfl) evn)) ?_
  refine (p_loose_no w2 HL2.out HU.out).mono ?_
  rintro e w3 ⟨rfl, rfl⟩
  refine ⟨_, rfl, ?_⟩
  simp only [Act.put, List.setIfInBounds_toArray, List.set_cons_succ, List.set_cons_zero]
  refine wpList_valn rfl (exec_as rfl (ev rfl)) ?_
  simp only [Act.put, List.setIfInBounds_toArray, List.set_cons_succ, List.set_cons_zero]
  refine wpList_nil ?_
  go_upto_region 10 with fail
  refine wp_region_lit ?_
  refine wpList_valn rfl (exec_mv rfl (ev rfl)) ?_
  simp only [Act.put, List.setIfInBounds_toArray, List.set_cons_succ, List.set_cons_zero]
  refine wpList_valn (v := .bool true) rfl (exec_eqNil true Try.underlying46 rfl (ev rfl) evk rfl) ?_
  simp only [Act.put, List.setIfInBounds_toArray, List.set_cons_succ, List.set_cons_zero]
  refine wpList_nil ?_
  go_wp2_with fail
  go_ret3
  refine ⟨?_, ⟨E, bm, bs, ky, pv, nx, M, HL2.out, ?_⟩, HT2.out⟩
  · unfold tchG tchW tchE
    rw [if_neg HI'.out, if_neg HI'.out, if_neg HI'.out, HLN.out, if_neg HLT.out, if_neg HLT.out, if_neg HLT.out, if_pos HU.out, if_pos HU.out, if_pos HU.out]
    rfl
  · unfold tchS
    rw [if_neg HI'.out, HLN.out, if_neg HLT.out, if_pos HU.out]
set_option maxHeartbeats 1000000 in
theorem touch_goes (w : World) (h : PLu w B p room E bm bs ky pv nx M) (hw : (Lit.int .i64 k).wf = true) (hi : ¬ plc k (bs.map ky) < bs.length) (hl : ¬ bs.length < room) {j : Nat} (hu : lu (bs.map ky) = j + 1) :
    Calls Try.prog 16 #[.pointer (some ⟨p, 0, none⟩), .int .i64 k] w (TchPost B p room k (bs.map ky) w) := by
  have hmk := h.no_key hw hi
  have hlen : (bs.map ky).length = bs.length := List.length_map _
  have hle := h.ok.len
  rw [hlen] at hle
  have HI' : Hid (¬ plc k (bs.map ky) < (bs.map ky).length) := Lib.hid (by rw [hlen]; exact hi)
  have HLN := Lib.hid hlen
  have HL := Lib.hid h
  have HK : Hid ((Instr.lookup 47 (.map (some bm)) (.int .i64 k) false).run Try.prog w = .ok (.pointer none) w) := Lib.hid (by have := h.map.look hw; rw [hmk] at this; exact this)
  have HI := Lib.hid hi
  have HW := Lib.hid hw
  have HLT : Hid (¬ bs.length < room) := Lib.hid hl
  have HEQ : Hid (((bs.length : Int) == (room : Int)) = true) := Lib.hid (by simp; omega)
  have hj : j < bs.length := by have := lu_le (bs.map ky); omega
  obtain ⟨b, hb⟩ : ∃ b, bs.getD j 0 = b := ⟨_, rfl⟩
  have HU := Lib.hid hu
  have HU0 : Hid (¬ lu (bs.map ky) = 0) := Lib.hid (by omega)
  have HJ := Lib.hid hj
  have HB := Lib.hid hb
  have HI3 : Hid (¬ plc k ((wo bs j).map ky) < (wo bs j).length) := Lib.hid fun e => by
    have e1 : k ∈ keyL ((wo bs j).map ky) := plc_mem.1 (by rw [List.length_map]; exact e)
    have e2 : plc k (bs.map ky) < (bs.map ky).length := plc_mem.2 ((((wo_sub bs j).map ky).map Ky.n).subset e1)
    exact HI'.out e2
  have HLT3 : Hid ((wo bs j).length < room) := Lib.hid (by have := wo_len hj; omega)
  clear hl hu hj hb
  clear h hi hmk hw hlen hle
  go_enter Try.func16, Try.ntmps16
  go_wp2_with fail
  refine (p_made _ HL.out).mono ?_
  rintro e w1 ⟨rfl, rfl⟩
  go_upto_region 3 with fail
  refine wp_region_lit ?_
  refine wpList_valn rfl (exec_mv rfl (ev rfl)) ?_
  simp only [Act.put, List.setIfInBounds_toArray, List.set_cons_succ, List.set_cons_zero]
  refine wpList_valn rfl (exec_nil rfl (ev rfl)) ?_
  simp only [Act.put, List.setIfInBounds_toArray, List.set_cons_succ, List.set_cons_zero]
  refine wpList_valn rfl (exec_faddr rfl (ev rfl) faLs2) ?_
  simp only [Act.put, List.setIfInBounds_toArray, List.set_cons_succ, List.set_cons_zero]
  refine wpList_valn rfl (exec_ld rfl (ev rfl) (ldMp (HL.out).c2)) ?_
  simp only [Act.put, List.setIfInBounds_toArray, List.set_cons_succ, List.set_cons_zero]
  refine wpList_valn rfl (exec_mv rfl (ev rfl)) ?_
  simp only [Act.put, List.setIfInBounds_toArray, List.set_cons_succ, List.set_cons_zero]
  refine wpList_valn rfl (exec_look rfl (ev rfl) (ev rfl) HK.out) ?_
  simp only [Act.put, List.setIfInBounds_toArray, List.set_cons_succ, List.set_cons_zero]
  refine wpList_valn rfl (exec_as rfl (ev rfl)) ?_
  simp only [Act.put, List.setIfInBounds_toArray, List.set_cons_succ, List.set_cons_zero]
  refine wpList_nil ?_
  go_upto_region 4 with fail
  refine wp_region_lit ?_
  refine wpList_valn rfl (exec_mv rfl (ev rfl)) ?_
  simp only [Act.put, List.setIfInBounds_toArray, List.set_cons_succ, List.set_cons_zero]
  refine wpList_valn (v := .bool false) rfl (exec_neNil false Try.underlying46 rfl (ev rfl) evk rfl) ?_
  simp only [Act.put, List.setIfInBounds_toArray, List.set_cons_succ, List.set_cons_zero]
  refine wpList_nil ?_
  go_upto_region 8 with fail
  refine wp_region_above (B := w.heap.size) (by kernel_rfl) ?_
  refine qv_val rfl (fun w' hw => exec_mv rfl (ev rfl)) ?_
  simp only [Act.put, List.setIfInBounds_toArray, List.set_cons_succ, List.set_cons_zero]
  refine qv_val rfl (fun w' hw => exec_nil rfl (ev rfl)) ?_
  simp only [Act.put, List.setIfInBounds_toArray, List.set_cons_succ, List.set_cons_zero]
  refine qv_val rfl (fun w' hw => exec_faddr rfl (ev rfl) faLs2) ?_
  simp only [Act.put, List.setIfInBounds_toArray, List.set_cons_succ, List.set_cons_zero]
  refine qv_val rfl (fun w' hw => exec_ld rfl (ev rfl) (ldMp (HL.out.below hw).c2)) ?_
  simp only [Act.put, List.setIfInBounds_toArray, List.set_cons_succ, List.set_cons_zero]
  refine qv_val rfl (fun w' hw => exec_lenM rfl (ev rfl) (HL.out.below hw).map) ?_
  simp only [Act.put, List.setIfInBounds_toArray, List.set_cons_succ, List.set_cons_zero]
  refine qv_val rfl (fun w' hw => exec_mv rfl (ev rfl)) ?_
  simp only [Act.put, List.setIfInBounds_toArray, List.set_cons_succ, List.set_cons_zero]
  refine qv_val rfl (fun w' hw => exec_nil rfl (ev rfl)) ?_
  simp only [Act.put, List.setIfInBounds_toArray, List.set_cons_succ, List.set_cons_zero]
  refine qv_val rfl (fun w' hw => exec_faddr rfl (ev rfl) faLs0) ?_
  simp only [Act.put, List.setIfInBounds_toArray, List.set_cons_succ, List.set_cons_zero]
  refine qv_val rfl (fun w' hw => exec_ld rfl (ev rfl) (ldInt (HL.out.below hw).c0)) ?_
  simp only [Act.put, List.setIfInBounds_toArray, List.set_cons_succ, List.set_cons_zero]
  refine qv_val (v := .bool true) rfl (fun w' hw => exec_eqInt true rfl (ev rfl) (ev rfl) HEQ.out) ?_
  simp only [Act.put, List.setIfInBounds_toArray, List.set_cons_succ, List.set_cons_zero]
  refine wpQuiet_nil ?_
  intro w2 hw2
  have HL2 := Lib.hid (HL.out.below hw2)
  have HT2 := Lib.hid (Turn.of_below (I := isPl) (B := B) hw2)
  clear hw2
  go_upto_region 9 with fail
  refine wp_region_lit ?_
  refine wpList_valn rfl (exec_mv rfl (ev rfl)) ?_
  simp only [Act.put, List.setIfInBounds_toArray, List.set_cons_succ, List.set_cons_zero]
  refine wpList_call rfl (exec_cl Try.call30 rfl (evc (ev rfl) evn)) ?_
  refine (p_loose_at w2 HL2.out HU.out HB.out).mono ?_
  rintro e w3 ⟨rfl, rfl⟩
  refine ⟨_, rfl, ?_⟩
  simp only [Act.put, List.setIfInBounds_toArray, List.set_cons_succ, List.set_cons_zero]
  refine wpList_valn rfl (exec_as rfl (ev rfl)) ?_
  simp only [Act.put, List.setIfInBounds_toArray, List.set_cons_succ, List.set_cons_zero]
  refine wpList_nil ?_
  go_upto_region 10 with fail
  refine wp_region_lit ?_
  refine wpList_valn rfl (exec_mv rfl (ev rfl)) ?_
  simp only [Act.put, List.setIfInBounds_toArray, List.set_cons_succ, List.set_cons_zero]
  refine wpList_valn (v := .bool false) rfl (exec_eqNil false Try.underlying46 rfl (ev rfl) evk rfl) ?_
  simp only [Act.put, List.setIfInBounds_toArray, List.set_cons_succ, List.set_cons_zero]
  refine wpList_nil ?_
  go_upto_region 12 with fail
  refine wp_region_lit ?_
  refine wpList_valn rfl (exec_mv rfl (ev rfl)) ?_
  simp only [Act.put, List.setIfInBounds_toArray, List.set_cons_succ, List.set_cons_zero]
  refine wpList_valn rfl (exec_mv rfl (ev rfl)) ?_
  simp only [Act.put, List.setIfInBounds_toArray, List.set_cons_succ, List.set_cons_zero]
  refine wpList_call rfl (exec_cl Try.call31 rfl (evc (ev rfl) (evc (ev rfl) evn))) ?_
  refine (p_remove w2 HL2.out HJ.out HB.out).mono ?_
  rintro e w3 ⟨rfl, ⟨pv', nx', M', h3⟩, ht3, u, v, hn3⟩
  refine ⟨_, rfl, ?_⟩
  simp only [Act.put, List.setIfInBounds_toArray, List.set_cons_succ, List.set_cons_zero]
  refine wpList_nil ?_
  have HL3 := Lib.hid h3
  have HN3 := Lib.hid hn3
  have HT3 := Lib.hid (HT2.out.trans ht3)
  clear h3 hn3 ht3
  go_upto_region 13 with fail
  refine wp_region_lit ?_
  refine wpList_valn rfl (exec_mv rfl (ev rfl)) ?_
  simp only [Act.put, List.setIfInBounds_toArray, List.set_cons_succ, List.set_cons_zero]
  refine wpList_valn rfl (exec_nil rfl (ev rfl)) ?_
  simp only [Act.put, List.setIfInBounds_toArray, List.set_cons_succ, List.set_cons_zero]
  refine wpList_valn rfl (exec_faddr rfl (ev rfl) faNd0) ?_
  simp only [Act.put, List.setIfInBounds_toArray, List.set_cons_succ, List.set_cons_zero]
  refine wpList_valn rfl (exec_ld rfl (ev rfl) (ldInt (HN3.out).c0)) ?_
  simp only [Act.put, List.setIfInBounds_toArray, List.set_cons_succ, List.set_cons_zero]
  refine wpList_valn rfl (exec_as rfl (ev rfl)) ?_
  simp only [Act.put, List.setIfInBounds_toArray, List.set_cons_succ, List.set_cons_zero]
  refine wpList_valn (v := .bool true) rfl (exec_as rfl evk) ?_
  simp only [Act.put, List.setIfInBounds_toArray, List.set_cons_succ, List.set_cons_zero]
  refine wpList_nil ?_
  go_upto_region 14 with fail
  refine wp_region_lit ?_
  refine wpList_valn rfl (exec_mv rfl (ev rfl)) ?_
  simp only [Act.put, List.setIfInBounds_toArray, List.set_cons_succ, List.set_cons_zero]
  refine wpList_valn rfl (exec_mv rfl (ev rfl)) ?_
  simp only [Act.put, List.setIfInBounds_toArray, List.set_cons_succ, List.set_cons_zero]
  refine wpList_call rfl (exec_cl Try.call32 rfl (evc (ev rfl) (evc (ev rfl) evn))) ?_
  refine (p_add w3 HL3.out HI3.out HLT3.out HW.out).mono ?_
  rintro e w4 ⟨rfl, ⟨n, ky', pv4, nx4, M4, h4, e4⟩, ht4⟩
  refine ⟨_, rfl, ?_⟩
  simp only [Act.put, List.setIfInBounds_toArray, List.set_cons_succ, List.set_cons_zero]
  refine wpList_nil ?_
  go_wp2_with fail
  go_ret3
  refine ⟨?_, ⟨E, bm, _, ky', pv4, nx4, M4, h4, ?_⟩, HT3.out.trans ht4⟩
  · unfold tchG tchW tchE
    rw [if_neg HI'.out, if_neg HI'.out, if_neg HI'.out, HLN.out, if_neg HLT.out, if_neg HLT.out, if_neg HLT.out, if_neg HU0.out, if_neg HU0.out, if_neg HU0.out, HU.out, Nat.add_sub_cancel, getD_map ky bs 0 ky0 HJ.out, HB.out]
    rfl
  · unfold tchS
    rw [e4, if_neg HI'.out, HLN.out, if_neg HLT.out, if_neg HU0.out, HU.out, Nat.add_sub_cancel, wo_map]
theorem pl_touch (w : World) (h : PL w B p room L) (hw : (Lit.int .i64 k).wf = true) : Calls Try.prog 16 #[.pointer (some ⟨p, 0, none⟩), .int .i64 k] w (TchPost B p room k L w) := by
  obtain ⟨E, bm, bs, ky, pv, nx, M, h, rfl⟩ := h
  by_cases hi : plc k (bs.map ky) < bs.length
  · exact touch_hit w h hw hi
  · by_cases hl : bs.length < room
    · exact touch_room w h hw hi hl
    · rcases Nat.eq_zero_or_pos (lu (bs.map ky)) with hu | hu
      · exact touch_full w h hw hi hl hu
      · exact touch_goes w h hw hi hl (j := lu (bs.map ky) - 1) (by omega)
theorem PLu.find (w : World) (h : PLu w B p room E bm bs ky pv nx M) (hw : (Lit.int .i64 k).wf = true) {i b : Nat} (hp : plc k (bs.map ky) = i) (hi : i < bs.length) (hb : bs.getD i 0 = b) : Calls Try.prog 33 #[.pointer (some ⟨p, 0, none⟩), .int .i64 k] w fun e w' => e = .returned (.tuple #[.pointer (some ⟨b, 0, none⟩), .int .i64 0]) ∧ w = w' :=
  p_find_hit w h hw (by have := h.at_key (k := k) (by rw [hp]; exact hi); rw [hp, hb] at this; exact this)
theorem fndE_hit {i : Nat} (hp : plc k L = i) (hi : i < L.length) : fndE k L = 0 := by unfold fndE; rw [hp, if_pos hi]
theorem fndE_no (hi : ¬ plc k L < L.length) : fndE k L = 7 := if_neg hi
theorem map_put1 {x : Ky} (hd : bs.Nodup) (hi : i < bs.length) : bs.map (put1 ky (bs.getD i 0) x) = (bs.map ky).set i x := by
  apply List.ext_getElem (by simp)
  intro j h1 h2
  have hj : j < bs.length := by simpa using h1
  rw [List.getElem_map, List.getElem_set]
  by_cases e : i = j
  · subst e
    have e0 : bs.getD i 0 = bs[i] := by simp [List.getD, hi]
    rw [if_pos rfl]
    exact (congrArg (put1 ky (bs.getD i 0) x) e0.symm).trans (put1_at _ _ _)
  · rw [if_neg e, List.getElem_map, put1_off]
    intro e2
    have e3 : posn (bs.getD j 0) bs = j := posn_at hd hj
    rw [show bs.getD j 0 = bs[j] from by simp [List.getD, hj], e2, posn_at hd hi] at e3
    exact e e3
theorem pin_no (w : World) (h : PLu w B p room E bm bs ky pv nx M) (hw : (Lit.int .i64 k).wf = true) (is : Bool) (hi : ¬ plc k (bs.map ky) < bs.length) :
    Calls Try.prog 17 #[.pointer (some ⟨p, 0, none⟩), .int .i64 k, .bool is] w fun e w' => e = .returned (.int .i64 (fndE k (bs.map ky))) ∧ PL w' B p room (pinS k is (bs.map ky)) ∧ TurnP B w w' := by
  have hi' : ¬ plc k (bs.map ky) < (bs.map ky).length := by rw [List.length_map]; exact hi
  have HI' := Lib.hid hi'
  have HF := Lib.hid (p_find_no w h hw (h.no_key hw hi))
  have HL := Lib.hid h
  clear h hi hi' hw
  go_enter Try.func17, Try.ntmps17
  go_wp2_with fail
  refine HF.out.mono ?_
  rintro e w1 ⟨rfl, rfl⟩
  go_wp2_with fail
  go_ret
  refine ⟨by rw [fndE_no HI'.out]; rfl, ⟨E, bm, bs, ky, pv, nx, M, HL.out, ?_⟩, Turn.refl _ _ _⟩
  unfold pinS
  rw [if_neg HI'.out]
theorem drop_no (w : World) (h : PLu w B p room E bm bs ky pv nx M) (hw : (Lit.int .i64 k).wf = true) (hi : ¬ plc k (bs.map ky) < bs.length) :
    Calls Try.prog 20 #[.pointer (some ⟨p, 0, none⟩), .int .i64 k] w fun e w' => e = .returned (.int .i64 (fndE k (bs.map ky))) ∧ PL w' B p room (drpS k (bs.map ky)) ∧ TurnP B w w' := by
  have hi' : ¬ plc k (bs.map ky) < (bs.map ky).length := by rw [List.length_map]; exact hi
  have HI' := Lib.hid hi'
  have HF := Lib.hid (p_find_no w h hw (h.no_key hw hi))
  have HL := Lib.hid h
  clear h hi hi' hw
  go_enter Try.func20, Try.ntmps20
  go_wp2_with fail
  refine HF.out.mono ?_
  rintro e w1 ⟨rfl, rfl⟩
  go_wp2_with fail
  go_ret
  refine ⟨by rw [fndE_no HI'.out]; rfl, ⟨E, bm, bs, ky, pv, nx, M, HL.out, ?_⟩, Turn.refl _ _ _⟩
  unfold drpS
  rw [if_neg HI'.out]
theorem pin_hit (w : World) (h : PLu w B p room E bm bs ky pv nx M) (hw : (Lit.int .i64 k).wf = true) (is : Bool) (hi : plc k (bs.map ky) < bs.length) :
    Calls Try.prog 17 #[.pointer (some ⟨p, 0, none⟩), .int .i64 k, .bool is] w fun e w' => e = .returned (.int .i64 (fndE k (bs.map ky))) ∧ PL w' B p room (pinS k is (bs.map ky)) ∧ TurnP B w w' := by
  obtain ⟨i, hpi⟩ : ∃ i, plc k (bs.map ky) = i := ⟨_, rfl⟩
  rw [hpi] at hi
  obtain ⟨b, hb⟩ : ∃ b, bs.getD i 0 = b := ⟨_, rfl⟩
  have hbs : b ∈ bs := by rw [← hb]; exact getD_mem hi
  have hi' : i < (bs.map ky).length := by rw [List.length_map]; exact hi
  have HL := Lib.hid h
  have HF := Lib.hid (h.find w hw hpi hi hb)
  have HI := Lib.hid hi
  have HI' := Lib.hid hi'
  have HB := Lib.hid hb
  have HBS := Lib.hid hbs
  have HPI := Lib.hid hpi
  have hkn : (ky b).n = k := by
    have := plc_at (k := k) (L := bs.map ky) (by rw [hpi]; exact hi')
    rw [hpi, getD_map ky bs 0 ky0 hi, hb] at this
    exact this
  have HKN := Lib.hid hkn
  have HN := Lib.hid (h.lnk b (List.mem_cons_of_mem _ hbs))
  clear hkn
  clear h hi hb hbs hpi hw hi'
  go_enter Try.func17, Try.ntmps17
  go_wp2_with fail
  refine HF.out.mono ?_
  rintro e w1 ⟨rfl, rfl⟩
  go_upto_region 4 with fail
  refine wp_region_lit ?_
  refine wpList_valn rfl (exec_mv rfl (ev rfl)) ?_
  simp only [Act.put, List.setIfInBounds_toArray, List.set_cons_succ, List.set_cons_zero]
  refine wpList_valn rfl (exec_mv rfl (ev rfl)) ?_
  simp only [Act.put, List.setIfInBounds_toArray, List.set_cons_succ, List.set_cons_zero]
  refine wpList_valn rfl (exec_nil rfl (ev rfl)) ?_
  simp only [Act.put, List.setIfInBounds_toArray, List.set_cons_succ, List.set_cons_zero]
  refine wpList_valn rfl (exec_faddr rfl (ev rfl) faNd1) ?_
  simp only [Act.put, List.setIfInBounds_toArray, List.set_cons_succ, List.set_cons_zero]
  refine wpList_nuln rfl (exec_st rfl (ev rfl) (ev rfl) (stBo HN.out.c1 (HN.out.fz 1))) ?_
  simp only [Act.put, List.setIfInBounds_toArray, List.set_cons_succ, List.set_cons_zero]
  refine wpList_nil ?_
  go_wp2_with fail
  go_ret
  have hm : b ∈ E :: bs := List.mem_cons_of_mem _ HBS.out
  have hd := List.nodup_cons.1 HL.out.one
  have hmap : bs.map (put1 ky b ⟨(ky b).n, is⟩) = (bs.map ky).set i ⟨k, is⟩ := by
    have := map_put1 (ky := ky) (x := ⟨(ky b).n, is⟩) hd.2 HI.out
    rw [HB.out] at this
    rw [this, HKN.out]
  have hpin : pinS k is (bs.map ky) = (bs.map ky).set i ⟨k, is⟩ := by unfold pinS; rw [HPI.out, if_pos HI'.out]
  have hkk : ∀ x, (put1 ky b ⟨(ky b).n, is⟩ x).n = (ky x).n := fun x => by
    by_cases e : x = b
    · subst e; rw [put1_at]
    · rw [put1_off _ _ e]
  have hB := HL.out.low.2.2 b hm
  have ht : TurnP B w (w.setCell ⟨b, 1, none⟩ (.bool is)) := ((Turn.refl isNd B w).node hB HN.out 1 (.bool is)).widen nd_pl
  have hoth : ∀ (c : Nat) (o : Obj), w.heap[c]? = some o → ¬ isNd o → (w.setCell ⟨b, 1, none⟩ (.bool is)).heap[c]? = some o := fun c o ho hn => ((Turn.refl isNd B w).node hB HN.out 1 (.bool is)).keep ho hn
  refine ⟨by rw [fndE_hit HPI.out HI'.out]; rfl, ⟨E, bm, bs, put1 ky b ⟨(ky b).n, is⟩, pv, nx, M, ⟨hoth _ _ HL.out.at_ (by show ¬ (49 = 52); decide), HL.out.lnk.s1 is hm, HL.out.seg, HL.out.one, HL.out.map.kept fun es c hb => hoth _ _ hb fun e => e, fun x hx => by rw [hkk]; exact HL.out.hit x hx, fun j x hj hx => by rw [hkk]; exact HL.out.who j x hj hx, HL.out.low, ?_, HL.out.rm⟩, by rw [hmap, hpin]⟩, ht⟩
  rw [hmap, ← hpin]
  exact HL.out.ok.pin
theorem drop_hit (w : World) (h : PLu w B p room E bm bs ky pv nx M) (hw : (Lit.int .i64 k).wf = true) (hi : plc k (bs.map ky) < bs.length) :
    Calls Try.prog 20 #[.pointer (some ⟨p, 0, none⟩), .int .i64 k] w fun e w' => e = .returned (.int .i64 (fndE k (bs.map ky))) ∧ PL w' B p room (drpS k (bs.map ky)) ∧ TurnP B w w' := by
  obtain ⟨i, hpi⟩ : ∃ i, plc k (bs.map ky) = i := ⟨_, rfl⟩
  rw [hpi] at hi
  obtain ⟨b, hb⟩ : ∃ b, bs.getD i 0 = b := ⟨_, rfl⟩
  have hbs : b ∈ bs := by rw [← hb]; exact getD_mem hi
  have hi' : i < (bs.map ky).length := by rw [List.length_map]; exact hi
  have HL := Lib.hid h
  have HF := Lib.hid (h.find w hw hpi hi hb)
  have HI := Lib.hid hi
  have HI' := Lib.hid hi'
  have HB := Lib.hid hb
  have HBS := Lib.hid hbs
  have HPI := Lib.hid hpi
  clear h hi hb hbs hpi hw hi'
  go_enter Try.func20, Try.ntmps20
  go_wp2_with fail
  refine HF.out.mono ?_
  rintro e w1 ⟨rfl, rfl⟩
  go_wp2_with fail
  refine (p_remove w HL.out HI.out HB.out).mono ?_
  rintro e w3 ⟨rfl, ⟨pv', nx', M', h3⟩, ht3, _⟩
  have H3 := Lib.hid h3
  have HT3 := Lib.hid ht3
  clear h3 ht3
  go_wp2_with fail
  go_ret
  refine ⟨by rw [fndE_hit HPI.out HI'.out]; rfl, ⟨E, bm, _, ky, pv', nx', M', H3.out, ?_⟩, HT3.out⟩
  unfold drpS
  rw [HPI.out, if_pos HI'.out, wo_map]
theorem has_no (w : World) (h : PLu w B p room E bm bs ky pv nx M) (hw : (Lit.int .i64 k).wf = true) (hi : ¬ plc k (bs.map ky) < bs.length) :
    Calls Try.prog 18 #[.pointer (some ⟨p, 0, none⟩), .int .i64 k] w fun e w' => e = .returned (.bool (hasK k (bs.map ky))) ∧ w = w' := by
  have hr : hasK k (bs.map ky) = false := by unfold hasK; rw [List.length_map, decide_eq_false hi]
  have HF := Lib.hid (p_find_no w h hw (h.no_key hw hi))
  rw [hr]
  clear h hi hw hr
  go_enter Try.func18, Try.ntmps18
  go_wp2_with fail
  refine HF.out.mono ?_
  rintro e w1 ⟨rfl, rfl⟩
  go_wp2_with fail
  go_ret
  exact ⟨rfl, rfl⟩
theorem has_hit (w : World) (h : PLu w B p room E bm bs ky pv nx M) (hw : (Lit.int .i64 k).wf = true) (hi : plc k (bs.map ky) < bs.length) :
    Calls Try.prog 18 #[.pointer (some ⟨p, 0, none⟩), .int .i64 k] w fun e w' => e = .returned (.bool (hasK k (bs.map ky))) ∧ w = w' := by
  obtain ⟨i, hpi⟩ : ∃ i, plc k (bs.map ky) = i := ⟨_, rfl⟩
  rw [hpi] at hi
  obtain ⟨b, hb⟩ : ∃ b, bs.getD i 0 = b := ⟨_, rfl⟩
  have hbs : b ∈ bs := by rw [← hb]; exact getD_mem hi
  have hi' : i < (bs.map ky).length := by rw [List.length_map]; exact hi
  have HL := Lib.hid h
  have HF := Lib.hid (h.find w hw hpi hi hb)
  have HI := Lib.hid hi
  have HI' := Lib.hid hi'
  have HB := Lib.hid hb
  have HBS := Lib.hid hbs
  have HPI := Lib.hid hpi
  have hr : hasK k (bs.map ky) = true := by unfold hasK; rw [hpi, decide_eq_true hi']
  rw [hr]
  clear hr
  clear h hi hb hbs hpi hw hi'
  go_enter Try.func18, Try.ntmps18
  go_wp2_with fail
  refine HF.out.mono ?_
  rintro e w1 ⟨rfl, rfl⟩
  go_wp2_with fail
  go_ret
  exact ⟨rfl, rfl⟩
theorem pinned_no (w : World) (h : PLu w B p room E bm bs ky pv nx M) (hw : (Lit.int .i64 k).wf = true) (hi : ¬ plc k (bs.map ky) < bs.length) :
    Calls Try.prog 19 #[.pointer (some ⟨p, 0, none⟩), .int .i64 k] w fun e w' => e = .returned (.bool (pndK k (bs.map ky))) ∧ w = w' := by
  have hr : pndK k (bs.map ky) = false := by unfold pndK; rw [List.length_map, decide_eq_false hi]; rfl
  have HF := Lib.hid (p_find_no w h hw (h.no_key hw hi))
  rw [hr]
  clear h hi hw hr
  go_enter Try.func19, Try.ntmps19
  go_wp2_with fail
  refine HF.out.mono ?_
  rintro e w1 ⟨rfl, rfl⟩
  go_wp2_with fail
  go_ret
  exact ⟨rfl, rfl⟩
theorem pinned_hit (w : World) (h : PLu w B p room E bm bs ky pv nx M) (hw : (Lit.int .i64 k).wf = true) (hi : plc k (bs.map ky) < bs.length) :
    Calls Try.prog 19 #[.pointer (some ⟨p, 0, none⟩), .int .i64 k] w fun e w' => e = .returned (.bool (pndK k (bs.map ky))) ∧ w = w' := by
  obtain ⟨i, hpi⟩ : ∃ i, plc k (bs.map ky) = i := ⟨_, rfl⟩
  rw [hpi] at hi
  obtain ⟨b, hb⟩ : ∃ b, bs.getD i 0 = b := ⟨_, rfl⟩
  have hbs : b ∈ bs := by rw [← hb]; exact getD_mem hi
  have hi' : i < (bs.map ky).length := by rw [List.length_map]; exact hi
  have HL := Lib.hid h
  have HF := Lib.hid (h.find w hw hpi hi hb)
  have HI := Lib.hid hi
  have HI' := Lib.hid hi'
  have HB := Lib.hid hb
  have HBS := Lib.hid hbs
  have HPI := Lib.hid hpi
  have HN := Lib.hid (h.lnk b (List.mem_cons_of_mem _ hbs))
  have hr : pndK k (bs.map ky) = (ky b).pin := by unfold pndK; rw [hpi, decide_eq_true hi', getD_map ky bs 0 ky0 hi, hb]; rfl
  rw [hr]
  clear hr
  clear h hi hb hbs hpi hw hi'
  go_enter Try.func19, Try.ntmps19
  go_wp2_with fail
  refine HF.out.mono ?_
  rintro e w1 ⟨rfl, rfl⟩
  go_upto_region 2 with fail
  refine wp_region_lit ?_
  refine wpList_valn rfl (exec_mv rfl (ev rfl)) ?_
  simp only [Act.put, List.setIfInBounds_toArray, List.set_cons_succ, List.set_cons_zero]
  refine wpList_valn (v := .bool true) rfl (exec_eqInt true rfl (ev rfl) evk rfl) ?_
  simp only [Act.put, List.setIfInBounds_toArray, List.set_cons_succ, List.set_cons_zero]
  refine wpList_valn (v := .bool true) rfl (exec_mv rfl (ev rfl)) ?_
  simp only [Act.put, List.setIfInBounds_toArray, List.set_cons_succ, List.set_cons_zero]
  refine wpList_val (wanted_of rfl rfl rfl rfl) (exec_mv rfl (ev rfl)) ?_
  simp only [Act.put, List.setIfInBounds_toArray, List.set_cons_succ, List.set_cons_zero]
  refine wpList_val (wanted_of rfl rfl rfl rfl) (exec_nil rfl (ev rfl)) ?_
  simp only [Act.put, List.setIfInBounds_toArray, List.set_cons_succ, List.set_cons_zero]
  refine wpList_val (wanted_of rfl rfl rfl rfl) (exec_faddr rfl (ev rfl) faNd1) ?_
  simp only [Act.put, List.setIfInBounds_toArray, List.set_cons_succ, List.set_cons_zero]
  refine wpList_val (wanted_of rfl rfl rfl rfl) (exec_ld rfl (ev rfl) (ldBo (HN.out).c1)) ?_
  simp only [Act.put, List.setIfInBounds_toArray, List.set_cons_succ, List.set_cons_zero]
  refine wpList_valn rfl (exec_pt rfl (ev rfl) (ev rfl)) ?_
  simp only [Act.put, List.setIfInBounds_toArray, List.set_cons_succ, List.set_cons_zero]
  refine wpList_valn rfl (exec_as rfl (ev rfl)) ?_
  simp only [Act.put, List.setIfInBounds_toArray, List.set_cons_succ, List.set_cons_zero]
  refine wpList_nil ?_
  go_wp2_with fail
  go_ret
  exact ⟨rfl, rfl⟩
theorem pl_pin (w : World) (h : PL w B p room L) (hw : (Lit.int .i64 k).wf = true) (is : Bool) : Calls Try.prog 17 #[.pointer (some ⟨p, 0, none⟩), .int .i64 k, .bool is] w fun e w' => e = .returned (.int .i64 (fndE k L)) ∧ PL w' B p room (pinS k is L) ∧ TurnP B w w' := by
  obtain ⟨E, bm, bs, ky, pv, nx, M, h, rfl⟩ := h
  by_cases hi : plc k (bs.map ky) < bs.length
  · exact pin_hit w h hw is hi
  · exact pin_no w h hw is hi
theorem pl_drop (w : World) (h : PL w B p room L) (hw : (Lit.int .i64 k).wf = true) : Calls Try.prog 20 #[.pointer (some ⟨p, 0, none⟩), .int .i64 k] w fun e w' => e = .returned (.int .i64 (fndE k L)) ∧ PL w' B p room (drpS k L) ∧ TurnP B w w' := by
  obtain ⟨E, bm, bs, ky, pv, nx, M, h, rfl⟩ := h
  by_cases hi : plc k (bs.map ky) < bs.length
  · exact drop_hit w h hw hi
  · exact drop_no w h hw hi
theorem pl_has (w : World) (h : PL w B p room L) (hw : (Lit.int .i64 k).wf = true) : Calls Try.prog 18 #[.pointer (some ⟨p, 0, none⟩), .int .i64 k] w fun e w' => e = .returned (.bool (hasK k L)) ∧ w = w' := by
  obtain ⟨E, bm, bs, ky, pv, nx, M, h, rfl⟩ := h
  by_cases hi : plc k (bs.map ky) < bs.length
  · exact has_hit w h hw hi
  · exact has_no w h hw hi
theorem pl_pinned (w : World) (h : PL w B p room L) (hw : (Lit.int .i64 k).wf = true) : Calls Try.prog 19 #[.pointer (some ⟨p, 0, none⟩), .int .i64 k] w fun e w' => e = .returned (.bool (pndK k L)) ∧ w = w' := by
  obtain ⟨E, bm, bs, ky, pv, nx, M, h, rfl⟩ := h
  by_cases hi : plc k (bs.map ky) < bs.length
  · exact pinned_hit w h hw hi
  · exact pinned_no w h hw hi
theorem pl_room (w : World) (h : PL w B p room L) : Calls Try.prog 15 #[.pointer (some ⟨p, 0, none⟩)] w fun e w' => e = .returned (.int .i64 (room : Int)) ∧ w = w' := by
  obtain ⟨E, bm, bs, ky, pv, nx, M, h, rfl⟩ := h
  have HL := Lib.hid h
  clear h
  go_enter Try.func15, Try.ntmps15
  go_wp2_with fail
  refine (p_made _ HL.out).mono ?_
  rintro e w1 ⟨rfl, rfl⟩
  have c0 := HL.out.c0
  go_wp2_with fail
  go_ret
  exact ⟨rfl, rfl⟩
set_option maxHeartbeats 1000000 in
theorem pl_keys (w : World) (h : PL w B p room L) : Calls Try.prog 13 #[.pointer (some ⟨p, 0, none⟩)] w fun e w' => ∃ v, e = .returned v ∧ MadeE IntE w' w.heap.size v (keyL L) ∧ Below w.heap.size w w' := by
  obtain ⟨E, bm, bs, ky, pv, nx, M, h, rfl⟩ := h
  have HL := Lib.hid h
  have HE := Lib.hid (h.lnk E (by simp))
  have HNV : Hid (∀ i, i ≤ bs.length → nx ((E :: bs).getD i 0) = (bs ++ [E]).getD i 0) := Lib.hid (seg_nxi h.seg)
  have HEV : Hid (nx E = (bs ++ [E]).getD 0 0) := Lib.hid (HNV.out 0 (Nat.zero_le _))
  have hd := List.nodup_cons.1 h.one
  have hone : (bs ++ [E]).Nodup := List.nodup_append.2 ⟨hd.2, by simp, fun x hx y hy e => by simp at hy; subst hy e; exact hd.1 hx⟩
  have HPS : Hid (∀ i, i ≤ bs.length → posn ((bs ++ [E]).getD i 0) (bs ++ [E]) = i) := Lib.hid fun i hi => posn_at hone (by simp; omega)
  have HNO := Lib.hid hd.1
  have HLE : Hid (bs.length ≤ 64) := Lib.hid (by have := h.ok.len; rw [List.length_map] at this; have := h.rm; omega)
  obtain ⟨j0, hj0, hz0⟩ := infNd
  have HJ := Lib.hid hj0
  have HZ := Lib.hid hz0
  have HLK := Lib.hid h.lnk
  have HKY : Hid (∀ i, i < bs.length → keyL ((bs.take i).map ky) ++ [(ky (bs.getD i 0)).n] = keyL ((bs.take (i + 1)).map ky)) := Lib.hid fun i hi => by
    have e0 : bs.getD i 0 = bs[i] := by simp [List.getD, hi]
    rw [List.take_succ_eq_append_getElem hi, e0]
    unfold keyL
    rw [List.map_append, List.map_append]
    rfl
  have HKL : Hid (∀ i, i ≤ bs.length → (keyL ((bs.take i).map ky)).length ≤ 64) := Lib.hid fun i hi => by have := HLE.out; unfold keyL; simp; omega
  clear h hj0 hz0 hd hone
  go_enter Try.func13, Try.ntmps13
  go_wp2_with fail
  refine (p_made _ HL.out).mono ?_
  rintro e w1 ⟨rfl, rfl⟩
  go_upto_region 4 with fail
  refine wp_region_lit ?_
  refine wpList_valn rfl (exec_mv rfl (ev rfl)) ?_
  simp only [Act.put, List.setIfInBounds_toArray, List.set_cons_succ, List.set_cons_zero]
  refine wpList_valn rfl (exec_nil rfl (ev rfl)) ?_
  simp only [Act.put, List.setIfInBounds_toArray, List.set_cons_succ, List.set_cons_zero]
  refine wpList_valn rfl (exec_faddr rfl (ev rfl) faLs1) ?_
  simp only [Act.put, List.setIfInBounds_toArray, List.set_cons_succ, List.set_cons_zero]
  refine wpList_valn rfl (exec_ld rfl (ev rfl) (ldNd (HL.out).c1)) ?_
  simp only [Act.put, List.setIfInBounds_toArray, List.set_cons_succ, List.set_cons_zero]
  refine wpList_valn rfl (exec_nil rfl (ev rfl)) ?_
  simp only [Act.put, List.setIfInBounds_toArray, List.set_cons_succ, List.set_cons_zero]
  refine wpList_valn rfl (exec_faddr rfl (ev rfl) faNd3) ?_
  simp only [Act.put, List.setIfInBounds_toArray, List.set_cons_succ, List.set_cons_zero]
  refine wpList_valn rfl (exec_ld rfl (ev rfl) (ldNd (HE.out).c3)) ?_
  simp only [Act.put, List.setIfInBounds_toArray, List.set_cons_succ, List.set_cons_zero]
  refine wpList_valn rfl (exec_as rfl (ev rfl)) ?_
  simp only [Act.put, List.setIfInBounds_toArray, List.set_cons_succ, List.set_cons_zero]
  refine wpList_nil ?_
  rw [HEV.out]
  go_wp2_with fail
  go_loopw [3, 4] (fun u v wr => ∃ i, i ≤ bs.length ∧ v = .pointer (some ⟨(bs ++ [E]).getD i 0, 0, none⟩) ∧ MadeE IntE wr w.heap.size u (keyL ((bs.take i).map ky)) ∧ Below w.heap.size w wr) (fun _ v _ => bs.length - posn (blkOf v) (bs ++ [E]))
  case atStart => exact ⟨0, Nat.zero_le _, rfl, by rw [List.take_zero]; exact MadeE.nil _ _, Below.refl _ _⟩
  case round =>
    obtain ⟨i, hi, rfl, hm, hbl⟩ := hrel
    have HM := Lib.hid hm
    have HB := Lib.hid hbl
    clear hm hbl
    by_cases hlt : i < bs.length
    · obtain ⟨b, hb⟩ : ∃ b, bs.getD i 0 = b := ⟨_, rfl⟩
      have hbm : b ∈ bs := by rw [← hb]; exact getD_mem hlt
      have hga : (bs ++ [E]).getD i 0 = b := by rw [← hb]; simp [List.getD, List.getElem?_append_left hlt]
      have HN := Lib.hid (HL.out.below HB.out).lnk
      have HNB := Lib.hid (HN.out b (List.mem_cons_of_mem _ hbm))
      have HNE : Hid (b ≠ E) := Lib.hid fun e => HNO.out (by rw [← e]; exact hbm)
      have HPB : Hid (nx b = (bs ++ [E]).getD (i + 1) 0) := Lib.hid (by
        have := HNV.out (i + 1) (by omega)
        rw [← this, ← hb]
        rfl)
      have HGA := Lib.hid hga
      have HBE := Lib.hid hb
      have HLT := Lib.hid hlt
      clear hb hbm hga hlt
      rw [HGA.out]
      go_upto_region 5 with fail
      refine wp_region_lit ?_
      refine wpList_valn rfl (exec_mv rfl (ev rfl)) ?_
      simp only [Act.put, List.setIfInBounds_toArray, List.set_cons_succ, List.set_cons_zero]
      refine wpList_valn rfl (exec_mv rfl (ev rfl)) ?_
      simp only [Act.put, List.setIfInBounds_toArray, List.set_cons_succ, List.set_cons_zero]
      refine wpList_valn rfl (exec_nil rfl (ev rfl)) ?_
      simp only [Act.put, List.setIfInBounds_toArray, List.set_cons_succ, List.set_cons_zero]
      refine wpList_valn rfl (exec_faddr rfl (ev rfl) faLs1) ?_
      simp only [Act.put, List.setIfInBounds_toArray, List.set_cons_succ, List.set_cons_zero]
      refine wpList_valn rfl (exec_ld rfl (ev rfl) (ldNd ((HL.out.below HB.out)).c1)) ?_
      simp only [Act.put, List.setIfInBounds_toArray, List.set_cons_succ, List.set_cons_zero]
      refine wpList_valn (v := .bool true) rfl (exec_nePt true Try.underlying46 HJ.out HZ.out rfl (ev rfl) (ev rfl) HNB.out (HN.out E (by simp)) (by have := HNE.out; simp [this])) ?_
      simp only [Act.put, List.setIfInBounds_toArray, List.set_cons_succ, List.set_cons_zero]
      refine wpList_nil ?_
      go_upto_region 7 with fail
      refine wp_region_lit ?_
      refine wpList_valn rfl (exec_mv rfl (ev rfl)) ?_
      simp only [Act.put, List.setIfInBounds_toArray, List.set_cons_succ, List.set_cons_zero]
      refine wpList_valn rfl (exec_mv rfl (ev rfl)) ?_
      simp only [Act.put, List.setIfInBounds_toArray, List.set_cons_succ, List.set_cons_zero]
      refine wpList_valn rfl (exec_nil rfl (ev rfl)) ?_
      simp only [Act.put, List.setIfInBounds_toArray, List.set_cons_succ, List.set_cons_zero]
      refine wpList_valn rfl (exec_faddr rfl (ev rfl) faNd0) ?_
      simp only [Act.put, List.setIfInBounds_toArray, List.set_cons_succ, List.set_cons_zero]
      refine wpList_valn rfl (exec_ld rfl (ev rfl) (ldInt (HNB.out).c0)) ?_
      simp only [Act.put, List.setIfInBounds_toArray, List.set_cons_succ, List.set_cons_zero]
      refine wpList_valn rfl (exec_mk1E (E := IntE) (a := (ky b).n) rfl (ev rfl) rfl (by decide)) ?_
      simp only [Act.put, List.setIfInBounds_toArray, List.set_cons_succ, List.set_cons_zero]
      refine wpList_appE IntE rfl _ _ rfl w.heap.size (wr.heap.size + 1) 1 1 _ (keyL ((bs.take i).map ky)) [(ky b).n] (some ⟨wr.heap.size, 0, none⟩) (ev rfl) (ev rfl) (HM.out.below ((Below.refl _ wr).alloc (Nat.le_refl _) _)) (rdE_new wr _ _ rfl) (by rw [World.size_alloc]; exact Nat.le_succ_of_le HB.out.size) (by have := HKL.out i hi; omega) ?_
      intro v' w2 hm2 hg2
      simp only [Act.put, List.setIfInBounds_toArray, List.set_cons_succ, List.set_cons_zero]
      refine wpList_valn rfl (exec_as rfl (ev rfl)) ?_
      simp only [Act.put, List.setIfInBounds_toArray, List.set_cons_succ, List.set_cons_zero]
      refine wpList_nil ?_
      have hky := HKY.out i HLT.out
      rw [HBE.out] at hky
      rw [hky] at hm2
      have HM2 := Lib.hid hm2
      have HB2 : Hid (Below w.heap.size w w2) := Lib.hid ((HB.out.alloc HB.out.size _).grown hg2 (by have := HB.out.size; simp; omega) fun j hj => HM.out.lt_own j hj)
      have HN2 := Lib.hid ((HL.out.below HB2.out).lnk b (List.mem_cons_of_mem _ (by rw [← HBE.out]; exact getD_mem HLT.out)))
      clear hm2 hg2 hky
      go_upto_region 6 with fail
      refine wp_region_lit ?_
      refine wpList_valn rfl (exec_mv rfl (ev rfl)) ?_
      simp only [Act.put, List.setIfInBounds_toArray, List.set_cons_succ, List.set_cons_zero]
      refine wpList_valn rfl (exec_nil rfl (ev rfl)) ?_
      simp only [Act.put, List.setIfInBounds_toArray, List.set_cons_succ, List.set_cons_zero]
      refine wpList_valn rfl (exec_faddr rfl (ev rfl) faNd3) ?_
      simp only [Act.put, List.setIfInBounds_toArray, List.set_cons_succ, List.set_cons_zero]
      refine wpList_valn rfl (exec_ld rfl (ev rfl) (ldNd (HN2.out).c3)) ?_
      simp only [Act.put, List.setIfInBounds_toArray, List.set_cons_succ, List.set_cons_zero]
      refine wpList_valn rfl (exec_as rfl (ev rfl)) ?_
      simp only [Act.put, List.setIfInBounds_toArray, List.set_cons_succ, List.set_cons_zero]
      refine wpList_nil ?_
      rw [HPB.out]
      go_wp2_with fail
      go_roundw
      case rel => exact ⟨i + 1, HLT.out, rfl, HM2.out, HB2.out⟩
      case measure =>
        show bs.length - posn ((bs ++ [E]).getD (i + 1) 0) (bs ++ [E]) < bs.length - posn b (bs ++ [E])
        have h1 := HPS.out (i + 1) HLT.out
        have h2 := HPS.out i hi
        rw [HGA.out] at h2
        have := HLT.out
        omega
    · have hie : i = bs.length := by omega
      have HGA : Hid ((bs ++ [E]).getD i 0 = E) := Lib.hid (by rw [hie]; simp)
      have HN := Lib.hid ((HL.out.below HB.out).lnk E (by simp))
      have HTK : Hid (bs.take i = bs) := Lib.hid (by rw [hie, List.take_length])
      clear hie hlt
      rw [HGA.out]
      go_upto_region 5 with fail
      refine wp_region_lit ?_
      refine wpList_valn rfl (exec_mv rfl (ev rfl)) ?_
      simp only [Act.put, List.setIfInBounds_toArray, List.set_cons_succ, List.set_cons_zero]
      refine wpList_valn rfl (exec_mv rfl (ev rfl)) ?_
      simp only [Act.put, List.setIfInBounds_toArray, List.set_cons_succ, List.set_cons_zero]
      refine wpList_valn rfl (exec_nil rfl (ev rfl)) ?_
      simp only [Act.put, List.setIfInBounds_toArray, List.set_cons_succ, List.set_cons_zero]
      refine wpList_valn rfl (exec_faddr rfl (ev rfl) faLs1) ?_
      simp only [Act.put, List.setIfInBounds_toArray, List.set_cons_succ, List.set_cons_zero]
      refine wpList_valn rfl (exec_ld rfl (ev rfl) (ldNd ((HL.out.below HB.out)).c1)) ?_
      simp only [Act.put, List.setIfInBounds_toArray, List.set_cons_succ, List.set_cons_zero]
      refine wpList_valn (v := .bool false) rfl (exec_nePt false Try.underlying46 HJ.out HZ.out rfl (ev rfl) (ev rfl) HN.out HN.out (by simp)) ?_
      simp only [Act.put, List.setIfInBounds_toArray, List.set_cons_succ, List.set_cons_zero]
      refine wpList_nil ?_
      have hm := HM.out
      rw [HTK.out] at hm
      have HM2 := Lib.hid hm
      clear hm
      go_wp2_with fail
      go_ret
      exact ⟨_, rfl, HM2.out, HB.out⟩
end
def newE_ (n : Int) : Int := if 1 ≤ n ∧ n ≤ 64 then 0 else 2
theorem pl_new_no (n : Int) (w : World) (h : ¬ (1 ≤ n ∧ n ≤ 64)) : Calls Try.prog 8 #[.int .i64 n] w fun e w' => e = .returned (.tuple #[.pointer none, .int .i64 2]) ∧ w = w' := by
  by_cases h1 : n < 1
  · have hd : decide (n < 1) = true := decide_eq_true h1
    go_enter Try.func8, Try.ntmps8
    go_wp2_with fail
    go_ret2
    exact ⟨rfl, rfl⟩
  · have hd : decide (n < 1) = false := decide_eq_false h1
    have hd2 : decide (64 < n) = true := decide_eq_true (by omega)
    go_enter Try.func8, Try.ntmps8
    go_wp2_with fail
    go_ret2
    exact ⟨rfl, rfl⟩
set_option maxHeartbeats 1000000 in
theorem pl_new (room : Nat) (w : World) (h1 : 1 ≤ room) (h2 : room ≤ 64) : Calls Try.prog 8 #[.int .i64 (room : Int)] w fun e w' => ∃ p, e = .returned (.tuple #[.pointer (some ⟨p, 0, none⟩), .int .i64 0]) ∧ PL w' w.heap.size p room [] ∧ Below w.heap.size w w' := by
  have hmm := @run_makeMap Try.prog
  have hd : decide ((room : Int) < 1) = false := decide_eq_false (by omega)
  have hd2 : decide (64 < (room : Int)) = false := decide_eq_false (by omega)
  go_enter Try.func8, Try.ntmps8
  go_wp2_with fail
  go_ret2
  have b1 : Below w.heap.size w (w.alloc (.cells (nodC ky0 (ptB w.heap.size) (ptB w.heap.size)).toArray 52)) := (Below.refl _ _).alloc (Nat.le_refl _) _
  have hb : Below w.heap.size w (((w.alloc (.cells (nodC ky0 (ptB w.heap.size) (ptB w.heap.size)).toArray 52)).alloc (.map #[] 0)).alloc (.cells #[.int .i64 (room : Int), ptB w.heap.size, .map (some (w.heap.size + 1))] 49)) :=
    (b1.alloc (by simp) _).alloc (by simp; omega) _
  refine ⟨_, rfl, ⟨w.heap.size, w.heap.size + 1, [], fun _ => ky0, fun _ => w.heap.size, fun _ => w.heap.size, fun _ => none, ⟨?_, fun b hb => ?_, ⟨rfl, rfl⟩, by simp, ?_, by simp, (fun k b _ e => by cases e), ⟨by omega, by omega, fun b hb => by simp at hb; omega⟩, LOk.nil, ⟨h1, h2⟩⟩, rfl⟩, hb⟩
  · have := heap_alloc_new ((w.alloc (.cells (nodC ky0 (ptB w.heap.size) (ptB w.heap.size)).toArray 52)).alloc (.map #[] 0)) (.cells #[.int .i64 (room : Int), ptB w.heap.size, .map (some (w.heap.size + 1))] 49)
    rw [World.size_alloc, World.size_alloc] at this
    exact this
  · simp at hb
    subst hb
    exact blk_past (blk_past (heap_alloc_new w _) _) _
  · have := MapN.made (w.alloc (.cells (nodC ky0 (ptB w.heap.size) (ptB w.heap.size)).toArray 52))
    rw [World.size_alloc] at this
    exact this.kept fun es c hb => blk_past hb _
theorem pl_new_errs {n : Int} : newE_ n = 0 ∨ newE_ n = 2 := by unfold newE_; split <;> simp
end Go.Proofs.Ytmnabdojlekjcaa
