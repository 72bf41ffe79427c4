import Derived.Test.YtbbcdhkinbmdnaaGreatDoorLoba
import Derived.Test.YtbbcdhkinbmdnaaGreatDoorLoao
import Derived.Test.YtbbcdhkinbmdnaaGreatDoorLobj
import Derived.Test.YtbbcdhkinbmdnaaGreatDoorLobc
import Derived.Test.YtbbcdhkinbmdnaaGreatDoorLobg
import Derived.Test.YtbbcdhkinbmdnaaGreatDoorLobh
import Derived.Test.YtbbcdhkinbmdnaaGreatDoorLobi
import Derived.Test.YtbbcdhkinbmdnaaGreatDoorLoar
import Derived.Test.YtbbcdhkinbmdnaaGreatDoorLoan
import Derived.Test.YtbbcdhkinbmdnaaGreatDoorLoam
import Derived.Deep.DeepCutAuto
import Derived.Test.YtbbcdhkinbmdnaaGreatDoorLoad
import Derived.Test.YtbbcdhkinbmdnaaGreatDoorLoZ
namespace Go.Proofs.YtbbcdhkinbmdnaaGreatDoor
open Go.RowKit
set_option linter.unusedVariables false
set_option linter.unusedSimpArgs false
set_option maxRecDepth 100000
section
variable {M : BenS} {x : LgS} {s : Nat} {E : Int}
theorem rcd_no (h : rcdE M x s = E) (hE : E ≠ 0) : rcdC M x s = [] := if_neg (by rw [h]; exact hE)
theorem rcd_dead (h : ¬ (x.fst ≤ s ∧ s < x.next)) : rcdE M x s = 7 := if_neg fun e => h (of_decide_eq_true e)
theorem rcd_bad (h : x.fst ≤ s ∧ s < x.next) (h0 : bT M x.d (bK x.size (x.note s).pos) ≠ 0) : rcdE M x s = bT M x.d (bK x.size (x.note s).pos) := by
 exact (if_pos (show livQ x s = true from decide_eq_true h)).trans (if_neg h0)
theorem rcd_live (h : x.fst ≤ s ∧ s < x.next) (h0 : bT M x.d (bK x.size (x.note s).pos) = 0) : rcdE M x s = rcdF (rcdL M x (x.note s)) (x.note s) := by
 exact (if_pos (show livQ x s = true from decide_eq_true h)).trans (if_pos h0)
theorem rcdL_length (n : Nte) : (rcdL M x n).length = bc n := by unfold rcdL; rw [List.length_map, List.length_range]
theorem rcdL_take {n : Nte} {j : Nat} (h : j < bc n) : (rcdL M x n).take (j + 1) = (rcdL M x n).take j ++ [cq M x.d (bK x.size (n.pos + j))] := by
 rw [List.take_succ_eq_append_getElem (by rw [rcdL_length]; exact h)]
 simp [rcdL]
end
def fE (M : BenS) (x : LgS) (s : Nat) (w : World) (e : Ending) (w' : World) : Prop := ∃ v', e = .returned (.tuple #[v', .int .i64 (rcdE M x s)]) ∧ aH bY w' w.heap.size v' (rcdC M x s) ∧ Below w.heap.size w w'
theorem fE.err {M : BenS} {x : LgS} {s : Nat} {w w' : World} {E : Int} {e : Ending} (h : rcdE M x s = E) (hE : E ≠ 0) (hb : Below w.heap.size w w') (he : e = .returned (.tuple #[.slice none 0 0, .int .i64 E])) : fE M x s w e w' :=
 ⟨_, by rw [h]; exact he, by rw [rcd_no h hE]; exact aH.nil _ _, hb⟩
set_option maxHeartbeats 1600000 in
theorem rlrecord {w0 w : World} {H : Nat → Prop} {p q N : Nat} {v : Value} {M : BenS} {x : LgS} (s : Nat) (h : RJ w0 H (fun _ => False) w p q v M x) (hk : LgOk M x N) (hs : s < 18446744073709551616) :
  Calls Tryz.prog 52 #[.pointer (some ⟨p, 0, none⟩), .int .u64 (s : Nat)] w (fE M x s w) := by
 have HJ := af h
 have HL := af h.log
 have HK := af hk
 have hnx : x.next = x.fst + x.nts.length := rfl
 by_cases k0 : s < x.fst
 ·have H0 : Hid (decide ((s : Int) < (x.fst : Int)) = true) := af (decide_eq_true (by omega))
  have HN : Hid (rcdE M x s = 7) := af (rcd_dead (by omega))
  clear k0 hnx h hk hs
  go_enter Tryz.func52, Tryz.ntmps52
  go_upto_region 1 with fail
  refine ag ?_
  refine ai rfl (aj rfl (ev rfl)) ?_;simp only [aa]
  refine ai rfl (aj rfl (ev rfl)) ?_;simp only [aa]
  refine ai rfl (aB rfl (ev rfl)) ?_;simp only [aa]
  refine ai rfl (am rfl (ev rfl) faLg5) ?_;simp only [aa]
  refine ai rfl (au rfl (ev rfl) (bL (RLg.c5 HL.out))) ?_;simp only [aa]
  refine ai (v := .bool true) rfl (aZ true rfl (ev rfl) (ev rfl) H0.out) ?_;simp only [aa]
  refine aC 4 (v := .bool true) rfl (aj rfl (ev rfl)) (by kernel_rfl) ?_
  simp only [aJ, ae, aa]
  refine ai (v := .bool true) rfl (aG rfl (ev rfl) evk) ?_;simp only [aa]
  refine ah ?_
  go_wp2_with fail
  go_ret2
  exact fE.err HN.out (by decide) (Below.refl _ _) rfl
 ·have H0 : Hid (decide ((s : Int) < (x.fst : Int)) = false) := af (decide_eq_false (by omega))
  by_cases k1 : x.next ≤ s
  ·have H1 : Hid (decide ((x.next : Int) ≤ (s : Int)) = true) := af (decide_eq_true (by omega))
   have HN : Hid (rcdE M x s = 7) := af (rcd_dead (by omega))
   clear k0 k1 hnx h hk hs
   go_enter Tryz.func52, Tryz.ntmps52
   go_upto_region 1 with fail
   refine ag ?_
   refine ai rfl (aj rfl (ev rfl)) ?_;simp only [aa]
   refine ai rfl (aj rfl (ev rfl)) ?_;simp only [aa]
   refine ai rfl (aB rfl (ev rfl)) ?_;simp only [aa]
   refine ai rfl (am rfl (ev rfl) faLg5) ?_;simp only [aa]
   refine ai rfl (au rfl (ev rfl) (bL (RLg.c5 HL.out))) ?_;simp only [aa]
   refine ai (v := .bool false) rfl (aZ false rfl (ev rfl) (ev rfl) H0.out) ?_;simp only [aa]
   refine ai (v := .bool false) rfl (aj rfl (ev rfl)) ?_;simp only [aa]
   refine al gr (aj rfl (ev rfl)) ?_;simp only [aa]
   refine al gr (aj rfl (ev rfl)) ?_;simp only [aa]
   refine ar gr (av Tryz.call36 rfl (evc (ev rfl) evn)) ?_
   refine (rlnext w HL.out HK.out).mono ?_
   rintro e w1 ⟨rfl, hb⟩
   refine ⟨_, rfl, ?_⟩
   simp only [aa]
   refine al (v := .bool true) gr (ce true rfl (ev rfl) (ev rfl) H1.out) ?_;simp only [aa]
   refine ai (v := .bool true) rfl (aE rfl (ev rfl) (ev rfl)) ?_;simp only [aa]
   refine ah ?_
   have HB1 := af hb
   clear hb
   go_wp2_with fail
   go_ret2
   exact fE.err HN.out (by decide) HB1.out rfl
  ·have H1 : Hid (decide ((x.next : Int) ≤ (s : Int)) = false) := af (decide_eq_false (by omega))
   obtain ⟨g, rfl⟩ : ∃ g, s = x.fst + g := ⟨s - x.fst, by omega⟩
   have hg : g < x.nts.length := by omega
   have hlv : x.fst ≤ x.fst + g ∧ x.fst + g < x.next := by omega
   have hnt : x.note (x.fst + g) = x.nts.getD g aM := by unfold LgS.note; rw [show x.fst + g - x.fst = g from by omega]
   obtain ⟨nt, hn⟩ : ∃ n, x.nts.getD g aM = n := ⟨_, rfl⟩
   obtain ⟨N1, hN1⟩ : ∃ n, bc nt = n := ⟨_, rfl⟩
   have t1 := hk.tak hg
   have t2 := hk.nts g hg
   have t3 := hk.end_ hg
   have t4 := hk.hed
   have t5 := hk.use
   have t6 := hk.siz
   have t7 := hk.lim
   have t8 := hk.len
   have t9 : x.head = x.pos + x.used := rfl
   rw [hn, hN1] at t1 t3
   rw [hn] at t2 hnt
   obtain ⟨u1, u2, u3, u4⟩ := t2
   have HSZ : Hid (dZ nt.cells = N1) := af (by rw [← hN1]; exact sz_tak ⟨u1, u2⟩)
   have HLB : Hid (lisB (x.size : Int) (nt.pos : Int) N1 = true) := af (lis_iff.2 (by omega))
   have HAD : Hid (∀ j, j < N1 → IntKind.i64.wrap (10 + (((nt.pos + j) % x.size : Nat) : Int)) = bK x.size (nt.pos + j)) := af fun i hi => by
    have := Nat.mod_lt (nt.pos + i) (show 0 < x.size by omega)
    rw [IntWalk.i64_in _ ⟨by omega, by omega⟩]
    unfold bK
    omega
   have HRE : Hid (∀ j, j < N1 → bT M (x.d : Int) (bK x.size (nt.pos + j)) = bT M (x.d : Int) (bK x.size nt.pos)) := af fun j hj => by
    have h1 := Nat.mod_lt (nt.pos + j) (show 0 < x.size by omega)
    have h2 := Nat.mod_lt nt.pos (show 0 < x.size by omega)
    exact rd_same (by unfold bK; omega) (by unfold bK; omega)
   obtain ⟨L, hL⟩ : ∃ L, rcdL M x nt = L := ⟨_, rfl⟩
   have HLL : Hid (L.length = N1) := af (by rw [← hL, rcdL_length, hN1])
   have HLT : Hid (∀ j, j < N1 → L.take (j + 1) = L.take j ++ [cq M x.d (bK x.size (nt.pos + j))]) := af fun j hj => by rw [← hL]; exact rcdL_take (by rw [hN1]; exact hj)
   obtain ⟨E0, hE0⟩ : ∃ E, bT M (x.d : Int) (bK x.size nt.pos) = E := ⟨_, rfl⟩
   rw [hE0] at HRE
   have HBAD : Hid (E0 ≠ 0 → rcdE M x (x.fst + g) = E0) := af fun e => by
    have := rcd_bad (M := M) hlv (by rw [hnt, hE0]; exact e)
    rwa [hnt, hE0] at this
   have HLIV : Hid (E0 = 0 → rcdE M x (x.fst + g) = rcdF L nt) := af fun e => by
    have := rcd_live (M := M) hlv (by rw [hnt, hE0]; exact e)
    rwa [hnt, hL] at this
   have HCS : Hid (rcdE M x (x.fst + g) = 0 → rcdC M x (x.fst + g) = rgC L nt.cells) := af fun e => by
    have e1 : rcdC M x (x.fst + g) = rgC (rcdL M x (x.note (x.fst + g))) (x.note (x.fst + g)).cells := if_pos e
    rwa [hnt, hL] at e1
   have HGL : Hid (g < x.nts.length) := af hg
   have HG8 : Hid (g < 9223372036854775808) := af (by have := hk.eig; omega)
   have HFX := af hs
   have HN1 : Hid (2 ≤ N1 ∧ N1 ≤ 34) := af t1
   have HNG := af hn
   clear k0 k1 hnx h hk hs hlv hnt hN1 t1 t3 t4 t5 t6 t7 t8 t9 u1 u2 u3 u4 hL hE0 hn hg
   go_enter Tryz.func52, Tryz.ntmps52
   go_upto_region 1 with fail
   refine ag ?_
   refine ai rfl (aj rfl (ev rfl)) ?_;simp only [aa]
   refine ai rfl (aj rfl (ev rfl)) ?_;simp only [aa]
   refine ai rfl (aB rfl (ev rfl)) ?_;simp only [aa]
   refine ai rfl (am rfl (ev rfl) faLg5) ?_;simp only [aa]
   refine ai rfl (au rfl (ev rfl) (bL (RLg.c5 HL.out))) ?_;simp only [aa]
   refine ai (v := .bool false) rfl (aZ false rfl (ev rfl) (ev rfl) H0.out) ?_;simp only [aa]
   refine ai (v := .bool false) rfl (aj rfl (ev rfl)) ?_;simp only [aa]
   refine al gr (aj rfl (ev rfl)) ?_;simp only [aa]
   refine al gr (aj rfl (ev rfl)) ?_;simp only [aa]
   refine ar gr (av Tryz.call36 rfl (evc (ev rfl) evn)) ?_
   refine (rlnext w HL.out HK.out).mono ?_
   rintro e w1 ⟨rfl, hb⟩
   refine ⟨_, rfl, ?_⟩
   simp only [aa]
   refine al (v := .bool false) gr (ce false rfl (ev rfl) (ev rfl) H1.out) ?_;simp only [aa]
   refine ai (v := .bool false) rfl (aE rfl (ev rfl) (ev rfl)) ?_;simp only [aa]
   refine ah ?_
   have HJ1 := af (HJ.out.below hb)
   have HL1 := af HJ1.out.log
   have HB1 := af hb
   clear hb HJ HL
   obtain ⟨A, c, rfl, hc1, hc2⟩ := HL1.out.slice
   have hrd := HL1.out.row.rd
   obtain ⟨bn, on_, eA, hbn, hrn⟩ := hrd.2 g HGL.out
   subst eA
   rw [show x.nts.getD g aY.d = nt from HNG.out] at hrn
   have HRN : Hid (w1.rangeAt bn (on_ + g * aY.n) (aQ nt)) := af hrn
   have HBN : Hid (bn < w1.heap.size) := af hbn
   have HS0 := af (bd (Below.refl w1.heap.size w1))
   clear hc1 hc2 hrd hbn hrn
   go_upto_region 3 with fail
   refine wp_region_held (S := fun w' => Below w1.heap.size w1 w') (by kernel_rfl) ?_
   change wpAnyH _ _ _ _ _ 15 _ _ w1.drew
   refine gt 0 rfl (fun w' hw => aj rfl (ev rfl)) HS0.out ?_;simp only [aa]
   refine gt 1 rfl (fun w' hw => aB rfl (ev rfl)) HS0.out ?_;simp only [aa]
   refine gt 2 rfl (fun w' hw => am rfl (ev rfl) faLg7) HS0.out ?_;simp only [aa]
   refine gt 3 rfl (fun w' hw => au rfl (ev rfl) (ldNts (RLg.c7 (HL1.out.below hw)))) HS0.out ?_;simp only [aa]
   refine gt 4 rfl (fun w' hw => aj rfl (ev rfl)) HS0.out ?_;simp only [aa]
   refine gt 5 rfl (fun w' hw => aj rfl (ev rfl)) HS0.out ?_;simp only [aa]
   refine gt 6 rfl (fun w' hw => aB rfl (ev rfl)) HS0.out ?_;simp only [aa]
   refine gt 7 rfl (fun w' hw => am rfl (ev rfl) faLg5) HS0.out ?_;simp only [aa]
   refine gt 8 rfl (fun w' hw => au rfl (ev rfl) (bL (RLg.c5 (HL1.out.below hw)))) HS0.out ?_;simp only [aa]
   refine gt 9 rfl (fun w' hw => exec_sbU (a := x.fst) (b := g) rfl (ev rfl) (ev rfl) HFX.out) HS0.out ?_;simp only [aa]
   refine gt 10 rfl (fun w' hw => exec_cvU6I rfl (ev rfl) HG8.out) HS0.out ?_;simp only [aa]
   refine gt 11 rfl (fun w' hw => bQ (E := aY) rfl (ev rfl) (ev rfl) HGL.out) HS0.out ?_;simp only [aa]
   refine gt 12 rfl (fun w' hw => bh (c := nt) rfl (ev rfl) (rng_kept (hw.block bn HBN.out) HRN.out)) HS0.out ?_;simp only [aa]
   refine cM 13 (by kernel_rfl) (fa 13 rfl rfl (bW rfl) ⟨HS0.out.alloc HS0.out.size _, ?_⟩)
   simp only [aa]
   have HS2 := af (HS0.out.alloc HS0.out.size (.cells (aQ nt).toArray 35))
   refine eg 14 rfl (by kernel_rfl) rfl (dk (c := nt) rfl (ev rfl) (ev rfl)) HS2.out ?_
   simp only [Act.put]
   refine wpAnyH_done (by kernel_rfl) ?_ _
   rw [show w1.drew.heap.size = w1.heap.size from rfl]
   have HNB : Hid (bI (w1.drew.alloc (.cells (aQ nt).toArray 35)) w1.heap.size nt) := af (bI.new w1.drew nt)
   have HB2 : Hid (Below w.heap.size w (w1.drew.alloc (.cells (aQ nt).toArray 35))) := af (HB1.out.trans (HS2.out.mono HB1.out.size))
   have HJ2 := af (HJ1.out.below HS2.out)
   generalize w1.drew.alloc (.cells (aQ nt).toArray 35) = w2 at *
   clear HS0 HS2 HRN HBN HJ1 HL1 HB1
   generalize w1.heap.size = nb at *
   go_upto_region 4 with fail
   have hS : RLg w2.drew p q (.slice (some ⟨bn, on_, none⟩) x.nts.length c) x ∧ bI w2.drew nb nt := ⟨HJ2.out.drew.log, HNB.out⟩
   refine bH (fun w' => RLg w' p q (.slice (some ⟨bn, on_, none⟩) x.nts.length c) x ∧ bI w' nb nt) 14 (by kernel_rfl) ?_
   change cF _ _ _ _ _ _ 15 _ _ w2.drew
   refine gu 0 rfl (fun w' hw => aj rfl (ev rfl)) hS ?_;simp only [aa]
   refine gu 1 rfl (fun w' hw => aB rfl (ev rfl)) hS ?_;simp only [aa]
   refine gu 2 rfl (fun w' hw => am rfl (ev rfl) faLg3) hS ?_;simp only [aa]
   refine gu 3 rfl (fun w' hw => au rfl (ev rfl) (bj (RLg.c3 hw.1))) hS ?_;simp only [aa]
   refine gu 4 rfl (fun w' hw => am rfl (ev rfl) faNt1) hS ?_;simp only [aa]
   refine gu 5 rfl (fun w' hw => au rfl (ev rfl) (bL hw.2.cells.2.1)) hS ?_;simp only [aa]
   refine gu 6 rfl (fun w' hw => am rfl (ev rfl) faNt2) hS ?_;simp only [aa]
   refine gu 7 rfl (fun w' hw => au rfl (ev rfl) (bj hw.2.cells.2.2.1)) hS ?_;simp only [aa]
   refine cQ 8 rfl (by kernel_rfl) rfl (av Tryz.call39 rfl (evc (ev rfl) evn)) ?_
   refine (rsize_v HSZ.out w2.drew).mono ?_
   rintro e w' ⟨rfl, rfl⟩
   refine ⟨_, rfl, fun _ => hS, ?_⟩
   simp only [aa]
   refine cQ 9 rfl (by kernel_rfl) rfl (av Tryz.call89 rfl (evc (ev rfl) (evc (ev rfl) (evc (ev rfl) evn)))) ?_
   refine (rlis_in (x.size : Int) (nt.pos : Int) N1 w2.drew.heap.size w2.drew (af rfl) (by omega) HLB.out).mono ?_
   rintro e w3 ⟨vw, rfl, hmw, hb⟩
   have hS3 : RLg w3 p q (.slice (some ⟨bn, on_, none⟩) x.nts.length c) x ∧ bI w3 nb nt := ⟨hS.1.below hb, hS.2.below (aK hS.2) hb⟩
   refine ⟨_, rfl, fun _ => hS3, ?_⟩
   simp only [aa]
   refine gu 10 rfl (fun w' hw => aj rfl (ev rfl)) hS3 ?_;simp only [aa]
   refine gu 11 rfl (fun w' hw => aD rfl (ev rfl) rfl) hS3 ?_;simp only [aa]
   refine gu 12 rfl (fun w' hw => aD rfl (ev rfl) rfl) hS3 ?_;simp only [aa]
   refine gu 13 rfl (fun w' hw => aq rfl (ev rfl)) hS3 ?_;simp only [aa]
   refine bl 14 rfl (by kernel_rfl) rfl (aq rfl (ev rfl)) (fun e => absurd rfl e) ?_;simp only [aa]
   refine cm (by kernel_rfl) ?_ _
   have HJ3 := af (HJ2.out.drew.below hb)
   have HNB3 : Hid (bI w3 nb nt) := af hS3.2
   have HB3 : Hid (Below w.heap.size w w3) := af (HB2.out.trans ((bd (Below.refl _ _)).trans hb |>.mono HB2.out.size))
   have hwl : (secL (x.size : Int) (nt.pos : Int) N1).length = N1 := by unfold secL; rw [List.length_map, List.length_range]
   obtain ⟨g2, c2, rfl⟩ := hmw.slice hwl (by have := HN1.out; omega)
   have HMW3 := af hmw.rd
   clear hS hS3 hb HJ2 HNB HB2 hmw hwl
   go_wp2_with fail
   go_loopw [9, 10, 12] (fun r i e12 wr => ∃ j : Nat, j ≤ N1 ∧ i = .int .i64 (j : Int) ∧ (0 < j → E0 = 0) ∧ Below w3.heap.size w3 wr ∧ dr wr w3.heap.size r (L.take j)) (fun _ i _ _ => N1 - (intOf i).toNat)
   case atStart => exact ⟨0, Nat.zero_le _, rfl, fun e => absurd e (by omega), Below.refl _ _, dr.nil _ _⟩
   case round =>
    obtain ⟨j, hjn, rfl, he0, hbr, hmr⟩ := hrel
    have hj34 : j ≤ 34 := by have := HN1.out; omega
    have HBR := af hbr
    have HMR := af hmr
    have HE0 := af he0
    have HJR := af (HJ3.out.below hbr)
    clear hbr hmr he0
    by_cases hlt : j < N1
    ·obtain ⟨gb, ob, eb, hgb, hrb⟩ := HMW3.out.2 j hlt
     injection eb with eb
     injection eb with eb1 eb2 eb3
     subst eb1 eb2
     rw [show (secL (x.size : Int) (nt.pos : Int) N1).getD j IntE.d = (((nt.pos + j) % x.size : Nat) : Int) from secL_at_ hlt] at hrb
     have HRB : Hid (wr.rangeAt g2 (0 + j * IntE.n) (IntE.cel (((nt.pos + j) % x.size : Nat) : Int))) := af (rng_kept (HBR.out.block g2 hgb) hrb)
     have HGB : Hid (g2 < wr.heap.size) := af (Nat.lt_of_lt_of_le hgb HBR.out.size)
     have HLR := af HJR.out.log
     have HRJ := af (HRE.out j hlt)
     have HTK := af (HLT.out j hlt)
     have HADJ := af (HAD.out j hlt)
     have HS0 := af (bd (Below.refl wr.heap.size wr))
     obtain ⟨rj, hrj⟩ : ∃ b, cq M (x.d : Int) (bK x.size (nt.pos + j)) = b := ⟨_, rfl⟩
     rw [hrj] at HTK
     have HRR := af hrj
     clear hrb hgb hrj
     go_upto_region 9 with fail
     refine wp_region_held (S := fun w' => Below wr.heap.size wr w') (by kernel_rfl) ?_
     change wpAnyH _ _ _ _ _ 20 _ _ wr.drew
     refine gt 0 rfl (fun w' hw => aj rfl (ev rfl)) HS0.out ?_;simp only [aa]
     refine gt 1 rfl (fun w' hw => aB rfl (ev rfl)) HS0.out ?_;simp only [aa]
     refine gt 2 rfl (fun w' hw => am rfl (ev rfl) faLg0) HS0.out ?_;simp only [aa]
     refine gt 3 rfl (fun w' hw => au rfl (ev rfl) (ldQr (RLg.c0 (HLR.out.below hw)))) HS0.out ?_;simp only [aa]
     refine gt 4 rfl (fun w' hw => aj rfl (ev rfl)) HS0.out ?_;simp only [aa]
     refine gt 5 rfl (fun w' hw => aB rfl (ev rfl)) HS0.out ?_;simp only [aa]
     refine gt 6 rfl (fun w' hw => am rfl (ev rfl) faLg1) HS0.out ?_;simp only [aa]
     refine gt 7 rfl (fun w' hw => au rfl (ev rfl) (bj (RLg.c1 (HLR.out.below hw)))) HS0.out ?_;simp only [aa]
     refine gt 8 rfl (fun w' hw => aj rfl (ev rfl)) HS0.out ?_;simp only [aa]
     refine gt 9 rfl (fun w' hw => aj rfl (ev rfl)) HS0.out ?_;simp only [aa]
     refine gt 10 rfl (fun w' hw => bQ (E := IntE) rfl (ev rfl) (ev rfl) hlt) HS0.out ?_;simp only [aa]
     refine gt 11 rfl (fun w' hw => au rfl (ev rfl) (bj (rng_kept (hw.block g2 HGB.out) HRB.out 0 _ rfl))) HS0.out ?_;simp only [aa]
     refine gt 12 rfl (fun w' hw => da rfl evk (ev rfl) HADJ.out) HS0.out ?_;simp only [aa]
     refine held_two 13 17 (by kernel_rfl) ?_ ?_
     ·refine dC 13 rfl rfl (av Tryz.call33 rfl (evc (ev rfl) (evc (ev rfl) (evc (ev rfl) evn)))) ?_
      refine (RJ.read (x.d : Int) (bK x.size (nt.pos + j)) HJR.out.drew).mono ?_
      rintro e w5 ⟨rfl, hb⟩
      rw [HRR.out, HRJ.out]
      have HS1 := af (HS0.out.trans (hb.mono HS0.out.size))
      clear hb
      refine ⟨_, rfl, HS1.out, ?_⟩
      simp only [aa]
      refine gt 14 rfl (fun w' hw => aj rfl (ev rfl)) HS1.out ?_;simp only [aa]
      refine gt 15 rfl (fun w' hw => aD rfl (ev rfl) rfl) HS1.out ?_;simp only [aa]
      refine gt 16 rfl (fun w' hw => aD rfl (ev rfl) rfl) HS1.out ?_;simp only [aa]
      refine cM 17 (by kernel_rfl) (fa 17 rfl rfl (aT rfl) ⟨HS1.out.alloc HS1.out.size _, ?_⟩)
      simp only [aa]
      have HS2 := af (HS1.out.alloc HS1.out.size (.cells (cel rj).toArray 29))
      refine eg 18 rfl (by kernel_rfl) rfl (dp (c := rj) rfl (ev rfl) (ev rfl)) HS2.out ?_
      simp only [Act.put]
      refine gt 19 rfl (fun w' hw => aq rfl (ev rfl)) HS2.out ?_;simp only [aa]
      refine wpAnyH_done (by kernel_rfl) ?_ _
      have HBB := af (cf w5 (cel rj) 29)
      generalize w5.alloc (.cells (cel rj).toArray 29) = w6 at *
      generalize w5.heap.size = bb at *
      clear HS1
      have HB6 := af (HBR.out.trans (HS2.out.mono HBR.out.size))
      have HM6 := af (HMR.out.below HS2.out)
      clear HS0 HS2 HMR HBR HJR HLR HRB HGB
      by_cases hE : E0 = 0
      ·rw [hE]
       have HEZ := af hE
       clear hE
       go_upto_region 12 with fail
       refine ag ?_
       refine ai rfl (aj rfl (ev rfl)) ?_;simp only [aa]
       refine ai rfl (aS (c := rj) rfl (ev rfl) HBB.out) ?_;simp only [aa]
       refine ai rfl (exec_mk1B (b := rj) rfl (ev rfl)) ?_;simp only [aa]
       refine wpList_appB rfl _ _ rfl w3.heap.size (w6.heap.size + 1) 1 1 _ (L.take j) [rj] (some ⟨w6.heap.size, 0, none⟩) rfl rfl (HM6.out.below ((Below.refl _ w6).alloc (Nat.le_refl _) _)) (rdB_new1 w6 rj) (by rw [World.size_alloc]; exact Nat.le_succ_of_le HB6.out.size) (by rw [List.length_take]; have := HN1.out; omega) ?_
       intro v7 w7 hm7 hg7
       rw [← HTK.out] at hm7
       have HM7 := af hm7
       have HB7 := af ((HB6.out.alloc HB6.out.size _).grown hg7 (by rw [World.size_alloc]; exact Nat.le_succ_of_le HB6.out.size) (fun b e => (HM6.out.own_ge b e).1))
       clear hm7 hg7
       simp only [aa]
       refine ai rfl (aq rfl (ev rfl)) ?_;simp only [aa]
       refine ah ?_
       go_wp2_with fail
       go_roundw
       case rel => exact ⟨j + 1, by omega, by go_num, fun _ => HEZ.out, HB7.out, HM7.out⟩
       case measure => simp [intOf]; omega
      ·have HNO := af (HBAD.out hE)
       have HBE := af (HB3.out.trans (HB6.out.mono HB3.out.size))
       have HNE := af hE
       have hne : (E0 != 0) = true := by simpa using hE
       clear hE
       go_wp2_with fail
       go_ret2
       exact fE.err HNO.out HNE.out HBE.out rfl
     ·refine fa 17 rfl rfl (aT rfl) ⟨HS0.out.alloc HS0.out.size _, ?_⟩
      simp only [aa]
      have HS1 := af (HS0.out.alloc HS0.out.size (.cells (cel ap).toArray 29))
      have HTH := af (dl wr.drew ap 29)
      have HZ1 : Hid (wr.heap.size < (wr.drew.alloc (.cells (cel ap).toArray 29)).heap.size) := af (by rw [World.size_alloc]; exact Nat.lt_succ_self _)
      have HJA := af (HJR.out.below HS1.out)
      rw [show wr.drew.heap.size = wr.heap.size from rfl]
      generalize wr.drew.alloc (.cells (cel ap).toArray 29) = w4 at *
      refine cM 13 (by kernel_rfl) (dC 13 rfl rfl (av Tryz.call33 rfl (evc (ev rfl) (evc (ev rfl) (evc (ev rfl) evn)))) ?_)
      refine (RJ.read (x.d : Int) (bK x.size (nt.pos + j)) HJA.out).mono ?_
      rintro e w5 ⟨rfl, hb⟩
      rw [HRR.out, HRJ.out]
      have HS3 := af (HS1.out.trans (hb.mono HS1.out.size))
      have HT3 := af (aO HTH.out HZ1.out hb)
      clear hb HJA
      refine ⟨_, rfl, HS3.out, ?_⟩
      simp only [aa]
      refine gt 14 rfl (fun w' hw => aj rfl (ev rfl)) HS3.out ?_;simp only [aa]
      refine gt 15 rfl (fun w' hw => aD rfl (ev rfl) rfl) HS3.out ?_;simp only [aa]
      refine gt 16 rfl (fun w' hw => aD rfl (ev rfl) rfl) HS3.out ?_;simp only [aa]
      have HS2 := af (below_setCells (b := wr.heap.size) (o := 0) HS3.out (Nat.le_refl _) (cel rj))
      refine eg 18 rfl (by kernel_rfl) rfl (aR (c := rj) rfl (ev rfl) (ev rfl) HT3.out) HS2.out ?_
      simp only [Act.put]
      refine gt 19 rfl (fun w' hw => aq rfl (ev rfl)) HS2.out ?_;simp only [aa]
      refine wpAnyH_done (by kernel_rfl) ?_ _
      have HBB := af (World.rangeAt_setCells_same w5 wr.heap.size 0 (cel rj) (by rw [aA]; exact HT3.out))
      generalize w5.setCells wr.heap.size 0 (cel rj) = w6 at *
      clear HT3 HTH HZ1 HS1 HS3
      obtain ⟨bb, hbb⟩ : ∃ bb, wr.heap.size = bb := ⟨_, rfl⟩
      rw [hbb] at HBB ⊢
      have HBZ := af hbb
      clear hbb
      have HB6 := af (HBR.out.trans (HS2.out.mono HBR.out.size))
      have HM6 := af (HMR.out.below HS2.out)
      clear HS0 HS2 HMR HBR HJR HLR HRB HGB
      by_cases hE : E0 = 0
      ·rw [hE]
       have HEZ := af hE
       clear hE
       go_upto_region 12 with fail
       refine ag ?_
       refine ai rfl (aj rfl (ev rfl)) ?_;simp only [aa]
       refine ai rfl (aS (c := rj) rfl (ev rfl) HBB.out) ?_;simp only [aa]
       refine ai rfl (exec_mk1B (b := rj) rfl (ev rfl)) ?_;simp only [aa]
       refine wpList_appB rfl _ _ rfl w3.heap.size (w6.heap.size + 1) 1 1 _ (L.take j) [rj] (some ⟨w6.heap.size, 0, none⟩) rfl rfl (HM6.out.below ((Below.refl _ w6).alloc (Nat.le_refl _) _)) (rdB_new1 w6 rj) (by rw [World.size_alloc]; exact Nat.le_succ_of_le HB6.out.size) (by rw [List.length_take]; have := HN1.out; omega) ?_
       intro v7 w7 hm7 hg7
       rw [← HTK.out] at hm7
       have HM7 := af hm7
       have HB7 := af ((HB6.out.alloc HB6.out.size _).grown hg7 (by rw [World.size_alloc]; exact Nat.le_succ_of_le HB6.out.size) (fun b e => (HM6.out.own_ge b e).1))
       clear hm7 hg7
       simp only [aa]
       refine ai rfl (aq rfl (ev rfl)) ?_;simp only [aa]
       refine ah ?_
       go_wp2_with fail
       go_roundw
       case rel => exact ⟨j + 1, by omega, by go_num, fun _ => HEZ.out, HB7.out, HM7.out⟩
       case measure => simp [intOf]; omega
      ·have HNO := af (HBAD.out hE)
       have HBE := af (HB3.out.trans (HB6.out.mono HB3.out.size))
       have HNE := af hE
       have hne : (E0 != 0) = true := by simpa using hE
       clear hE
       go_wp2_with fail
       go_ret2
       exact fE.err HNO.out HNE.out HBE.out rfl
    ·have hjn2 : j = N1 := by omega
     subst hjn2
     have hE : E0 = 0 := HE0.out (by have := HN1.out; omega)
     have HFI := af (HLIV.out hE)
     have hmr := HMR.out
     rw [List.take_of_length_le (by rw [HLL.out]; exact Nat.le_refl _)] at hmr
     have HML := af hmr
     have HBE := af (HB3.out.trans (HBR.out.mono HB3.out.size))
     have HNR := af (HNB3.out.below (aK HNB3.out) HBR.out)
     obtain ⟨Ar, cr, rfl, hrr, hr1, hr2⟩ := hmr.open_ HLL.out
     have HRR := af hrr
     have hS : bI wr.drew nb nt := HNR.out
     clear hlt hjn hj34 hE HE0 HMR hmr hrr HBR HJR
     go_upto_region 13 with fail
     refine wp_region_held (S := fun w' => bI w' nb nt) (by kernel_rfl) ?_
     by_cases hsm : sumB L = nt.sum
     ·have HSM : Hid (((sumB L : Int) != (nt.sum : Int)) = false) := af (by rw [hsm]; simp)
      have HEQ : Hid (rcdE M x (x.fst + g) = ((rgE L nt.cells : Nat) : Int)) := af (by rw [HFI.out]; exact if_pos hsm)
      clear hsm
      change wpAnyH _ _ _ _ _ 5 _ _ wr.drew
      refine gt 0 rfl (fun w' hw => aj rfl (ev rfl)) hS ?_;simp only [aa]
      refine gt 2 rfl (fun w' hw => am rfl (ev rfl) faNt3) hS ?_;simp only [aa]
      refine gt 3 rfl (fun w' hw => au rfl (ev rfl) (ldU32 hw.cells.2.2.2)) hS ?_;simp only [aa]
      refine cM 1 (by kernel_rfl) (dC 1 rfl rfl (av Tryz.call91 rfl (evc (ev rfl) evn)) ?_)
      refine (rsum Ar j cr wr.drew.heap.size L wr.drew HRR.out (by have := HN1.out; omega)).mono ?_
      rintro e w' ⟨rfl, rfl⟩
      refine ⟨_, rfl, hS, ?_⟩
      simp only [aa]
      refine gt 4 rfl (fun w' hw => aU false rfl (ev rfl) (ev rfl) HSM.out) hS ?_;simp only [aa]
      refine wpAnyH_done (by kernel_rfl) ?_ _
      go_upto_region 15 with fail
      refine ag ?_
      refine ai rfl (aj rfl (ev rfl)) ?_;simp only [aa]
      refine ai rfl (am rfl (ev rfl) faNt2) ?_;simp only [aa]
      refine ai rfl (au rfl (ev rfl) (bj hS.cells.2.2.1)) ?_;simp only [aa]
      refine ar rfl (av Tryz.call94 rfl (evc (ev rfl) (evc (ev rfl) evn))) ?_
      refine (rcget Ar j cr wr.drew.heap.size wr.drew.heap.size L nt.cells wr.drew (af rfl) HRR.out (Nat.le_refl _) (by have := HN1.out; unfold maxLen; omega)).mono ?_
      rintro e w8 ⟨v8, rfl, hm8, hb8⟩
      have HM8 := af hm8
      have HB8 := af hb8
      clear hm8 hb8 hS
      refine ⟨_, rfl, ?_⟩
      simp only [aa]
      refine ai rfl (aD rfl (ev rfl) rfl) ?_;simp only [aa]
      refine ai rfl (aD rfl (ev rfl) rfl) ?_;simp only [aa]
      refine ai rfl (aq rfl (ev rfl)) ?_;simp only [aa]
      refine ai rfl (aq rfl (ev rfl)) ?_;simp only [aa]
      refine ah ?_
      go_wp2_with fail
      go_ret2
      refine ⟨v8, by rw [HEQ.out]; rfl, ?_, HBE.out.trans ((bd (Below.refl _ _)).trans HB8.out |>.mono HBE.out.size)⟩
      have hle : w.heap.size ≤ wr.drew.heap.size := HBE.out.size
      by_cases hz : rgE L nt.cells = 0
      ·rw [HCS.out (by rw [HEQ.out, hz]; rfl)]
       exact HM8.out.base hle
      ·rw [rcd_no HEQ.out (by omega)]
       have := HM8.out
       rw [rgC_no hz] at this
       exact this.base hle
     ·have HSM : Hid (((sumB L : Int) != (nt.sum : Int)) = true) := af (by simp only [bne_iff_ne, ne_eq]; omega)
      have HEQ : Hid (rcdE M x (x.fst + g) = 6) := af (by rw [HFI.out]; exact if_neg hsm)
      clear hsm
      change wpAnyH _ _ _ _ _ 5 _ _ wr.drew
      refine gt 0 rfl (fun w' hw => aj rfl (ev rfl)) hS ?_;simp only [aa]
      refine gt 2 rfl (fun w' hw => am rfl (ev rfl) faNt3) hS ?_;simp only [aa]
      refine gt 3 rfl (fun w' hw => au rfl (ev rfl) (ldU32 hw.cells.2.2.2)) hS ?_;simp only [aa]
      refine cM 1 (by kernel_rfl) (dC 1 rfl rfl (av Tryz.call91 rfl (evc (ev rfl) evn)) ?_)
      refine (rsum Ar j cr wr.drew.heap.size L wr.drew HRR.out (by have := HN1.out; omega)).mono ?_
      rintro e w' ⟨rfl, rfl⟩
      refine ⟨_, rfl, hS, ?_⟩
      simp only [aa]
      refine gt 4 rfl (fun w' hw => aU true rfl (ev rfl) (ev rfl) HSM.out) hS ?_;simp only [aa]
      refine wpAnyH_done (by kernel_rfl) ?_ _
      go_wp2_with fail
      go_ret2
      exact fE.err HEQ.out (by decide) (bd HBE.out) rfl
def dkC (q r : Nat) (l m : Option Addr) : List Value := [.pointer (some ⟨q, 0, none⟩), .pointer (some ⟨r, 0, none⟩), .pointer l, .pointer m]
def DkAt (w : World) (d q r : Nat) (l m : Option Addr) : Prop := w.heap[d]? = some (.cells (dkC q r l m).toArray 49 (0, 0))
section
variable {w w' : World} {d q r : Nat} {l m : Option Addr}
theorem DkAt.c2 (h : DkAt w d q r l m) : w.cell? ⟨d, 2, none⟩ = some (.pointer l) := (dt h) 2 _ rfl
theorem DkAt.c3 (h : DkAt w d q r l m) : w.cell? ⟨d, 3, none⟩ = some (.pointer m) := (dt h) 3 _ rfl
theorem DkAt.lt (h : DkAt w d q r l m) : d < w.heap.size := aK h
theorem DkAt.below (h : DkAt w d q r l m) (hb : Below w.heap.size w w') : DkAt w' d q r l m := (hb.block d h.lt).trans h
theorem faDk2 {b : Nat} : (Instr.fieldAt 49 (.pointer (some ⟨b, 0, none⟩)) 2).run Tryz.prog w = .ok (.pointer (some ⟨b, 2, none⟩)) w := by kernel_rfl
theorem faDk3 {b : Nat} : (Instr.fieldAt 49 (.pointer (some ⟨b, 0, none⟩)) 3).run Tryz.prog w = .ok (.pointer (some ⟨b, 3, none⟩)) w := by kernel_rfl
theorem ldDkL {ad : Addr} {a : Option Addr} (h : w.cell? ad = some (.pointer a)) : (Instr.loadAt 41 (.pointer (some ad))).run Tryz.prog w = .ok (.pointer a) w := by simp [go_sem, h]
theorem ldDkM {ad : Addr} {a : Option Addr} (h : w.cell? ad = some (.pointer a)) : (Instr.loadAt 44 (.pointer (some ad))).run Tryz.prog w = .ok (.pointer a) w := by simp [go_sem, h]
end
theorem getC_ext {a b : List Cl} (hl : a.length = b.length) (h : ∀ k, k < a.length → a.getD k cC = b.getD k cC) : a = b := by
 apply List.ext_getElem hl
 intro k h1 h2
 have := h k h1
 rw [List.getD, List.getD, List.getElem?_eq_getElem h1, List.getElem?_eq_getElem h2] at this
 simpa using this
set_option maxHeartbeats 800000 in
theorem cells_any (A B : Option Addr) (n m c d N : Nat) (a b : List Cl) (w : World) (ha : RdE bY w N A n a) (hb : RdE bY w N B m b) (hN : N ≤ w.heap.size) (hn : n ≤ maxLen) :
  Calls Tryz.prog 49 #[.slice A n c, .slice B m d] w fun e w' => e = .returned (.bool (decide (a = b))) ∧ Below w.heap.size w w' := by
 unfold maxLen at hn
 by_cases hnm : n = m
 ·subst hnm
  go_enter Tryz.func49, Tryz.ntmps49
  go_wp2_with fail
  go_loopw [5] (fun i wr => ∃ k : Nat, k ≤ n ∧ i = .int .i64 k ∧ (∀ j, j < k → a.getD j cC = b.getD j cC) ∧ Below w.heap.size w wr) (fun i _ => n - (intOf i).toNat)
  case atStart => exact ⟨0, Nat.zero_le _, rfl, fun j hj => absurd hj (by omega), Below.refl _ _⟩
  case round =>
   obtain ⟨k, hk, rfl, hj, hbl⟩ := hrel
   have HJ := af hj
   clear hj
   by_cases hlt : k < n
   ·obtain ⟨bA, oA, rfl, hA, cA⟩ := (ha.below (hbl.mono hN)).cl hlt
    obtain ⟨bB, oB, rfl, hB, cB⟩ := (hb.below (hbl.mono hN)).cl hlt
    have HX := af (rfl : a.getD k cC = a.getD k cC)
    generalize hx : a.getD k cC = x at *
    generalize hy : b.getD k cC = y at *
    have HA := af cA
    have HB := af cB
    have HXX := af hx
    have HYY := af hy
    clear cA cB hx hy HX
    go_wp2_with fail
    refine wp_region_read (by kernel_rfl) ?_
    refine aF rfl (eq rfl) ?_;simp only [aa]
    refine aF rfl (eq rfl) ?_;simp only [aa]
    refine aF rfl (bQ (E := bY) rfl rfl rfl hlt) ?_;simp only [aa]
    refine aF rfl (exec_loadC rfl rfl HA.out) ?_;simp only [aa]
    refine aF rfl (eq rfl) ?_;simp only [aa]
    refine aF rfl (eq rfl) ?_;simp only [aa]
    refine aF rfl (bQ (E := bY) rfl rfl rfl hlt) ?_;simp only [aa]
    refine aF rfl (exec_loadC rfl rfl HB.out) ?_;simp only [aa]
    by_cases hxy : x = y
    ·have hd : (!decide (x = y)) = false := by simpa using hxy
     refine aF rfl (exec_neC false rfl rfl rfl hd) ?_;simp only [aa]
     refine wpStill_nil ?_
     clear hd
     go_wp2_with fail
     go_roundw
     case rel =>
      refine ⟨k + 1, by omega, by go_num, ?_, bd hbl⟩
      intro j hj
      by_cases h : j = k
      ·subst h; rw [HXX.out, HYY.out]; exact hxy
      ·exact HJ.out j (by omega)
     case measure => simp [intOf]; omega
    ·have hd : (!decide (x = y)) = true := by simpa using hxy
     refine aF rfl (exec_neC true rfl rfl rfl hd) ?_;simp only [aa]
     refine wpStill_nil ?_
     clear hd
     go_wp2_with fail
     go_ret
     refine ⟨?_, bd hbl⟩
     rw [decide_eq_false]
     ·rfl
     ·rintro rfl
      exact hxy (HXX.out.symm.trans HYY.out)
   ·go_wp2_with fail
    go_ret
    refine ⟨?_, hbl⟩
    rw [decide_eq_true]
    ·rfl
    ·exact getC_ext (by rw [ha.1, hb.1]) fun k h => HJ.out k (by have := ha.1; omega)
 ·have hne : ((n : Int) != (m : Int)) = true := by simp; omega
  go_enter Tryz.func49, Tryz.ntmps49
  go_wp2_with fail
  go_ret
  refine ⟨?_, Below.refl _ _⟩
  rw [decide_eq_false]
  ·rfl
  ·rintro rfl
   exact hnm (ha.1.symm.trans hb.1)
end Go.Proofs.YtbbcdhkinbmdnaaGreatDoor
