import Derived.Test.YtbbcdhkinbmdnaaGreatDoorLoas
import Derived.Test.YtbbcdhkinbmdnaaGreatDoorLoal
import Derived.Test.YtbbcdhkinbmdnaaGreatDoorLoad
import Derived.Laws.EntriesVeiled
import Derived.Test.YtbbcdhkinbmdnaaGreatDoorLoZ
namespace Go.Proofs.YtbbcdhkinbmdnaaGreatDoor
open Go.RowKit
set_option linter.unusedVariables false
set_option linter.unusedSimpArgs false
set_option maxRecDepth 100000
theorem psz_v {n : Int} {k : Nat} (h : dZ n = k) (w : World) : Calls Tryz.prog 121 #[.int .i64 n] w fun e w' => e = .returned (.int .i64 (k : Nat)) ∧ w = w' := by subst h; exact psize n w
theorem seN_leP {w : World} {G : Nat → Prop} {q : Nat} {M : BenS} (d : Int) (hb : bw.Bn w G q M) : 0 ≤ bO M d ∧ bO M d ≤ 512 := by
 have hw := bw.wf hb
 unfold bO
 rcases e9 M d with ⟨e, _⟩ | ⟨e, k, rfl, hk⟩
 ·rw [if_neg (by omega)]; omega
 ·rw [if_pos e, dev_getD, Int.toNat_natCast]
  have := hw.len k hk
  omega
theorem pbmade {w : World} {G : Nat → Prop} {q : Nat} {M : BenS} (hb : bw.Bn w G q M) : Calls Tryz.prog 26 #[.pointer (some ⟨q, 0, none⟩)] w fun e w' => e = .returned (.bool true) ∧ Below w.heap.size w w' := by
 have hone := (bw.wf hb).one
 obtain ⟨v, Fs, ps, _, hb'⟩ := hb
 have HB := af (b_devices hb')
 have HL : Hid ((0 : Int) < (M.ds.length : Int)) := af (by omega)
 clear hb' hone
 go_enter Tryz.func26, Tryz.ntmps26
 go_wp2_with fail
 refine HB.out.mono ?_
 rintro e w1 ⟨rfl, hb1⟩
 have HB1 := af (gi hb1)
 have hl := HL.out
 clear hb1
 go_wp2_with fail
 go_ret
 exact ⟨bm (decide_eq_true (by have := HL.out; omega)), HB1.out⟩
theorem proom {w : World} {G : Nat → Prop} {q : Nat} {M : BenS} (d : Int) (hb : bw.Bn w G q M) : Calls Tryz.prog 27 #[.pointer (some ⟨q, 0, none⟩), .int .i64 d] w fun e w' => e = .returned (.int .i64 (bO M d - 10)) ∧ Below w.heap.size w w' := by
 have HB := af hb
 have hs := seN_leP d hb
 have HW : Hid (IntKind.i64.wrap (bO M d - 10) = bO M d - 10) := af (IntWalk.i64_in _ ⟨by omega, by omega⟩)
 clear hb hs
 go_enter Tryz.func27, Tryz.ntmps27
 go_upto_region 1 with fail
 refine ag ?_
 refine ai rfl (aj rfl (ev rfl)) ?_;simp only [aa]
 refine ai rfl (aj rfl (ev rfl)) ?_;simp only [aa]
 refine ar rfl (av Tryz.call67 rfl (evc (ev rfl) (evc (ev rfl) evn))) ?_
 refine (bw.fp d HB.out).mono ?_
 rintro e w1 ⟨rfl, hb1⟩
 refine ⟨_, rfl, ?_⟩
 simp only [aa]
 refine ai rfl (fw rfl (ev rfl) evk HW.out) ?_;simp only [aa]
 refine ai rfl (aq rfl (ev rfl)) ?_;simp only [aa]
 refine ah ?_
 go_wp2_with fail
 go_ret
 exact ⟨rfl, hb1⟩
section
variable {p q N : Nat} {v : Value} {x : LgS} {M : BenS}
theorem plmade (w : World) (h : PLg w p q v x) : Calls Tryz.prog 79 #[.pointer (some ⟨p, 0, none⟩)] w fun e w' => e = .returned (.bool true) ∧ w = w' := by
 have c0 := h.c0
 clear h
 go_enter Tryz.func79, Tryz.ntmps79
 go_wp2_with fail
 go_ret
 exact ⟨rfl, rfl⟩
theorem plnext (w : World) (h : PLg w p q v x) (hk : LgOk M x N) : Calls Tryz.prog 71 #[.pointer (some ⟨p, 0, none⟩)] w fun e w' => e = .returned (.int .u64 ((x.next : Nat) : Int)) ∧ Below w.heap.size w w' := by
 obtain ⟨A, c, rfl, h1, h2⟩ := h.slice
 have HL := af h
 have HN8 : Hid (x.nts.length < 18446744073709551616) := af (by have := hk.eig; omega)
 have HNX : Hid (x.fst + x.nts.length < 18446744073709551616) := af (by have := hk.nxt; have := hk.lim; unfold LgS.next at *; omega)
 clear h hk h1 h2
 go_enter Tryz.func71, Tryz.ntmps71
 go_upto_region 1 with fail
 refine aI (B := w.heap.size) (by kernel_rfl) ?_
 refine ao rfl (fun w' hw => aj rfl (ev rfl)) ?_;simp only [aa]
 refine ao rfl (fun w' hw => aB rfl (ev rfl)) ?_;simp only [aa]
 refine ao rfl (fun w' hw => am rfl (ev rfl) eK) ?_;simp only [aa]
 refine ao rfl (fun w' hw => am rfl (ev rfl) faQm2) ?_;simp only [aa]
 refine ao rfl (fun w' hw => au rfl (ev rfl) (bL (PLg.c5 (HL.out.below hw)))) ?_;simp only [aa]
 refine ao rfl (fun w' hw => aj rfl (ev rfl)) ?_;simp only [aa]
 refine ao rfl (fun w' hw => aB rfl (ev rfl)) ?_;simp only [aa]
 refine ao rfl (fun w' hw => am rfl (ev rfl) faQl4) ?_;simp only [aa]
 refine ao rfl (fun w' hw => au rfl (ev rfl) (ldNts (PLg.c7 (HL.out.below hw)))) ?_;simp only [aa]
 refine ao rfl (fun w' hw => cD Tryz.underlying78 rfl (ev rfl)) ?_;simp only [aa]
 refine ao rfl (fun w' hw => exec_cvIU rfl (ev rfl) HN8.out) ?_;simp only [aa]
 refine ao rfl (fun w' hw => exec_adN rfl (ev rfl) (ev rfl) HNX.out) ?_;simp only [aa]
 refine ao rfl (fun w' hw => aq rfl (ev rfl)) ?_;simp only [aa]
 refine wpQuiet_nil ?_
 intro w2 hw
 go_wp2_with fail
 go_ret
 exact ⟨rfl, hw⟩
theorem plbegin_0 (w : World) (h : PLg w p q v x) : Calls Tryz.prog 95 #[.pointer (some ⟨p, 0, none⟩), .int .i64 0] w fun e w' => e = .returned (.int .u64 ((x.pos : Nat) : Int)) ∧ Below w.heap.size w w' := by
 have c6 := h.c6
 clear h
 go_enter Tryz.func95, Tryz.ntmps95
 go_wp2_with fail
 go_ret
 exact ⟨rfl, Below.refl _ _⟩
theorem plbegin_s (w : World) (i : Nat) (hi : i < x.nts.length) (h : PLg w p q v x) (hk : LgOk M x N) : Calls Tryz.prog 95 #[.pointer (some ⟨p, 0, none⟩), .int .i64 ((i + 1 : Nat) : Int)] w fun e w' => e = .returned (.int .u64 ((x.pos + usd (x.nts.take (i + 1)) : Nat) : Int)) ∧ Below w.heap.size w w' := by
 obtain ⟨A, c, rfl, h1, h2⟩ := h.slice
 obtain ⟨n1, n2, n3, n4⟩ := hk.nts i hi
 have heig := hk.eig
 have hend := hk.end_ hi
 have huse := hk.use
 have hsz := hk.siz
 have hhd := hk.hed
 have hlim := hk.lim
 have htak := fu hi
 obtain ⟨g, off, rfl, hg, hc⟩ := h.row.rd.2 i hi
 obtain ⟨y, hy⟩ : ∃ y, x.nts.getD i aM = y := ⟨_, rfl⟩
 rw [show aY.d = aM from rfl, hy] at hc
 rw [hy] at n1 n2 n3 n4 hend htak
 have HL := af h
 have HI := af hi
 have HC := af hc
 have HZ := af (sz_tak (n := y) ⟨n1, n2⟩)
 have htk0 : bc y ≤ 34 := by unfold bc hd; omega
 have HTK : Hid (bc y < 18446744073709551616) := af (by omega)
 have HAD : Hid (y.pos + bc y < 18446744073709551616) := af (by unfold LgS.head LgS.used at hhd; rw [n3]; omega)
 have HEQ : Hid (x.pos + usd (x.nts.take (i + 1)) = y.pos + bc y) := af (by rw [htak, n3]; omega)
 have HNE : Hid ((((i + 1 : Nat) : Int) == (0 : Int)) = false) := af (by simp; omega)
 have HSB : Hid (IntKind.i64.wrap (((i + 1 : Nat) : Int) - 1) = (i : Int)) := af (by rw [IntWalk.i64_in _ ⟨by omega, by omega⟩]; omega)
 rw [HEQ.out]
 clear h hk h1 h2 htk0 n1 n2 n3 n4 hend huse hsz hhd hlim htak hi hg hc hy heig HEQ
 go_enter Tryz.func95, Tryz.ntmps95
 go_upto_region 1 with fail
 refine ag ?_
 refine ai rfl (aj rfl (ev rfl)) ?_;simp only [aa]
 refine ai (v := .bool false) rfl (aP false rfl (ev rfl) evk HNE.out) ?_;simp only [aa]
 refine ah ?_
 go_upto_region 3 with fail
 refine ag ?_
 refine ai rfl (aj rfl (ev rfl)) ?_;simp only [aa]
 refine ai rfl (aB rfl (ev rfl)) ?_;simp only [aa]
 refine ai rfl (am rfl (ev rfl) faQl4) ?_;simp only [aa]
 refine ai rfl (au rfl (ev rfl) (ldNts (PLg.c7 HL.out))) ?_;simp only [aa]
 refine ai rfl (aj rfl (ev rfl)) ?_;simp only [aa]
 refine ai rfl (fw rfl (ev rfl) evk HSB.out) ?_;simp only [aa]
 refine ai rfl (bQ (E := aY) rfl (ev rfl) (ev rfl) HI.out) ?_;simp only [aa]
 refine ai rfl (bh (c := y) rfl (ev rfl) HC.out) ?_;simp only [aa]
 refine ai rfl (bW rfl) ?_;simp only [aa]
 refine az rfl (dk (c := y) rfl (ev rfl) (ev rfl)) ?_;simp only [aa]
 refine ah ?_
 have HY := af (bI.new w y)
 have HBW := af ((Below.refl w.heap.size w).alloc (Nat.le_refl _) (.cells (aQ y).toArray 35))
 have HLE : Hid (w.heap.size < (w.alloc (.cells (aQ y).toArray 35)).heap.size) := af (by rw [World.size_alloc]; omega)
 generalize w.alloc (.cells (aQ y).toArray 35) = w1 at *
 go_upto_region 4 with fail
 refine aI (B := w1.heap.size) (by kernel_rfl) ?_
 refine ao rfl (fun w' hw => am rfl (ev rfl) faNt1) ?_;simp only [aa]
 refine ao rfl (fun w' hw => au rfl (ev rfl) (bL (HY.out.below HLE.out hw).cells.2.1)) ?_;simp only [aa]
 refine ao rfl (fun w' hw => am rfl (ev rfl) faNt2) ?_;simp only [aa]
 refine ao rfl (fun w' hw => au rfl (ev rfl) (bj (HY.out.below HLE.out hw).cells.2.2.1)) ?_;simp only [aa]
 refine a9 rfl (fun _ => av Tryz.call121 rfl (evc (ev rfl) evn)) (aW (Nat.le_refl _) fun w' hw => (((psz_v (k := bc y) HZ.out w').mono fun e w'' hh => ⟨hh.1, by rw [hh.2]; exact Below.refl _ _⟩))) ?_;simp only [aa]
 refine ao rfl (fun w' hw => exec_cvIU rfl (ev rfl) HTK.out) ?_;simp only [aa]
 refine ao rfl (fun w' hw => exec_adN rfl (ev rfl) (ev rfl) HAD.out) ?_;simp only [aa]
 refine ao rfl (fun w' hw => aq rfl (ev rfl)) ?_;simp only [aa]
 refine wpQuiet_nil ?_
 intro w2 hw
 go_wp2_with fail
 go_ret
 exact ⟨rfl, HBW.out.trans (hw.mono (by have := HLE.out; omega))⟩
theorem plbegin (w : World) (i : Nat) (hi : i ≤ x.nts.length) (h : PLg w p q v x) (hk : LgOk M x N) : Calls Tryz.prog 95 #[.pointer (some ⟨p, 0, none⟩), .int .i64 (i : Int)] w fun e w' => e = .returned (.int .u64 ((x.pos + usd (x.nts.take i) : Nat) : Int)) ∧ Below w.heap.size w w' := by
 cases i with
 | zero => exact (plbegin_0 w h).mono fun e w' hh => hh
 | succ i => exact plbegin_s w i hi h hk
theorem plhead (w : World) (h : PLg w p q v x) (hk : LgOk M x N) : Calls Tryz.prog 81 #[.pointer (some ⟨p, 0, none⟩)] w fun e w' => e = .returned (.int .u64 ((x.head : Nat) : Int)) ∧ Below w.heap.size w w' := by
 have HG : Hid (Calls Tryz.prog 95 #[.pointer (some ⟨p, 0, none⟩), .int .i64 (x.nts.length : Int)] w fun e w' => e = .returned (.int .u64 ((x.head : Nat) : Int)) ∧ Below w.heap.size w w') := af ((plbegin w x.nts.length (Nat.le_refl _) h hk).mono fun e w' hh => by rw [List.take_length] at hh; exact hh)
 obtain ⟨A, c, rfl, h1, h2⟩ := h.slice
 have HL := af h
 clear h hk h1 h2
 go_enter Tryz.func81, Tryz.ntmps81
 go_upto_region 1 with fail
 refine ag ?_
 refine ai rfl (aj rfl (ev rfl)) ?_;simp only [aa]
 refine ai rfl (aj rfl (ev rfl)) ?_;simp only [aa]
 refine ai rfl (aB rfl (ev rfl)) ?_;simp only [aa]
 refine ai rfl (am rfl (ev rfl) faQl4) ?_;simp only [aa]
 refine ai rfl (au rfl (ev rfl) (ldNts (PLg.c7 HL.out))) ?_;simp only [aa]
 refine ai rfl (cD Tryz.underlying78 rfl (ev rfl)) ?_;simp only [aa]
 refine ar rfl (av Tryz.call95 rfl (evc (ev rfl) (evc (ev rfl) evn))) ?_
 refine HG.out.mono ?_
 rintro e w1 ⟨rfl, hb⟩
 refine ⟨_, rfl, ?_⟩
 simp only [aa]
 refine ai rfl (aq rfl (ev rfl)) ?_;simp only [aa]
 refine ah ?_
 go_wp2_with fail
 go_ret
 exact ⟨rfl, hb⟩
theorem plfits (w : World) (y : Nte) (h : PLg w p q v x) (hk : LgOk M x N) (hy : 1 ≤ y.cells ∧ y.cells ≤ 32) : Calls Tryz.prog 84 #[.pointer (some ⟨p, 0, none⟩), nte y] w fun e w' => e = .returned (.bool (decide (bc y ≤ x.free))) ∧ Below w.heap.size w w' := by
 have heig := hk.eig
 have huse := hk.use
 have hsz := hk.siz
 have hhd := hk.hed
 have hlim := hk.lim
 have HZ := af (sz_tak hy)
 have htk : bc y ≤ 34 := by unfold bc hd; omega
 have hmay : mayB (x.size : Int) (x.pos : Int) (x.head : Int) = true := eV.2 ⟨by omega, by omega, by unfold LgS.head; omega, by omega, by unfold LgS.head; omega⟩
 have HTL := af htk
 obtain ⟨E, hE⟩ : ∃ E, takE (x.size : Int) (x.pos : Int) (x.head : Int) (bc y : Int) = E := ⟨_, rfl⟩
 have HTE := af hE
 have HEQ : Hid ((E == (0 : Int)) = decide (bc y ≤ x.free)) := af (by
  have hh : (x.head : Int) = (x.pos : Int) + (x.used : Int) := by unfold LgS.head; omega
  by_cases hf : bc y ≤ x.free
  ·rw [← hE, (tak_in hmay (by omega) ⟨by unfold LgS.free at hf; omega, by omega⟩).2, decide_eq_true hf]; rfl
  ·rw [← hE, (tak_full hmay (by omega) (fun e => hf (by unfold LgS.free; omega))).2, decide_eq_false hf]; rfl)
 have HBD : Hid (x.pos ≤ 18446744073709551615 ∧ x.head ≤ 18446744073709551615) := af ⟨by unfold LgS.head at hhd; omega, by omega⟩
 obtain ⟨h1, h2, h3⟩ := dm w y
 have HY := af h1
 have HBW := af h2
 have HLE := af h3
 have HL := af (h.below h2)
 have HK := af hk
 clear h hk hy heig huse hsz hhd hlim htk hmay hE h1 h2 h3
 go_enter Tryz.func84, Tryz.ntmps84
 go_wp2_with (first | (refine ai rfl (cO rfl rfl) ?_) | fail)
 generalize w.alloc (.cells (aQ y).toArray 35) = w1 at *
 refine aI (B := w1.heap.size) (by kernel_rfl) ?_
 refine ao rfl (fun w' hw => aj rfl (ev rfl)) ?_;simp only [aa]
 refine ao rfl (fun w' hw => aB rfl (ev rfl)) ?_;simp only [aa]
 refine ao rfl (fun w' hw => am rfl (ev rfl) eK) ?_;simp only [aa]
 refine ao rfl (fun w' hw => am rfl (ev rfl) faQm1) ?_;simp only [aa]
 refine ao rfl (fun w' hw => au rfl (ev rfl) (bj (PLg.c4 (HL.out.below hw)))) ?_;simp only [aa]
 refine ao rfl (fun w' hw => aj rfl (ev rfl)) ?_;simp only [aa]
 refine ao rfl (fun w' hw => aB rfl (ev rfl)) ?_;simp only [aa]
 refine ao rfl (fun w' hw => am rfl (ev rfl) eK) ?_;simp only [aa]
 refine ao rfl (fun w' hw => am rfl (ev rfl) faQm3) ?_;simp only [aa]
 refine ao rfl (fun w' hw => au rfl (ev rfl) (bL (PLg.c6 (HL.out.below hw)))) ?_;simp only [aa]
 refine ao rfl (fun w' hw => aj rfl (ev rfl)) ?_;simp only [aa]
 refine a9 rfl (fun _ => av Tryz.call81 rfl (evc (ev rfl) evn)) (aW (Nat.le_refl _) fun w' hw => (plhead w' (HL.out.below hw) HK.out)) ?_;simp only [aa]
 refine ao rfl (fun w' hw => am rfl (ev rfl) faNt2) ?_;simp only [aa]
 refine ao rfl (fun w' hw => au rfl (ev rfl) (bj (HY.out.below HLE.out hw).cells.2.2.1)) ?_;simp only [aa]
 refine a9 rfl (fun _ => av Tryz.call121 rfl (evc (ev rfl) evn)) (aW (Nat.le_refl _) fun w' hw => ((psz_v (k := bc y) HZ.out w').mono fun e w'' hh => ⟨hh.1, by rw [hh.2]; exact Below.refl _ _⟩)) ?_;simp only [aa]
 refine a9 rfl (fun _ => av Tryz.call120 rfl (evc (ev rfl) (evc (ev rfl) (evc (ev rfl) (evc (ev rfl) evn))))) (aW (Nat.le_refl _) fun w' hw => ((ptak (x.size : Int) (x.pos : Int) (x.head : Int) (bc y : Int) w' (by omega) (by have := HBD.out.1; omega) (by omega) (by have := HBD.out.2; omega) (by have := HTL.out; omega)).mono fun e w'' hh => ⟨hh.1, by rw [hh.2]; exact Below.refl _ _⟩)) ?_;simp only [aa]
 refine ao rfl (fun w' hw => aj rfl (ev rfl)) ?_;simp only [aa]
 refine ao rfl (fun w' hw => aD rfl (ev rfl) rfl) ?_;simp only [aa]
 refine ao rfl (fun w' hw => aD rfl (ev rfl) rfl) ?_;simp only [aa]
 refine ao rfl (fun w' hw => aq rfl (ev rfl)) ?_;simp only [aa]
 refine ao rfl (fun w' hw => aq rfl (ev rfl)) ?_;simp only [aa]
 refine wpQuiet_nil ?_
 intro w2 hw
 rw [HTE.out]
 have heq := HEQ.out
 go_wp2_with fail
 go_ret
 exact ⟨rfl, HBW.out.trans (hw.mono (by have := HLE.out; omega))⟩
theorem plfits_b {y : Nte} {t : Bool} (w : World) (h : PLg w p q v x) (hk : LgOk M x N) (hy : 1 ≤ y.cells ∧ y.cells ≤ 32) (ht : decide (bc y ≤ x.free) = t) : Calls Tryz.prog 84 #[.pointer (some ⟨p, 0, none⟩), nte y] w fun e w' => e = .returned (.bool t) ∧ Below w.heap.size w w' := by subst ht; exact plfits w y h hk hy
theorem plaw_0 {y : Nte} (w : World) (h : PLg w p q v x) (hk : LgOk M x N) (hy : 1 ≤ y.cells ∧ y.cells ≤ 32) (h0 : ((y.seq : Int) == (x.next : Int)) = false) : Calls Tryz.prog 73 #[.pointer (some ⟨p, 0, none⟩), nte y] w fun e w' => e = .returned (.bool false) ∧ Below w.heap.size w w' := by
 obtain ⟨k1, k2, k3⟩ := dm w y
 have HY := af k1
 have HBW := af k2
 have HLE := af k3
 have HL := af (h.below k2)
 have HK := af hk
 have HCL := af hy
 have H0 := af h0
 clear h hk hy k1 k2 k3 h0
 go_enter Tryz.func73, Tryz.ntmps73
 go_wp2_with (first | (refine ai rfl (cO rfl rfl) ?_) | fail)
 generalize w.alloc (.cells (aQ y).toArray 35) = w1 at *
 refine aI (B := w1.heap.size) (by kernel_rfl) ?_
 refine ao rfl (fun w' hw => am rfl (ev rfl) faNt0) ?_;simp only [aa]
 refine ao rfl (fun w' hw => au rfl (ev rfl) (bL (HY.out.below HLE.out hw).cells.1)) ?_;simp only [aa]
 refine ao rfl (fun w' hw => aj rfl (ev rfl)) ?_;simp only [aa]
 refine a9 rfl (fun _ => av Tryz.call71 rfl (evc (ev rfl) evn)) (aW (Nat.le_refl _) fun w' hw => (plnext w' (HL.out.below hw) HK.out)) ?_;simp only [aa]
 refine ao (v := .bool false) rfl (fun w' hw => aP false rfl (ev rfl) (ev rfl) H0.out) ?_;simp only [aa]
 refine cI 5 (v := .bool false) rfl (fun w' hw => aj rfl (ev rfl)) (by kernel_rfl) ?_
 simp only [aJ, ae, aa]
 refine ao (v := .bool false) rfl (fun w' hw => aE rfl (ev rfl) evk) ?_;simp only [aa]
 refine cI 3 (v := .bool false) rfl (fun w' hw => aj rfl (ev rfl)) (by kernel_rfl) ?_
 simp only [aJ, ae, aa]
 refine ao (v := .bool false) rfl (fun w' hw => aE rfl (ev rfl) evk) ?_;simp only [aa]
 refine ao (v := .bool false) rfl (fun w' hw => aq rfl (ev rfl)) ?_;simp only [aa]
 refine wpQuiet_nil ?_
 intro w2 hw
 go_wp2_with fail
 go_ret
 exact ⟨rfl, HBW.out.trans (hw.mono (by have := HLE.out; omega))⟩
theorem plaw_1 {y : Nte} (w : World) (h : PLg w p q v x) (hk : LgOk M x N) (hy : 1 ≤ y.cells ∧ y.cells ≤ 32) (h0 : ((y.seq : Int) == (x.next : Int)) = true) (h1 : ((y.pos : Int) == (x.head : Int)) = false) : Calls Tryz.prog 73 #[.pointer (some ⟨p, 0, none⟩), nte y] w fun e w' => e = .returned (.bool false) ∧ Below w.heap.size w w' := by
 obtain ⟨k1, k2, k3⟩ := dm w y
 have HY := af k1
 have HBW := af k2
 have HLE := af k3
 have HL := af (h.below k2)
 have HK := af hk
 have HCL := af hy
 have H0 := af h0
 have H1 := af h1
 clear h hk hy k1 k2 k3 h0 h1
 go_enter Tryz.func73, Tryz.ntmps73
 go_wp2_with (first | (refine ai rfl (cO rfl rfl) ?_) | fail)
 generalize w.alloc (.cells (aQ y).toArray 35) = w1 at *
 refine aI (B := w1.heap.size) (by kernel_rfl) ?_
 refine ao rfl (fun w' hw => am rfl (ev rfl) faNt0) ?_;simp only [aa]
 refine ao rfl (fun w' hw => au rfl (ev rfl) (bL (HY.out.below HLE.out hw).cells.1)) ?_;simp only [aa]
 refine ao rfl (fun w' hw => aj rfl (ev rfl)) ?_;simp only [aa]
 refine a9 rfl (fun _ => av Tryz.call71 rfl (evc (ev rfl) evn)) (aW (Nat.le_refl _) fun w' hw => (plnext w' (HL.out.below hw) HK.out)) ?_;simp only [aa]
 refine ao (v := .bool true) rfl (fun w' hw => aP true rfl (ev rfl) (ev rfl) H0.out) ?_;simp only [aa]
 refine ao (v := .bool true) rfl (fun w' hw => aj rfl (ev rfl)) ?_;simp only [aa]
 refine ao gr (fun w' hw => am rfl (ev rfl) faNt1) ?_;simp only [aa]
 refine ao gr (fun w' hw => au rfl (ev rfl) (bL (HY.out.below HLE.out hw).cells.2.1)) ?_;simp only [aa]
 refine ao gr (fun w' hw => aj rfl (ev rfl)) ?_;simp only [aa]
 refine a9 gr (fun _ => av Tryz.call81 rfl (evc (ev rfl) evn)) (aW (Nat.le_refl _) fun w' hw => (plhead w' (HL.out.below hw) HK.out)) ?_;simp only [aa]
 refine ao (v := .bool false) gr (fun w' hw => aP false rfl (ev rfl) (ev rfl) H1.out) ?_;simp only [aa]
 refine ao (v := .bool false) rfl (fun w' hw => aG rfl (ev rfl) (ev rfl)) ?_;simp only [aa]
 refine cI 3 (v := .bool false) rfl (fun w' hw => aj rfl (ev rfl)) (by kernel_rfl) ?_
 simp only [aJ, ae, aa]
 refine ao (v := .bool false) rfl (fun w' hw => aE rfl (ev rfl) evk) ?_;simp only [aa]
 refine ao (v := .bool false) rfl (fun w' hw => aq rfl (ev rfl)) ?_;simp only [aa]
 refine wpQuiet_nil ?_
 intro w2 hw
 go_wp2_with fail
 go_ret
 exact ⟨rfl, HBW.out.trans (hw.mono (by have := HLE.out; omega))⟩
theorem plaw_2 {y : Nte} (w : World) (h : PLg w p q v x) (hk : LgOk M x N) (hy : 1 ≤ y.cells ∧ y.cells ≤ 32) (h0 : ((y.seq : Int) == (x.next : Int)) = true) (h1 : ((y.pos : Int) == (x.head : Int)) = true) (h2 : decide (bc y ≤ x.free) = false) : Calls Tryz.prog 73 #[.pointer (some ⟨p, 0, none⟩), nte y] w fun e w' => e = .returned (.bool false) ∧ Below w.heap.size w w' := by
 obtain ⟨k1, k2, k3⟩ := dm w y
 have HY := af k1
 have HBW := af k2
 have HLE := af k3
 have HL := af (h.below k2)
 have HK := af hk
 have HCL := af hy
 have H0 := af h0
 have H1 := af h1
 have H2 := af h2
 clear h hk hy k1 k2 k3 h0 h1 h2
 go_enter Tryz.func73, Tryz.ntmps73
 go_wp2_with (first | (refine ai rfl (cO rfl rfl) ?_) | fail)
 generalize w.alloc (.cells (aQ y).toArray 35) = w1 at *
 refine aI (B := w1.heap.size) (by kernel_rfl) ?_
 refine ao rfl (fun w' hw => am rfl (ev rfl) faNt0) ?_;simp only [aa]
 refine ao rfl (fun w' hw => au rfl (ev rfl) (bL (HY.out.below HLE.out hw).cells.1)) ?_;simp only [aa]
 refine ao rfl (fun w' hw => aj rfl (ev rfl)) ?_;simp only [aa]
 refine a9 rfl (fun _ => av Tryz.call71 rfl (evc (ev rfl) evn)) (aW (Nat.le_refl _) fun w' hw => (plnext w' (HL.out.below hw) HK.out)) ?_;simp only [aa]
 refine ao (v := .bool true) rfl (fun w' hw => aP true rfl (ev rfl) (ev rfl) H0.out) ?_;simp only [aa]
 refine ao (v := .bool true) rfl (fun w' hw => aj rfl (ev rfl)) ?_;simp only [aa]
 refine ao gr (fun w' hw => am rfl (ev rfl) faNt1) ?_;simp only [aa]
 refine ao gr (fun w' hw => au rfl (ev rfl) (bL (HY.out.below HLE.out hw).cells.2.1)) ?_;simp only [aa]
 refine ao gr (fun w' hw => aj rfl (ev rfl)) ?_;simp only [aa]
 refine a9 gr (fun _ => av Tryz.call81 rfl (evc (ev rfl) evn)) (aW (Nat.le_refl _) fun w' hw => (plhead w' (HL.out.below hw) HK.out)) ?_;simp only [aa]
 refine ao (v := .bool true) gr (fun w' hw => aP true rfl (ev rfl) (ev rfl) H1.out) ?_;simp only [aa]
 refine ao (v := .bool true) rfl (fun w' hw => aG rfl (ev rfl) (ev rfl)) ?_;simp only [aa]
 refine ao (v := .bool true) rfl (fun w' hw => aj rfl (ev rfl)) ?_;simp only [aa]
 refine ao gr (fun w' hw => aj rfl (ev rfl)) ?_;simp only [aa]
 refine ao gr (fun w' hw => bh rfl (ev rfl) (HY.out.below HLE.out hw).range) ?_;simp only [aa]
 refine a9 gr (fun _ => av Tryz.call84 rfl (evc (ev rfl) (evc (ev rfl) evn))) (aW (Nat.le_refl _) fun w' hw => (plfits_b w' (HL.out.below hw) HK.out HCL.out H2.out)) ?_;simp only [aa]
 refine ao (v := .bool false) rfl (fun w' hw => aG rfl (ev rfl) (ev rfl)) ?_;simp only [aa]
 refine ao (v := .bool false) rfl (fun w' hw => aq rfl (ev rfl)) ?_;simp only [aa]
 refine wpQuiet_nil ?_
 intro w2 hw
 go_wp2_with fail
 go_ret
 exact ⟨rfl, HBW.out.trans (hw.mono (by have := HLE.out; omega))⟩
theorem plaw_3 {y : Nte} (w : World) (h : PLg w p q v x) (hk : LgOk M x N) (hy : 1 ≤ y.cells ∧ y.cells ≤ 32) (h0 : ((y.seq : Int) == (x.next : Int)) = true) (h1 : ((y.pos : Int) == (x.head : Int)) = true) (h2 : decide (bc y ≤ x.free) = true) : Calls Tryz.prog 73 #[.pointer (some ⟨p, 0, none⟩), nte y] w fun e w' => e = .returned (.bool true) ∧ Below w.heap.size w w' := by
 obtain ⟨k1, k2, k3⟩ := dm w y
 have HY := af k1
 have HBW := af k2
 have HLE := af k3
 have HL := af (h.below k2)
 have HK := af hk
 have HCL := af hy
 have H0 := af h0
 have H1 := af h1
 have H2 := af h2
 clear h hk hy k1 k2 k3 h0 h1 h2
 go_enter Tryz.func73, Tryz.ntmps73
 go_wp2_with (first | (refine ai rfl (cO rfl rfl) ?_) | fail)
 generalize w.alloc (.cells (aQ y).toArray 35) = w1 at *
 refine aI (B := w1.heap.size) (by kernel_rfl) ?_
 refine ao rfl (fun w' hw => am rfl (ev rfl) faNt0) ?_;simp only [aa]
 refine ao rfl (fun w' hw => au rfl (ev rfl) (bL (HY.out.below HLE.out hw).cells.1)) ?_;simp only [aa]
 refine ao rfl (fun w' hw => aj rfl (ev rfl)) ?_;simp only [aa]
 refine a9 rfl (fun _ => av Tryz.call71 rfl (evc (ev rfl) evn)) (aW (Nat.le_refl _) fun w' hw => (plnext w' (HL.out.below hw) HK.out)) ?_;simp only [aa]
 refine ao (v := .bool true) rfl (fun w' hw => aP true rfl (ev rfl) (ev rfl) H0.out) ?_;simp only [aa]
 refine ao (v := .bool true) rfl (fun w' hw => aj rfl (ev rfl)) ?_;simp only [aa]
 refine ao gr (fun w' hw => am rfl (ev rfl) faNt1) ?_;simp only [aa]
 refine ao gr (fun w' hw => au rfl (ev rfl) (bL (HY.out.below HLE.out hw).cells.2.1)) ?_;simp only [aa]
 refine ao gr (fun w' hw => aj rfl (ev rfl)) ?_;simp only [aa]
 refine a9 gr (fun _ => av Tryz.call81 rfl (evc (ev rfl) evn)) (aW (Nat.le_refl _) fun w' hw => (plhead w' (HL.out.below hw) HK.out)) ?_;simp only [aa]
 refine ao (v := .bool true) gr (fun w' hw => aP true rfl (ev rfl) (ev rfl) H1.out) ?_;simp only [aa]
 refine ao (v := .bool true) rfl (fun w' hw => aG rfl (ev rfl) (ev rfl)) ?_;simp only [aa]
 refine ao (v := .bool true) rfl (fun w' hw => aj rfl (ev rfl)) ?_;simp only [aa]
 refine ao gr (fun w' hw => aj rfl (ev rfl)) ?_;simp only [aa]
 refine ao gr (fun w' hw => bh rfl (ev rfl) (HY.out.below HLE.out hw).range) ?_;simp only [aa]
 refine a9 gr (fun _ => av Tryz.call84 rfl (evc (ev rfl) (evc (ev rfl) evn))) (aW (Nat.le_refl _) fun w' hw => (plfits_b w' (HL.out.below hw) HK.out HCL.out H2.out)) ?_;simp only [aa]
 refine ao (v := .bool true) rfl (fun w' hw => aG rfl (ev rfl) (ev rfl)) ?_;simp only [aa]
 refine ao (v := .bool true) rfl (fun w' hw => aq rfl (ev rfl)) ?_;simp only [aa]
 refine wpQuiet_nil ?_
 intro w2 hw
 go_wp2_with fail
 go_ret
 exact ⟨rfl, HBW.out.trans (hw.mono (by have := HLE.out; omega))⟩
def awtB (x : LgS) (y : Nte) : Bool := decide (y.seq = x.next ∧ y.pos = x.head ∧ bc y ≤ x.free)
theorem plawaited {y : Nte} {t : Bool} (w : World) (h : PLg w p q v x) (hk : LgOk M x N) (hy : 1 ≤ y.cells ∧ y.cells ≤ 32) (ht : awtB x y = t) : Calls Tryz.prog 73 #[.pointer (some ⟨p, 0, none⟩), nte y] w fun e w' => e = .returned (.bool t) ∧ Below w.heap.size w w' := by
 subst ht
 unfold awtB
 by_cases h0 : y.seq = x.next
 ·by_cases h1 : y.pos = x.head
  ·by_cases h2 : bc y ≤ x.free
   ·rw [decide_eq_true ⟨h0, h1, h2⟩]
    exact plaw_3 w h hk hy (by simp [h0]) (by simp [h1]) (decide_eq_true h2)
   ·rw [decide_eq_false (fun e => h2 e.2.2)]
    exact plaw_2 w h hk hy (by simp [h0]) (by simp [h1]) (decide_eq_false h2)
  ·rw [decide_eq_false (fun e => h1 e.2.1)]
   exact plaw_1 w h hk hy (by simp [h0]) (by simp; omega)
 ·rw [decide_eq_false (fun e => h0 e.1)]
  exact plaw_0 w h hk hy (by simp; omega)
theorem pllive (w : World) (h : PLg w p q v x) (hk : LgOk M x N) : Calls Tryz.prog 41 #[.pointer (some ⟨p, 0, none⟩)] w fun e w' => e = .returned (.tuple #[.int .u64 ((x.fst : Nat) : Int), .int .u64 ((x.next : Nat) : Int)]) ∧ Below w.heap.size w w' := by
 have HL := af h
 have HK := af hk
 clear h hk
 go_enter Tryz.func41, Tryz.ntmps41
 go_upto_region 1 with fail
 refine ag ?_
 refine ai rfl (aj rfl (ev rfl)) ?_;simp only [aa]
 refine ar rfl (av Tryz.call79 rfl (evc (ev rfl) evn)) ?_
 refine (plmade _ HL.out).mono ?_
 rintro e w1 ⟨rfl, rfl⟩
 refine ⟨_, rfl, ?_⟩
 simp only [aa]
 refine ai (v := .bool false) rfl (bf true rfl (ev rfl)) ?_;simp only [aa]
 refine ah ?_
 go_upto_region 3 with fail
 refine aI (B := w.heap.size) (by kernel_rfl) ?_
 refine ao rfl (fun w' hw => aj rfl (ev rfl)) ?_;simp only [aa]
 refine ao rfl (fun w' hw => aB rfl (ev rfl)) ?_;simp only [aa]
 refine ao rfl (fun w' hw => am rfl (ev rfl) eK) ?_;simp only [aa]
 refine ao rfl (fun w' hw => am rfl (ev rfl) faQm2) ?_;simp only [aa]
 refine ao rfl (fun w' hw => au rfl (ev rfl) (bL (PLg.c5 (HL.out.below hw)))) ?_;simp only [aa]
 refine ao rfl (fun w' hw => aj rfl (ev rfl)) ?_;simp only [aa]
 refine a9 rfl (fun _ => av Tryz.call71 rfl (evc (ev rfl) evn)) (aW (Nat.le_refl _) fun w' hw => (plnext w' (HL.out.below hw) HK.out)) ?_;simp only [aa]
 refine ao rfl (fun w' hw => aq rfl (ev rfl)) ?_;simp only [aa]
 refine ao rfl (fun w' hw => aq rfl (ev rfl)) ?_;simp only [aa]
 refine wpQuiet_nil ?_
 intro w2 hw
 go_wp2_with fail
 go_ret2
 exact ⟨rfl, hw⟩
theorem plfree (w : World) (h : PLg w p q v x) (hk : LgOk M x N) : Calls Tryz.prog 42 #[.pointer (some ⟨p, 0, none⟩)] w fun e w' => e = .returned (.int .i64 ((x.free : Nat) : Int)) ∧ Below w.heap.size w w' := by
 have HL := af h
 have HK := af hk
 have huse := hk.use
 have hsz := hk.siz
 have hhd := hk.hed
 have hlim := hk.lim
 have hmay : mayB (x.size : Int) (x.pos : Int) (x.head : Int) = true := eV.2 ⟨by omega, by omega, by unfold LgS.head; omega, by omega, by unfold LgS.head; omega⟩
 have HF := af (fre_in hmay)
 have HFE : Hid ((x.size : Int) - ((x.head : Int) - (x.pos : Int)) = ((x.free : Nat) : Int)) := af (by unfold LgS.free LgS.head; omega)
 have HBD : Hid (x.pos ≤ 18446744073709551615 ∧ x.head ≤ 18446744073709551615) := af ⟨by unfold LgS.head at hhd; omega, by omega⟩
 clear h hk huse hsz hhd hlim hmay
 go_enter Tryz.func42, Tryz.ntmps42
 go_upto_region 1 with fail
 refine ag ?_
 refine ai rfl (aj rfl (ev rfl)) ?_;simp only [aa]
 refine ar rfl (av Tryz.call79 rfl (evc (ev rfl) evn)) ?_
 refine (plmade _ HL.out).mono ?_
 rintro e w1 ⟨rfl, rfl⟩
 refine ⟨_, rfl, ?_⟩
 simp only [aa]
 refine ai (v := .bool false) rfl (bf true rfl (ev rfl)) ?_;simp only [aa]
 refine ah ?_
 go_upto_region 3 with fail
 refine aI (B := w.heap.size) (by kernel_rfl) ?_
 refine ao rfl (fun w' hw => aj rfl (ev rfl)) ?_;simp only [aa]
 refine ao rfl (fun w' hw => aB rfl (ev rfl)) ?_;simp only [aa]
 refine ao rfl (fun w' hw => am rfl (ev rfl) eK) ?_;simp only [aa]
 refine ao rfl (fun w' hw => am rfl (ev rfl) faQm1) ?_;simp only [aa]
 refine ao rfl (fun w' hw => au rfl (ev rfl) (bj (PLg.c4 (HL.out.below hw)))) ?_;simp only [aa]
 refine ao rfl (fun w' hw => aj rfl (ev rfl)) ?_;simp only [aa]
 refine ao rfl (fun w' hw => aB rfl (ev rfl)) ?_;simp only [aa]
 refine ao rfl (fun w' hw => am rfl (ev rfl) eK) ?_;simp only [aa]
 refine ao rfl (fun w' hw => am rfl (ev rfl) faQm3) ?_;simp only [aa]
 refine ao rfl (fun w' hw => au rfl (ev rfl) (bL (PLg.c6 (HL.out.below hw)))) ?_;simp only [aa]
 refine ao rfl (fun w' hw => aj rfl (ev rfl)) ?_;simp only [aa]
 refine a9 rfl (fun _ => av Tryz.call81 rfl (evc (ev rfl) evn)) (aW (Nat.le_refl _) fun w' hw => (plhead w' (HL.out.below hw) HK.out)) ?_;simp only [aa]
 refine a9 rfl (fun _ => av Tryz.call80 rfl (evc (ev rfl) (evc (ev rfl) (evc (ev rfl) evn)))) (aW (Nat.le_refl _) fun w' hw => ((pfre (x.size : Int) (x.pos : Int) (x.head : Int) w' (by omega) (by have := HBD.out.1; omega) (by omega) (by have := HBD.out.2; omega)).mono fun e w'' hh => ⟨hh.1, by rw [hh.2]; exact Below.refl _ _⟩)) ?_;simp only [aa]
 refine ao rfl (fun w' hw => aj rfl (ev rfl)) ?_;simp only [aa]
 refine ao rfl (fun w' hw => aD rfl (ev rfl) rfl) ?_;simp only [aa]
 refine ao rfl (fun w' hw => aD rfl (ev rfl) rfl) ?_;simp only [aa]
 refine ao rfl (fun w' hw => aq rfl (ev rfl)) ?_;simp only [aa]
 refine ao rfl (fun w' hw => aq rfl (ev rfl)) ?_;simp only [aa]
 refine wpQuiet_nil ?_
 intro w2 hw
 rw [HF.out.1, HF.out.2, HFE.out]
 go_wp2_with fail
 go_ret
 exact ⟨rfl, hw⟩
theorem plid (w : World) (h : PLg w p q v x) : Calls Tryz.prog 43 #[.pointer (some ⟨p, 0, none⟩)] w fun e w' => e = .returned (.int .u64 ((x.own : Nat) : Int)) ∧ Below w.heap.size w w' := by
 have HL := af h
 clear h
 go_enter Tryz.func43, Tryz.ntmps43
 go_upto_region 1 with fail
 refine ag ?_
 refine ai rfl (aj rfl (ev rfl)) ?_;simp only [aa]
 refine ar rfl (av Tryz.call79 rfl (evc (ev rfl) evn)) ?_
 refine (plmade _ HL.out).mono ?_
 rintro e w1 ⟨rfl, rfl⟩
 refine ⟨_, rfl, ?_⟩
 simp only [aa]
 refine ai (v := .bool false) rfl (bf true rfl (ev rfl)) ?_;simp only [aa]
 refine ah ?_
 have c := HL.out.c3
 go_wp2_with fail
 go_ret
 exact ⟨rfl, Below.refl _ _⟩
theorem plring (w : World) (h : PLg w p q v x) : Calls Tryz.prog 44 #[.pointer (some ⟨p, 0, none⟩)] w fun e w' => e = .returned (.int .i64 ((x.size : Nat) : Int)) ∧ Below w.heap.size w w' := by
 have HL := af h
 clear h
 go_enter Tryz.func44, Tryz.ntmps44
 go_upto_region 1 with fail
 refine ag ?_
 refine ai rfl (aj rfl (ev rfl)) ?_;simp only [aa]
 refine ar rfl (av Tryz.call79 rfl (evc (ev rfl) evn)) ?_
 refine (plmade _ HL.out).mono ?_
 rintro e w1 ⟨rfl, rfl⟩
 refine ⟨_, rfl, ?_⟩
 simp only [aa]
 refine ai (v := .bool false) rfl (bf true rfl (ev rfl)) ?_;simp only [aa]
 refine ah ?_
 have c := HL.out.c4
 go_wp2_with fail
 go_ret
 exact ⟨rfl, Below.refl _ _⟩
end
structure Fv where
 f : FuncId
 fst : List Value
 cap : List Value
 ok : ∀ (args : Array Value) (w : World), (callFunc f args).run Tryz.prog w = .ok (.enter f args) w
def Fv.val (s : Fv) : Value := .func (.func s.f) s.fst.toArray s.cap.toArray
def FnE : Elt Fv where
 s := 82
 t := 134
 n := 1
 by_ := 8
 cel s := [s.val]
 d := ⟨86, [], [], Tryz.call86⟩
 z := .nilFunc
 pos := by omega
 small := by omega
 len _ := rfl
 one s v hv := by simp at hv; subst hv; rfl
 und := Tryz.underlying82
 info := by kernel_rfl
 zc := rfl
theorem RdE.fn {w : World} {B n : Nat} {A : Option Addr} {l : List Fv} (h : RdE FnE w B A n l) {k : Nat} (hk : k < n) : ∃ b off, A = some ⟨b, off, none⟩ ∧ b < B ∧ w.cell? ⟨b, off + k, none⟩ = some (l.getD k FnE.d).val := by
 obtain ⟨b, off, e, hb, hc⟩ := h.2 k hk
 refine ⟨b, off, e, hb, ?_⟩
 have h0 := hc 0 _ rfl
 rwa [show off + k * FnE.n + 0 = off + k from by show off + k * 1 + 0 = _; omega] at h0
section
variable {ρ : Operand → Value} {o : Oper} {x : Operand} {w : World} {s : Fv}
theorem ldFn {ad : Addr} (h : w.cell? ad = some s.val) : (Instr.loadAt 134 (.pointer (some ad))).run Tryz.prog w = .ok s.val w := by unfold Fv.val at *; simp [go_sem, h]
theorem exec_callV {a : Act} {ats : Array TypeId} (ho : o.op = .call { callee := .value x, args := #[], argTypes := ats }) (hx : a.eval x = s.val) : (execOp a.eval o).run Tryz.prog w = .ok (.enter s.f (s.fst ++ s.cap).toArray) w := by
 unfold Fv.val at hx
 unfold execOp
 simp [ho, resolve, Deferred.ofValue, invoke, hx, s.ok]
theorem exec_idxF {b off n c j : Nat} {y : Operand} (ho : o.op = .indexAddr 82 x y) (hx : ρ x = .slice (some ⟨b, off, none⟩) n c) (hy : ρ y = .int .i64 (j : Int)) (hj : j < n) : (execOp ρ o).run Tryz.prog w = .ok (.value (.pointer (some ⟨b, off + j, none⟩))) w := by
 have := bQ (E := FnE) (w := w) ho hx hy hj
 rwa [show off + j * FnE.n = off + j from by show off + j * 1 = _; omega] at this
theorem exec_lenF {A : Option Addr} {n c : Nat} (ho : o.op = .call { callee := .builtin .len, args := #[x], argTypes := #[82] }) (hx : ρ x = .slice A n c) : (execOp ρ o).run Tryz.prog w = .ok (.value (.int .i64 (n : Int))) w := cD Tryz.underlying82 ho hx
end
def Chn (K : Nat → Prop) (Q : Int → World → Prop) : List Fv → World → Prop
 | [], w => ∀ w', Below w.heap.size w w' → Q 0 w'
 | s :: l, w => ∀ w1, Below w.heap.size w w1 → Calls Tryz.prog s.f (s.fst ++ s.cap).toArray w1 fun e w2 => kept K w1 w2 ∧ ∃ E, e = .returned (.int .i64 E) ∧ ((E = 0 ∧ Chn K Q l w2) ∨ (E ≠ 0 ∧ ∀ w3, Below w2.heap.size w2 w3 → Q E w3))
theorem RdE.kept_ {α : Type} {E : Elt α} {w w' : World} {B B' n : Nat} {A : Option Addr} {l : List α} (h : RdE E w B A n l) (hk : ∀ b off, A = some ⟨b, off, none⟩ → w'.heap[b]? = w.heap[b]?) (hB : w'.heap.size ≤ B') : RdE E w' B' A n l :=
 ⟨h.1, fun k hn => by
  obtain ⟨b, off, e, hb, hc⟩ := h.2 k hn
  have e2 := hk b off e
  have hr : w'.rangeAt b (off + k * E.n) (E.cel (l.getD k E.d)) := rng_kept e2 hc
  have h0 := E.pos
  have hl := E.len (l.getD k E.d)
  have := hr 0 _ (List.getElem?_eq_getElem (by omega))
  exact ⟨b, off, e, Nat.lt_of_lt_of_le (lt_of_cell this) hB, hr⟩⟩
set_option maxHeartbeats 1600000 in
theorem ptaken (A : Option Addr) (n c N : Nat) (l : List Fv) (w : World) (K : Nat → Prop) (Q : Int → World → Prop) (hr : RdE FnE w N A n l) (hN : N ≤ w.heap.size) (hn : n ≤ 1000000) (hK : ∀ b off, A = some ⟨b, off, none⟩ → K b) (h : Chn K Q l w) :
  Calls Tryz.prog 28 #[.slice A n c] w fun e w' => ∃ E, e = .returned (.int .i64 E) ∧ Q E w' := by
 have HK := af hK
 have HC := af h
 have HR := af (hr.more hN)
 clear hK h hr hN
 go_enter Tryz.func28, Tryz.ntmps28
 go_upto_region 1 with fail
 refine ag ?_
 refine ai rfl (aj rfl (ev rfl)) ?_;simp only [aa]
 refine ai rfl (exec_lenF rfl (ev rfl)) ?_;simp only [aa]
 refine ai rfl (aj rfl evk) ?_;simp only [aa]
 refine ah ?_
 go_wp2_with fail
 go_loopw [8] (fun i wr => ∃ k : Nat, k ≤ n ∧ i = .int .i64 k ∧ RdE FnE wr wr.heap.size A n l ∧ Chn K Q (l.drop k) wr) (fun i _ => n - (intOf i).toNat)
 case atStart => exact ⟨0, Nat.zero_le _, rfl, HR.out, HC.out⟩
 case round =>
  clear HC HR
  obtain ⟨k, hk, rfl, hrd, hch⟩ := hrel
  by_cases hlt : k < n
  ·obtain ⟨b, off, hA, hb, hc⟩ := hrd.fn hlt
   have hl := hrd.1
   have hdr : l.drop k = l.getD k FnE.d :: l.drop (k + 1) := by
    rw [List.drop_eq_getElem_cons (by omega), List.getD, List.getElem?_eq_getElem (by omega)]
    rfl
   rw [hdr] at hch
   obtain ⟨s, hs⟩ : ∃ s, l.getD k FnE.d = s := ⟨_, rfl⟩
   rw [hs] at hch hc
   have HKB := af (HK.out b off hA)
   have HKA := HK
   have HAA := af hA
   subst hA
   have HS := af hc
   have HCH := af hch
   have HRD := af hrd
   clear hc hch hrd hdr hs hl hb
   go_upto_region 3 with fail
   refine ag ?_
   refine ai rfl (exec_idxF rfl (ev rfl) (ev rfl) hlt) ?_;simp only [aa]
   refine ai rfl (au rfl (ev rfl) (ldFn HS.out)) ?_;simp only [aa]
   refine ai rfl (aq rfl (ev rfl)) ?_;simp only [aa]
   refine ah ?_
   go_upto_region 4 with fail
   refine ag ?_
   refine ai rfl (aj rfl (ev rfl)) ?_;simp only [aa]
   refine ar rfl (exec_callV rfl (ev rfl)) ?_
   refine (HCH.out _ (Below.refl _ _)).mono ?_
   rintro e w2 ⟨hkp, E, rfl, ⟨rfl, hnx⟩ | ⟨hne, hq⟩⟩
   ·have HRD2 := af (HRD.out.kept_ (w' := w2) (fun b' off' e => hkp b' (HKA.out b' off' e)) (Nat.le_refl _))
    have HNX := af hnx
    clear hkp hnx
    refine ⟨_, rfl, ?_⟩
    simp only [aa]
    refine ai rfl (aq rfl (ev rfl)) ?_;simp only [aa]
    refine ah ?_
    go_wp2_with fail
    go_roundw
    case rel => exact ⟨k + 1, by omega, by go_num, HRD2.out, HNX.out⟩
    case measure => simp [intOf]; omega
   ·have hn2 : (E != 0) = true := by simpa using hne
    have HQ := af hq
    clear hkp hq hne
    refine ⟨_, rfl, ?_⟩
    simp only [aa]
    refine ai rfl (aq rfl (ev rfl)) ?_;simp only [aa]
    refine ah ?_
    go_wp2_with fail
    go_ret
    exact ⟨E, rfl, HQ.out _ (by first | exact Below.refl _ _ | exact bd (Below.refl _ _))⟩
  ·have hkn : k = n := by omega
   subst hkn
   rw [List.drop_of_length_le (by have := hrd.1; omega)] at hch
   have HCH := af hch
   clear hch hrd
   go_wp2_with fail
   go_ret
   exact ⟨0, rfl, HCH.out _ (by first | exact Below.refl _ _ | exact bd (Below.refl _ _))⟩
end Go.Proofs.YtbbcdhkinbmdnaaGreatDoor
