import Derived.Test.YtcafafdimcecpaaGreatDoorLcao
import Derived.Test.YtcafafdimcecpaaGreatDoorLcan
import Derived.Test.YtcafafdimcecpaaGreatDoorLcab
import Derived.Laws.EntriesVeiled
import Derived.Test.YtcafafdimcecpaaGreatDoorLcai
import Derived.Test.YtcafafdimcecpaaGreatDoorLcZ
namespace Go.Proofs.YtcafafdimcecpaaGreatDoor
open Go.RowKit
set_option linter.unusedVariables false
set_option linter.unusedSimpArgs false
set_option maxRecDepth 100000
theorem psz_v {n : Int} {k : Nat} (h : sizN n = k) (w : World) : Calls Tryz.prog 115 #[.int .i64 n] w fun e w' => e = .returned (.int .i64 (k : Nat)) ∧ w = w' := by subst h; exact psize n w
theorem seN_leP {w : World} {G : Nat → Prop} {q : Nat} {M : BenS} (d : Int) (hb : bi.Bn w G q M) : 0 ≤ ca M d ∧ ca M d ≤ 512 := by
  have hw := bi.wf hb
  unfold ca
  rcases dF M d with ⟨e, _⟩ | ⟨e, k, rfl, hk⟩
  · rw [if_neg (by omega)]; omega
  · rw [if_pos e, dev_getD, Int.toNat_natCast]
    have := hw.len k hk
    omega
theorem pbmade {w : World} {G : Nat → Prop} {q : Nat} {M : BenS} (hb : bi.Bn w G q M) : Calls Tryz.prog 70 #[.pointer (some ⟨q, 0, none⟩)] w fun e w' => e = .returned (.bool true) ∧ Below w.heap.size w w' := by
  have hone := (bi.wf hb).one
  obtain ⟨v, Fs, ps, _, hb'⟩ := hb
  have HB := Lib.hid (b_devices hb')
  have HL : Hid ((0 : Int) < (M.ds.length : Int)) := Lib.hid (by omega)
  clear hb' hone
  go_enter Tryz.func70, Tryz.ntmps70
  go_wp2_with fail
  refine HB.out.mono ?_
  rintro e w1 ⟨rfl, hb1⟩
  have HB1 := Lib.hid (ei hb1)
  have hl := HL.out
  clear hb1
  go_wp2_with fail
  go_ret
  exact ⟨bO (decide_eq_true (by have := HL.out; omega)), HB1.out⟩
theorem proom {w : World} {G : Nat → Prop} {q : Nat} {M : BenS} (d : Int) (hb : bi.Bn w G q M) : Calls Tryz.prog 71 #[.pointer (some ⟨q, 0, none⟩), .int .i64 d] w fun e w' => e = .returned (.int .i64 (ca M d - 10)) ∧ Below w.heap.size w w' := by
  have HB := Lib.hid hb
  have hs := seN_leP d hb
  have HW : Hid (IntKind.i64.wrap (ca M d - 10) = ca M d - 10) := Lib.hid (IntWalk.i64_in _ ⟨by omega, by omega⟩)
  clear hb hs
  go_enter Tryz.func71, Tryz.ntmps71
  go_upto_region 1 with fail
  refine wp_region_lit ?_
  refine ag rfl (ah rfl (ev rfl)) ?_
  simp only [Act.put, aa, ae, af]
  refine ag rfl (ah rfl (ev rfl)) ?_
  simp only [Act.put, aa, ae, af]
  refine ao rfl (au Tryz.call132 rfl (evc (ev rfl) (evc (ev rfl) evn))) ?_
  refine (bi.eD d HB.out).mono ?_
  rintro e w1 ⟨rfl, hb1⟩
  refine ⟨_, rfl, ?_⟩
  simp only [Act.put, aa, ae, af]
  refine ag rfl (exec_sub rfl (ev rfl) evk HW.out) ?_
  simp only [Act.put, aa, ae, af]
  refine ag rfl (aq rfl (ev rfl)) ?_
  simp only [Act.put, aa, ae, af]
  refine wpList_nil ?_
  go_wp2_with fail
  go_ret
  exact ⟨rfl, hb1⟩
section
variable {p q N : Nat} {v : Value} {x : LgS} {M : BenS}
theorem plmade (w : World) (h : PLg w p q v x) : Calls Tryz.prog 56 #[.pointer (some ⟨p, 0, none⟩)] w fun e w' => e = .returned (.bool true) ∧ w = w' := by
  have c0 := h.c0
  clear h
  go_enter Tryz.func56, Tryz.ntmps56
  go_wp2_with fail
  go_ret
  exact ⟨rfl, rfl⟩
theorem plnext (w : World) (h : PLg w p q v x) (hk : LgOk M x N) : Calls Tryz.prog 57 #[.pointer (some ⟨p, 0, none⟩)] w fun e w' => e = .returned (.int .u64 ((x.next : Nat) : Int)) ∧ Below w.heap.size w w' := by
  obtain ⟨A, c, rfl, h1, h2⟩ := h.slice
  have HL := Lib.hid h
  have HN8 : Hid (x.nts.length < 18446744073709551616) := Lib.hid (by have := hk.eig; omega)
  have HNX : Hid (x.fst + x.nts.length < 18446744073709551616) := Lib.hid (by have := hk.nxt; have := hk.lim; unfold LgS.next at *; omega)
  clear h hk h1 h2
  go_enter Tryz.func57, Tryz.ntmps57
  go_upto_region 1 with fail
  refine aE (B := w.heap.size) (by kernel_rfl) ?_
  refine am rfl (fun w' hw => ah rfl (ev rfl)) ?_
  simp only [Act.put, aa, ae, af]
  refine am rfl (fun w' hw => az rfl (ev rfl)) ?_
  simp only [Act.put, aa, ae, af]
  refine am rfl (fun w' hw => ak rfl (ev rfl) dG) ?_
  simp only [Act.put, aa, ae, af]
  refine am rfl (fun w' hw => ak rfl (ev rfl) faQm2) ?_
  simp only [Act.put, aa, ae, af]
  refine am rfl (fun w' hw => av rfl (ev rfl) (bR (PLg.c5 (HL.out.below hw)))) ?_
  simp only [Act.put, aa, ae, af]
  refine am rfl (fun w' hw => ah rfl (ev rfl)) ?_
  simp only [Act.put, aa, ae, af]
  refine am rfl (fun w' hw => az rfl (ev rfl)) ?_
  simp only [Act.put, aa, ae, af]
  refine am rfl (fun w' hw => ak rfl (ev rfl) faQl4) ?_
  simp only [Act.put, aa, ae, af]
  refine am rfl (fun w' hw => av rfl (ev rfl) (ldNts (PLg.c7 (HL.out.below hw)))) ?_
  simp only [Act.put, aa, ae, af]
  refine am rfl (fun w' hw => bQ Tryz.underlying86 rfl (ev rfl)) ?_
  simp only [Act.put, aa, ae, af]
  refine am rfl (fun w' hw => exec_cvIU rfl (ev rfl) HN8.out) ?_
  simp only [Act.put, aa, ae, af]
  refine am rfl (fun w' hw => exec_adN rfl (ev rfl) (ev rfl) HNX.out) ?_
  simp only [Act.put, aa, ae, af]
  refine am rfl (fun w' hw => aq rfl (ev rfl)) ?_
  simp only [Act.put, aa, ae, af]
  refine wpQuiet_nil ?_
  intro w2 hw
  go_wp2_with fail
  go_ret
  exact ⟨rfl, hw⟩
theorem plbegin_0 (w : World) (h : PLg w p q v x) : Calls Tryz.prog 58 #[.pointer (some ⟨p, 0, none⟩), .int .i64 0] w fun e w' => e = .returned (.int .u64 ((x.pos : Nat) : Int)) ∧ Below w.heap.size w w' := by
  have c6 := h.c6
  clear h
  go_enter Tryz.func58, Tryz.ntmps58
  go_wp2_with fail
  go_ret
  exact ⟨rfl, Below.refl _ _⟩
theorem plbegin_s (w : World) (i : Nat) (hi : i < x.nts.length) (h : PLg w p q v x) (hk : LgOk M x N) : Calls Tryz.prog 58 #[.pointer (some ⟨p, 0, none⟩), .int .i64 ((i + 1 : Nat) : Int)] w fun e w' => e = .returned (.int .u64 ((x.pos + usd (x.nts.take (i + 1)) : Nat) : Int)) ∧ Below w.heap.size w w' := by
  obtain ⟨A, c, rfl, h1, h2⟩ := h.slice
  obtain ⟨n1, n2, n3, n4⟩ := hk.nts i hi
  have heig := hk.eig
  have hend := hk.end_ hi
  have huse := hk.use
  have hsz := hk.siz
  have hhd := hk.hed
  have hlim := hk.lim
  have htak := fL hi
  obtain ⟨g, off, rfl, hg, hc⟩ := h.row.rd.2 i hi
  obtain ⟨y, hy⟩ : ∃ y, x.nts.getD i aG = y := ⟨_, rfl⟩
  rw [show aW.d = aG from rfl, hy] at hc
  rw [hy] at n1 n2 n3 n4 hend htak
  have HL := Lib.hid h
  have HI := Lib.hid hi
  have HC := Lib.hid hc
  have HZ := Lib.hid (sz_tak (n := y) ⟨n1, n2⟩)
  have htk0 : bf y ≤ 34 := by unfold bf hd; omega
  have HTK : Hid (bf y < 18446744073709551616) := Lib.hid (by omega)
  have HAD : Hid (y.pos + bf y < 18446744073709551616) := Lib.hid (by unfold LgS.head LgS.used at hhd; rw [n3]; omega)
  have HEQ : Hid (x.pos + usd (x.nts.take (i + 1)) = y.pos + bf y) := Lib.hid (by rw [htak, n3]; omega)
  have HNE : Hid ((((i + 1 : Nat) : Int) == (0 : Int)) = false) := Lib.hid (by simp; omega)
  have HSB : Hid (IntKind.i64.wrap (((i + 1 : Nat) : Int) - 1) = (i : Int)) := Lib.hid (by rw [IntWalk.i64_in _ ⟨by omega, by omega⟩]; omega)
  rw [HEQ.out]
  clear h hk h1 h2 htk0 n1 n2 n3 n4 hend huse hsz hhd hlim htak hi hg hc hy heig HEQ
  go_enter Tryz.func58, Tryz.ntmps58
  go_upto_region 1 with fail
  refine wp_region_lit ?_
  refine ag rfl (ah rfl (ev rfl)) ?_
  simp only [Act.put, aa, ae, af]
  refine ag (v := .bool false) rfl (aI false rfl (ev rfl) evk HNE.out) ?_
  simp only [Act.put, aa, ae, af]
  refine wpList_nil ?_
  go_upto_region 3 with fail
  refine wp_region_lit ?_
  refine ag rfl (ah rfl (ev rfl)) ?_
  simp only [Act.put, aa, ae, af]
  refine ag rfl (az rfl (ev rfl)) ?_
  simp only [Act.put, aa, ae, af]
  refine ag rfl (ak rfl (ev rfl) faQl4) ?_
  simp only [Act.put, aa, ae, af]
  refine ag rfl (av rfl (ev rfl) (ldNts (PLg.c7 HL.out))) ?_
  simp only [Act.put, aa, ae, af]
  refine ag rfl (ah rfl (ev rfl)) ?_
  simp only [Act.put, aa, ae, af]
  refine ag rfl (exec_sub rfl (ev rfl) evk HSB.out) ?_
  simp only [Act.put, aa, ae, af]
  refine ag rfl (a8 (E := aW) rfl (ev rfl) (ev rfl) HI.out) ?_
  simp only [Act.put, aa, ae, af]
  refine ag rfl (aZ (c := y) rfl (ev rfl) HC.out) ?_
  simp only [Act.put, aa, ae, af]
  refine ag rfl (ci rfl) ?_
  simp only [Act.put, aa, ae, af]
  refine aB rfl (dK (c := y) rfl (ev rfl) (ev rfl)) ?_
  simp only [Act.put, aa, ae, af]
  refine wpList_nil ?_
  have HY := Lib.hid (bT.new w y)
  have HBW := Lib.hid ((Below.refl w.heap.size w).alloc (Nat.le_refl _) (.cells (aS y).toArray 70))
  have HLE : Hid (w.heap.size < (w.alloc (.cells (aS y).toArray 70)).heap.size) := Lib.hid (by rw [World.size_alloc]; omega)
  generalize w.alloc (.cells (aS y).toArray 70) = w1 at *
  go_upto_region 4 with fail
  refine aE (B := w1.heap.size) (by kernel_rfl) ?_
  refine am rfl (fun w' hw => ak rfl (ev rfl) faNt1) ?_
  simp only [Act.put, aa, ae, af]
  refine am rfl (fun w' hw => av rfl (ev rfl) (bR (HY.out.below HLE.out hw).cells.2.1)) ?_
  simp only [Act.put, aa, ae, af]
  refine am rfl (fun w' hw => ak rfl (ev rfl) faNt2) ?_
  simp only [Act.put, aa, ae, af]
  refine am rfl (fun w' hw => av rfl (ev rfl) (bW (HY.out.below HLE.out hw).cells.2.2.1)) ?_
  simp only [Act.put, aa, ae, af]
  refine a9 rfl (fun _ => au Tryz.call115 rfl (evc (ev rfl) evn)) (aU (Nat.le_refl _) fun w' hw => (((psz_v (k := bf y) HZ.out w').mono fun e w'' hh => ⟨hh.1, by rw [hh.2]; exact Below.refl _ _⟩))) ?_
  simp only [Act.put, aa, ae, af]
  refine am rfl (fun w' hw => exec_cvIU rfl (ev rfl) HTK.out) ?_
  simp only [Act.put, aa, ae, af]
  refine am rfl (fun w' hw => exec_adN rfl (ev rfl) (ev rfl) HAD.out) ?_
  simp only [Act.put, aa, ae, af]
  refine am rfl (fun w' hw => aq rfl (ev rfl)) ?_
  simp only [Act.put, aa, ae, af]
  refine wpQuiet_nil ?_
  intro w2 hw
  go_wp2_with fail
  go_ret
  exact ⟨rfl, HBW.out.trans (hw.mono (by have := HLE.out; omega))⟩
theorem plbegin (w : World) (i : Nat) (hi : i ≤ x.nts.length) (h : PLg w p q v x) (hk : LgOk M x N) : Calls Tryz.prog 58 #[.pointer (some ⟨p, 0, none⟩), .int .i64 (i : Int)] w fun e w' => e = .returned (.int .u64 ((x.pos + usd (x.nts.take i) : Nat) : Int)) ∧ Below w.heap.size w w' := by
  cases i with
  | zero => exact (plbegin_0 w h).mono fun e w' hh => hh
  | succ i => exact plbegin_s w i hi h hk
theorem plhead (w : World) (h : PLg w p q v x) (hk : LgOk M x N) : Calls Tryz.prog 64 #[.pointer (some ⟨p, 0, none⟩)] w fun e w' => e = .returned (.int .u64 ((x.head : Nat) : Int)) ∧ Below w.heap.size w w' := by
  have HG : Hid (Calls Tryz.prog 58 #[.pointer (some ⟨p, 0, none⟩), .int .i64 (x.nts.length : Int)] w fun e w' => e = .returned (.int .u64 ((x.head : Nat) : Int)) ∧ Below w.heap.size w w') := Lib.hid ((plbegin w x.nts.length (Nat.le_refl _) h hk).mono fun e w' hh => by rw [List.take_length] at hh; exact hh)
  obtain ⟨A, c, rfl, h1, h2⟩ := h.slice
  have HL := Lib.hid h
  clear h hk h1 h2
  go_enter Tryz.func64, Tryz.ntmps64
  go_upto_region 1 with fail
  refine wp_region_lit ?_
  refine ag rfl (ah rfl (ev rfl)) ?_
  simp only [Act.put, aa, ae, af]
  refine ag rfl (ah rfl (ev rfl)) ?_
  simp only [Act.put, aa, ae, af]
  refine ag rfl (az rfl (ev rfl)) ?_
  simp only [Act.put, aa, ae, af]
  refine ag rfl (ak rfl (ev rfl) faQl4) ?_
  simp only [Act.put, aa, ae, af]
  refine ag rfl (av rfl (ev rfl) (ldNts (PLg.c7 HL.out))) ?_
  simp only [Act.put, aa, ae, af]
  refine ag rfl (bQ Tryz.underlying86 rfl (ev rfl)) ?_
  simp only [Act.put, aa, ae, af]
  refine ao rfl (au Tryz.call58 rfl (evc (ev rfl) (evc (ev rfl) evn))) ?_
  refine HG.out.mono ?_
  rintro e w1 ⟨rfl, hb⟩
  refine ⟨_, rfl, ?_⟩
  simp only [Act.put, aa, ae, af]
  refine ag rfl (aq rfl (ev rfl)) ?_
  simp only [Act.put, aa, ae, af]
  refine wpList_nil ?_
  go_wp2_with fail
  go_ret
  exact ⟨rfl, hb⟩
theorem plfits (w : World) (y : Nte) (h : PLg w p q v x) (hk : LgOk M x N) (hy : 1 ≤ y.cells ∧ y.cells ≤ 32) : Calls Tryz.prog 66 #[.pointer (some ⟨p, 0, none⟩), nte y] w fun e w' => e = .returned (.bool (decide (bf y ≤ x.free))) ∧ Below w.heap.size w w' := by
  have heig := hk.eig
  have huse := hk.use
  have hsz := hk.siz
  have hhd := hk.hed
  have hlim := hk.lim
  have HZ := Lib.hid (sz_tak hy)
  have htk : bf y ≤ 34 := by unfold bf hd; omega
  have hmay : mayB (x.size : Int) (x.pos : Int) (x.head : Int) = true := mayB_iff.2 ⟨by omega, by omega, by unfold LgS.head; omega, by omega, by unfold LgS.head; omega⟩
  have HTL := Lib.hid htk
  obtain ⟨E, hE⟩ : ∃ E, takE (x.size : Int) (x.pos : Int) (x.head : Int) (bf y : Int) = E := ⟨_, rfl⟩
  have HTE := Lib.hid hE
  have HEQ : Hid ((E == (0 : Int)) = decide (bf y ≤ x.free)) := Lib.hid (by
    have hh : (x.head : Int) = (x.pos : Int) + (x.used : Int) := by unfold LgS.head; omega
    by_cases hf : bf y ≤ x.free
    · rw [← hE, (tak_in hmay (by omega) ⟨by unfold LgS.free at hf; omega, by omega⟩).2, decide_eq_true hf]; rfl
    · rw [← hE, (tak_full hmay (by omega) (fun e => hf (by unfold LgS.free; omega))).2, decide_eq_false hf]; rfl)
  have HBD : Hid (x.pos ≤ 18446744073709551615 ∧ x.head ≤ 18446744073709551615) := Lib.hid ⟨by unfold LgS.head at hhd; omega, by omega⟩
  obtain ⟨h1, h2, h3⟩ := dr w y
  have HY := Lib.hid h1
  have HBW := Lib.hid h2
  have HLE := Lib.hid h3
  have HL := Lib.hid (h.below h2)
  have HK := Lib.hid hk
  clear h hk hy heig huse hsz hhd hlim htk hmay hE h1 h2 h3
  go_enter Tryz.func66, Tryz.ntmps66
  go_wp2_with (first | (refine ag rfl (cI rfl rfl) ?_) | fail)
  generalize w.alloc (.cells (aS y).toArray 70) = w1 at *
  refine aE (B := w1.heap.size) (by kernel_rfl) ?_
  refine am rfl (fun w' hw => ah rfl (ev rfl)) ?_
  simp only [Act.put, aa, ae, af]
  refine am rfl (fun w' hw => az rfl (ev rfl)) ?_
  simp only [Act.put, aa, ae, af]
  refine am rfl (fun w' hw => ak rfl (ev rfl) dG) ?_
  simp only [Act.put, aa, ae, af]
  refine am rfl (fun w' hw => ak rfl (ev rfl) faQm1) ?_
  simp only [Act.put, aa, ae, af]
  refine am rfl (fun w' hw => av rfl (ev rfl) (bW (PLg.c4 (HL.out.below hw)))) ?_
  simp only [Act.put, aa, ae, af]
  refine am rfl (fun w' hw => ah rfl (ev rfl)) ?_
  simp only [Act.put, aa, ae, af]
  refine am rfl (fun w' hw => az rfl (ev rfl)) ?_
  simp only [Act.put, aa, ae, af]
  refine am rfl (fun w' hw => ak rfl (ev rfl) dG) ?_
  simp only [Act.put, aa, ae, af]
  refine am rfl (fun w' hw => ak rfl (ev rfl) faQm3) ?_
  simp only [Act.put, aa, ae, af]
  refine am rfl (fun w' hw => av rfl (ev rfl) (bR (PLg.c6 (HL.out.below hw)))) ?_
  simp only [Act.put, aa, ae, af]
  refine am rfl (fun w' hw => ah rfl (ev rfl)) ?_
  simp only [Act.put, aa, ae, af]
  refine a9 rfl (fun _ => au Tryz.call64 rfl (evc (ev rfl) evn)) (aU (Nat.le_refl _) fun w' hw => (plhead w' (HL.out.below hw) HK.out)) ?_
  simp only [Act.put, aa, ae, af]
  refine am rfl (fun w' hw => ak rfl (ev rfl) faNt2) ?_
  simp only [Act.put, aa, ae, af]
  refine am rfl (fun w' hw => av rfl (ev rfl) (bW (HY.out.below HLE.out hw).cells.2.2.1)) ?_
  simp only [Act.put, aa, ae, af]
  refine a9 rfl (fun _ => au Tryz.call115 rfl (evc (ev rfl) evn)) (aU (Nat.le_refl _) fun w' hw => ((psz_v (k := bf y) HZ.out w').mono fun e w'' hh => ⟨hh.1, by rw [hh.2]; exact Below.refl _ _⟩)) ?_
  simp only [Act.put, aa, ae, af]
  refine a9 rfl (fun _ => au Tryz.call125 rfl (evc (ev rfl) (evc (ev rfl) (evc (ev rfl) (evc (ev rfl) evn))))) (aU (Nat.le_refl _) fun w' hw => ((ptak (x.size : Int) (x.pos : Int) (x.head : Int) (bf y : Int) w' (by omega) (by have := HBD.out.1; omega) (by omega) (by have := HBD.out.2; omega) (by have := HTL.out; omega)).mono fun e w'' hh => ⟨hh.1, by rw [hh.2]; exact Below.refl _ _⟩)) ?_
  simp only [Act.put, aa, ae, af]
  refine am rfl (fun w' hw => ah rfl (ev rfl)) ?_
  simp only [Act.put, aa, ae, af]
  refine am rfl (fun w' hw => aC rfl (ev rfl) rfl) ?_
  simp only [Act.put, aa, ae, af]
  refine am rfl (fun w' hw => aC rfl (ev rfl) rfl) ?_
  simp only [Act.put, aa, ae, af]
  refine am rfl (fun w' hw => aq rfl (ev rfl)) ?_
  simp only [Act.put, aa, ae, af]
  refine am rfl (fun w' hw => aq rfl (ev rfl)) ?_
  simp only [Act.put, aa, ae, af]
  refine wpQuiet_nil ?_
  intro w2 hw
  rw [HTE.out]
  have heq := HEQ.out
  go_wp2_with fail
  go_ret
  exact ⟨rfl, HBW.out.trans (hw.mono (by have := HLE.out; omega))⟩
theorem plfits_b {y : Nte} {t : Bool} (w : World) (h : PLg w p q v x) (hk : LgOk M x N) (hy : 1 ≤ y.cells ∧ y.cells ≤ 32) (ht : decide (bf y ≤ x.free) = t) : Calls Tryz.prog 66 #[.pointer (some ⟨p, 0, none⟩), nte y] w fun e w' => e = .returned (.bool t) ∧ Below w.heap.size w w' := by subst ht; exact plfits w y h hk hy
theorem plaw_0 {y : Nte} (w : World) (h : PLg w p q v x) (hk : LgOk M x N) (hy : 1 ≤ y.cells ∧ y.cells ≤ 32) (h0 : ((y.seq : Int) == (x.next : Int)) = false) : Calls Tryz.prog 136 #[.pointer (some ⟨p, 0, none⟩), nte y] w fun e w' => e = .returned (.bool false) ∧ Below w.heap.size w w' := by
  obtain ⟨k1, k2, k3⟩ := dr w y
  have HY := Lib.hid k1
  have HBW := Lib.hid k2
  have HLE := Lib.hid k3
  have HL := Lib.hid (h.below k2)
  have HK := Lib.hid hk
  have HCL := Lib.hid hy
  have H0 := Lib.hid h0
  clear h hk hy k1 k2 k3 h0
  go_enter Tryz.func136, Tryz.ntmps136
  go_wp2_with (first | (refine ag rfl (cI rfl rfl) ?_) | fail)
  generalize w.alloc (.cells (aS y).toArray 70) = w1 at *
  refine aE (B := w1.heap.size) (by kernel_rfl) ?_
  refine am rfl (fun w' hw => ak rfl (ev rfl) faNt0) ?_
  simp only [Act.put, aa, ae, af]
  refine am rfl (fun w' hw => av rfl (ev rfl) (bR (HY.out.below HLE.out hw).cells.1)) ?_
  simp only [Act.put, aa, ae, af]
  refine am rfl (fun w' hw => ah rfl (ev rfl)) ?_
  simp only [Act.put, aa, ae, af]
  refine a9 rfl (fun _ => au Tryz.call57 rfl (evc (ev rfl) evn)) (aU (Nat.le_refl _) fun w' hw => (plnext w' (HL.out.below hw) HK.out)) ?_
  simp only [Act.put, aa, ae, af]
  refine am (v := .bool false) rfl (fun w' hw => aI false rfl (ev rfl) (ev rfl) H0.out) ?_
  simp only [Act.put, aa, ae, af]
  refine fp 5 (v := .bool false) rfl (fun w' hw => ah rfl (ev rfl)) (by kernel_rfl) ?_
  simp only [bc, List.take_succ_cons, List.take_zero, List.drop_succ_cons, List.drop_zero, Act.put, List.setIfInBounds_toArray, List.set_cons_succ, List.set_cons_zero]
  refine am (v := .bool false) rfl (fun w' hw => aN rfl (ev rfl) evk) ?_
  simp only [Act.put, aa, ae, af]
  refine fp 3 (v := .bool false) rfl (fun w' hw => ah rfl (ev rfl)) (by kernel_rfl) ?_
  simp only [bc, List.take_succ_cons, List.take_zero, List.drop_succ_cons, List.drop_zero, Act.put, List.setIfInBounds_toArray, List.set_cons_succ, List.set_cons_zero]
  refine am (v := .bool false) rfl (fun w' hw => aN rfl (ev rfl) evk) ?_
  simp only [Act.put, aa, ae, af]
  refine am (v := .bool false) rfl (fun w' hw => aq rfl (ev rfl)) ?_
  simp only [Act.put, aa, ae, af]
  refine wpQuiet_nil ?_
  intro w2 hw
  go_wp2_with fail
  go_ret
  exact ⟨rfl, HBW.out.trans (hw.mono (by have := HLE.out; omega))⟩
theorem plaw_1 {y : Nte} (w : World) (h : PLg w p q v x) (hk : LgOk M x N) (hy : 1 ≤ y.cells ∧ y.cells ≤ 32) (h0 : ((y.seq : Int) == (x.next : Int)) = true) (h1 : ((y.pos : Int) == (x.head : Int)) = false) : Calls Tryz.prog 136 #[.pointer (some ⟨p, 0, none⟩), nte y] w fun e w' => e = .returned (.bool false) ∧ Below w.heap.size w w' := by
  obtain ⟨k1, k2, k3⟩ := dr w y
  have HY := Lib.hid k1
  have HBW := Lib.hid k2
  have HLE := Lib.hid k3
  have HL := Lib.hid (h.below k2)
  have HK := Lib.hid hk
  have HCL := Lib.hid hy
  have H0 := Lib.hid h0
  have H1 := Lib.hid h1
  clear h hk hy k1 k2 k3 h0 h1
  go_enter Tryz.func136, Tryz.ntmps136
  go_wp2_with (first | (refine ag rfl (cI rfl rfl) ?_) | fail)
  generalize w.alloc (.cells (aS y).toArray 70) = w1 at *
  refine aE (B := w1.heap.size) (by kernel_rfl) ?_
  refine am rfl (fun w' hw => ak rfl (ev rfl) faNt0) ?_
  simp only [Act.put, aa, ae, af]
  refine am rfl (fun w' hw => av rfl (ev rfl) (bR (HY.out.below HLE.out hw).cells.1)) ?_
  simp only [Act.put, aa, ae, af]
  refine am rfl (fun w' hw => ah rfl (ev rfl)) ?_
  simp only [Act.put, aa, ae, af]
  refine a9 rfl (fun _ => au Tryz.call57 rfl (evc (ev rfl) evn)) (aU (Nat.le_refl _) fun w' hw => (plnext w' (HL.out.below hw) HK.out)) ?_
  simp only [Act.put, aa, ae, af]
  refine am (v := .bool true) rfl (fun w' hw => aI true rfl (ev rfl) (ev rfl) H0.out) ?_
  simp only [Act.put, aa, ae, af]
  refine am (v := .bool true) rfl (fun w' hw => ah rfl (ev rfl)) ?_
  simp only [Act.put, aa, ae, af]
  refine am (aj rfl rfl rfl rfl) (fun w' hw => ak rfl (ev rfl) faNt1) ?_
  simp only [Act.put, aa, ae, af]
  refine am (aj rfl rfl rfl rfl) (fun w' hw => av rfl (ev rfl) (bR (HY.out.below HLE.out hw).cells.2.1)) ?_
  simp only [Act.put, aa, ae, af]
  refine am (aj rfl rfl rfl rfl) (fun w' hw => ah rfl (ev rfl)) ?_
  simp only [Act.put, aa, ae, af]
  refine a9 (aj rfl rfl rfl rfl) (fun _ => au Tryz.call64 rfl (evc (ev rfl) evn)) (aU (Nat.le_refl _) fun w' hw => (plhead w' (HL.out.below hw) HK.out)) ?_
  simp only [Act.put, aa, ae, af]
  refine am (v := .bool false) (aj rfl rfl rfl rfl) (fun w' hw => aI false rfl (ev rfl) (ev rfl) H1.out) ?_
  simp only [Act.put, aa, ae, af]
  refine am (v := .bool false) rfl (fun w' hw => aM rfl (ev rfl) (ev rfl)) ?_
  simp only [Act.put, aa, ae, af]
  refine fp 3 (v := .bool false) rfl (fun w' hw => ah rfl (ev rfl)) (by kernel_rfl) ?_
  simp only [bc, List.take_succ_cons, List.take_zero, List.drop_succ_cons, List.drop_zero, Act.put, List.setIfInBounds_toArray, List.set_cons_succ, List.set_cons_zero]
  refine am (v := .bool false) rfl (fun w' hw => aN rfl (ev rfl) evk) ?_
  simp only [Act.put, aa, ae, af]
  refine am (v := .bool false) rfl (fun w' hw => aq rfl (ev rfl)) ?_
  simp only [Act.put, aa, ae, af]
  refine wpQuiet_nil ?_
  intro w2 hw
  go_wp2_with fail
  go_ret
  exact ⟨rfl, HBW.out.trans (hw.mono (by have := HLE.out; omega))⟩
theorem plaw_2 {y : Nte} (w : World) (h : PLg w p q v x) (hk : LgOk M x N) (hy : 1 ≤ y.cells ∧ y.cells ≤ 32) (h0 : ((y.seq : Int) == (x.next : Int)) = true) (h1 : ((y.pos : Int) == (x.head : Int)) = true) (h2 : decide (bf y ≤ x.free) = false) : Calls Tryz.prog 136 #[.pointer (some ⟨p, 0, none⟩), nte y] w fun e w' => e = .returned (.bool false) ∧ Below w.heap.size w w' := by
  obtain ⟨k1, k2, k3⟩ := dr w y
  have HY := Lib.hid k1
  have HBW := Lib.hid k2
  have HLE := Lib.hid k3
  have HL := Lib.hid (h.below k2)
  have HK := Lib.hid hk
  have HCL := Lib.hid hy
  have H0 := Lib.hid h0
  have H1 := Lib.hid h1
  have H2 := Lib.hid h2
  clear h hk hy k1 k2 k3 h0 h1 h2
  go_enter Tryz.func136, Tryz.ntmps136
  go_wp2_with (first | (refine ag rfl (cI rfl rfl) ?_) | fail)
  generalize w.alloc (.cells (aS y).toArray 70) = w1 at *
  refine aE (B := w1.heap.size) (by kernel_rfl) ?_
  refine am rfl (fun w' hw => ak rfl (ev rfl) faNt0) ?_
  simp only [Act.put, aa, ae, af]
  refine am rfl (fun w' hw => av rfl (ev rfl) (bR (HY.out.below HLE.out hw).cells.1)) ?_
  simp only [Act.put, aa, ae, af]
  refine am rfl (fun w' hw => ah rfl (ev rfl)) ?_
  simp only [Act.put, aa, ae, af]
  refine a9 rfl (fun _ => au Tryz.call57 rfl (evc (ev rfl) evn)) (aU (Nat.le_refl _) fun w' hw => (plnext w' (HL.out.below hw) HK.out)) ?_
  simp only [Act.put, aa, ae, af]
  refine am (v := .bool true) rfl (fun w' hw => aI true rfl (ev rfl) (ev rfl) H0.out) ?_
  simp only [Act.put, aa, ae, af]
  refine am (v := .bool true) rfl (fun w' hw => ah rfl (ev rfl)) ?_
  simp only [Act.put, aa, ae, af]
  refine am (aj rfl rfl rfl rfl) (fun w' hw => ak rfl (ev rfl) faNt1) ?_
  simp only [Act.put, aa, ae, af]
  refine am (aj rfl rfl rfl rfl) (fun w' hw => av rfl (ev rfl) (bR (HY.out.below HLE.out hw).cells.2.1)) ?_
  simp only [Act.put, aa, ae, af]
  refine am (aj rfl rfl rfl rfl) (fun w' hw => ah rfl (ev rfl)) ?_
  simp only [Act.put, aa, ae, af]
  refine a9 (aj rfl rfl rfl rfl) (fun _ => au Tryz.call64 rfl (evc (ev rfl) evn)) (aU (Nat.le_refl _) fun w' hw => (plhead w' (HL.out.below hw) HK.out)) ?_
  simp only [Act.put, aa, ae, af]
  refine am (v := .bool true) (aj rfl rfl rfl rfl) (fun w' hw => aI true rfl (ev rfl) (ev rfl) H1.out) ?_
  simp only [Act.put, aa, ae, af]
  refine am (v := .bool true) rfl (fun w' hw => aM rfl (ev rfl) (ev rfl)) ?_
  simp only [Act.put, aa, ae, af]
  refine am (v := .bool true) rfl (fun w' hw => ah rfl (ev rfl)) ?_
  simp only [Act.put, aa, ae, af]
  refine am (aj rfl rfl rfl rfl) (fun w' hw => ah rfl (ev rfl)) ?_
  simp only [Act.put, aa, ae, af]
  refine am (aj rfl rfl rfl rfl) (fun w' hw => aZ rfl (ev rfl) (HY.out.below HLE.out hw).range) ?_
  simp only [Act.put, aa, ae, af]
  refine a9 (aj rfl rfl rfl rfl) (fun _ => au Tryz.call66 rfl (evc (ev rfl) (evc (ev rfl) evn))) (aU (Nat.le_refl _) fun w' hw => (plfits_b w' (HL.out.below hw) HK.out HCL.out H2.out)) ?_
  simp only [Act.put, aa, ae, af]
  refine am (v := .bool false) rfl (fun w' hw => aM rfl (ev rfl) (ev rfl)) ?_
  simp only [Act.put, aa, ae, af]
  refine am (v := .bool false) rfl (fun w' hw => aq rfl (ev rfl)) ?_
  simp only [Act.put, aa, ae, af]
  refine wpQuiet_nil ?_
  intro w2 hw
  go_wp2_with fail
  go_ret
  exact ⟨rfl, HBW.out.trans (hw.mono (by have := HLE.out; omega))⟩
theorem plaw_3 {y : Nte} (w : World) (h : PLg w p q v x) (hk : LgOk M x N) (hy : 1 ≤ y.cells ∧ y.cells ≤ 32) (h0 : ((y.seq : Int) == (x.next : Int)) = true) (h1 : ((y.pos : Int) == (x.head : Int)) = true) (h2 : decide (bf y ≤ x.free) = true) : Calls Tryz.prog 136 #[.pointer (some ⟨p, 0, none⟩), nte y] w fun e w' => e = .returned (.bool true) ∧ Below w.heap.size w w' := by
  obtain ⟨k1, k2, k3⟩ := dr w y
  have HY := Lib.hid k1
  have HBW := Lib.hid k2
  have HLE := Lib.hid k3
  have HL := Lib.hid (h.below k2)
  have HK := Lib.hid hk
  have HCL := Lib.hid hy
  have H0 := Lib.hid h0
  have H1 := Lib.hid h1
  have H2 := Lib.hid h2
  clear h hk hy k1 k2 k3 h0 h1 h2
  go_enter Tryz.func136, Tryz.ntmps136
  go_wp2_with (first | (refine ag rfl (cI rfl rfl) ?_) | fail)
  generalize w.alloc (.cells (aS y).toArray 70) = w1 at *
  refine aE (B := w1.heap.size) (by kernel_rfl) ?_
  refine am rfl (fun w' hw => ak rfl (ev rfl) faNt0) ?_
  simp only [Act.put, aa, ae, af]
  refine am rfl (fun w' hw => av rfl (ev rfl) (bR (HY.out.below HLE.out hw).cells.1)) ?_
  simp only [Act.put, aa, ae, af]
  refine am rfl (fun w' hw => ah rfl (ev rfl)) ?_
  simp only [Act.put, aa, ae, af]
  refine a9 rfl (fun _ => au Tryz.call57 rfl (evc (ev rfl) evn)) (aU (Nat.le_refl _) fun w' hw => (plnext w' (HL.out.below hw) HK.out)) ?_
  simp only [Act.put, aa, ae, af]
  refine am (v := .bool true) rfl (fun w' hw => aI true rfl (ev rfl) (ev rfl) H0.out) ?_
  simp only [Act.put, aa, ae, af]
  refine am (v := .bool true) rfl (fun w' hw => ah rfl (ev rfl)) ?_
  simp only [Act.put, aa, ae, af]
  refine am (aj rfl rfl rfl rfl) (fun w' hw => ak rfl (ev rfl) faNt1) ?_
  simp only [Act.put, aa, ae, af]
  refine am (aj rfl rfl rfl rfl) (fun w' hw => av rfl (ev rfl) (bR (HY.out.below HLE.out hw).cells.2.1)) ?_
  simp only [Act.put, aa, ae, af]
  refine am (aj rfl rfl rfl rfl) (fun w' hw => ah rfl (ev rfl)) ?_
  simp only [Act.put, aa, ae, af]
  refine a9 (aj rfl rfl rfl rfl) (fun _ => au Tryz.call64 rfl (evc (ev rfl) evn)) (aU (Nat.le_refl _) fun w' hw => (plhead w' (HL.out.below hw) HK.out)) ?_
  simp only [Act.put, aa, ae, af]
  refine am (v := .bool true) (aj rfl rfl rfl rfl) (fun w' hw => aI true rfl (ev rfl) (ev rfl) H1.out) ?_
  simp only [Act.put, aa, ae, af]
  refine am (v := .bool true) rfl (fun w' hw => aM rfl (ev rfl) (ev rfl)) ?_
  simp only [Act.put, aa, ae, af]
  refine am (v := .bool true) rfl (fun w' hw => ah rfl (ev rfl)) ?_
  simp only [Act.put, aa, ae, af]
  refine am (aj rfl rfl rfl rfl) (fun w' hw => ah rfl (ev rfl)) ?_
  simp only [Act.put, aa, ae, af]
  refine am (aj rfl rfl rfl rfl) (fun w' hw => aZ rfl (ev rfl) (HY.out.below HLE.out hw).range) ?_
  simp only [Act.put, aa, ae, af]
  refine a9 (aj rfl rfl rfl rfl) (fun _ => au Tryz.call66 rfl (evc (ev rfl) (evc (ev rfl) evn))) (aU (Nat.le_refl _) fun w' hw => (plfits_b w' (HL.out.below hw) HK.out HCL.out H2.out)) ?_
  simp only [Act.put, aa, ae, af]
  refine am (v := .bool true) rfl (fun w' hw => aM rfl (ev rfl) (ev rfl)) ?_
  simp only [Act.put, aa, ae, af]
  refine am (v := .bool true) rfl (fun w' hw => aq rfl (ev rfl)) ?_
  simp only [Act.put, aa, ae, af]
  refine wpQuiet_nil ?_
  intro w2 hw
  go_wp2_with fail
  go_ret
  exact ⟨rfl, HBW.out.trans (hw.mono (by have := HLE.out; omega))⟩
def awtB (x : LgS) (y : Nte) : Bool := decide (y.seq = x.next ∧ y.pos = x.head ∧ bf y ≤ x.free)
theorem plawaited {y : Nte} {t : Bool} (w : World) (h : PLg w p q v x) (hk : LgOk M x N) (hy : 1 ≤ y.cells ∧ y.cells ≤ 32) (ht : awtB x y = t) : Calls Tryz.prog 136 #[.pointer (some ⟨p, 0, none⟩), nte y] w fun e w' => e = .returned (.bool t) ∧ Below w.heap.size w w' := by
  subst ht
  unfold awtB
  by_cases h0 : y.seq = x.next
  · by_cases h1 : y.pos = x.head
    · by_cases h2 : bf y ≤ x.free
      · rw [decide_eq_true ⟨h0, h1, h2⟩]
        exact plaw_3 w h hk hy (by simp [h0]) (by simp [h1]) (decide_eq_true h2)
      · rw [decide_eq_false (fun e => h2 e.2.2)]
        exact plaw_2 w h hk hy (by simp [h0]) (by simp [h1]) (decide_eq_false h2)
    · rw [decide_eq_false (fun e => h1 e.2.1)]
      exact plaw_1 w h hk hy (by simp [h0]) (by simp; omega)
  · rw [decide_eq_false (fun e => h0 e.1)]
    exact plaw_0 w h hk hy (by simp; omega)
theorem pllive (w : World) (h : PLg w p q v x) (hk : LgOk M x N) : Calls Tryz.prog 23 #[.pointer (some ⟨p, 0, none⟩)] w fun e w' => e = .returned (.tuple #[.int .u64 ((x.fst : Nat) : Int), .int .u64 ((x.next : Nat) : Int)]) ∧ Below w.heap.size w w' := by
  have HL := Lib.hid h
  have HK := Lib.hid hk
  clear h hk
  go_enter Tryz.func23, Tryz.ntmps23
  go_upto_region 1 with fail
  refine wp_region_lit ?_
  refine ag rfl (ah rfl (ev rfl)) ?_
  simp only [Act.put, aa, ae, af]
  refine ao rfl (au Tryz.call56 rfl (evc (ev rfl) evn)) ?_
  refine (plmade _ HL.out).mono ?_
  rintro e w1 ⟨rfl, rfl⟩
  refine ⟨_, rfl, ?_⟩
  simp only [Act.put, aa, ae, af]
  refine ag (v := .bool false) rfl (aX true rfl (ev rfl)) ?_
  simp only [Act.put, aa, ae, af]
  refine wpList_nil ?_
  go_upto_region 3 with fail
  refine aE (B := w.heap.size) (by kernel_rfl) ?_
  refine am rfl (fun w' hw => ah rfl (ev rfl)) ?_
  simp only [Act.put, aa, ae, af]
  refine am rfl (fun w' hw => az rfl (ev rfl)) ?_
  simp only [Act.put, aa, ae, af]
  refine am rfl (fun w' hw => ak rfl (ev rfl) dG) ?_
  simp only [Act.put, aa, ae, af]
  refine am rfl (fun w' hw => ak rfl (ev rfl) faQm2) ?_
  simp only [Act.put, aa, ae, af]
  refine am rfl (fun w' hw => av rfl (ev rfl) (bR (PLg.c5 (HL.out.below hw)))) ?_
  simp only [Act.put, aa, ae, af]
  refine am rfl (fun w' hw => ah rfl (ev rfl)) ?_
  simp only [Act.put, aa, ae, af]
  refine a9 rfl (fun _ => au Tryz.call57 rfl (evc (ev rfl) evn)) (aU (Nat.le_refl _) fun w' hw => (plnext w' (HL.out.below hw) HK.out)) ?_
  simp only [Act.put, aa, ae, af]
  refine am rfl (fun w' hw => aq rfl (ev rfl)) ?_
  simp only [Act.put, aa, ae, af]
  refine am rfl (fun w' hw => aq rfl (ev rfl)) ?_
  simp only [Act.put, aa, ae, af]
  refine wpQuiet_nil ?_
  intro w2 hw
  go_wp2_with fail
  go_ret2
  exact ⟨rfl, hw⟩
theorem plfree (w : World) (h : PLg w p q v x) (hk : LgOk M x N) : Calls Tryz.prog 31 #[.pointer (some ⟨p, 0, none⟩)] w fun e w' => e = .returned (.int .i64 ((x.free : Nat) : Int)) ∧ Below w.heap.size w w' := by
  have HL := Lib.hid h
  have HK := Lib.hid hk
  have huse := hk.use
  have hsz := hk.siz
  have hhd := hk.hed
  have hlim := hk.lim
  have hmay : mayB (x.size : Int) (x.pos : Int) (x.head : Int) = true := mayB_iff.2 ⟨by omega, by omega, by unfold LgS.head; omega, by omega, by unfold LgS.head; omega⟩
  have HF := Lib.hid (fre_in hmay)
  have HFE : Hid ((x.size : Int) - ((x.head : Int) - (x.pos : Int)) = ((x.free : Nat) : Int)) := Lib.hid (by unfold LgS.free LgS.head; omega)
  have HBD : Hid (x.pos ≤ 18446744073709551615 ∧ x.head ≤ 18446744073709551615) := Lib.hid ⟨by unfold LgS.head at hhd; omega, by omega⟩
  clear h hk huse hsz hhd hlim hmay
  go_enter Tryz.func31, Tryz.ntmps31
  go_upto_region 1 with fail
  refine wp_region_lit ?_
  refine ag rfl (ah rfl (ev rfl)) ?_
  simp only [Act.put, aa, ae, af]
  refine ao rfl (au Tryz.call56 rfl (evc (ev rfl) evn)) ?_
  refine (plmade _ HL.out).mono ?_
  rintro e w1 ⟨rfl, rfl⟩
  refine ⟨_, rfl, ?_⟩
  simp only [Act.put, aa, ae, af]
  refine ag (v := .bool false) rfl (aX true rfl (ev rfl)) ?_
  simp only [Act.put, aa, ae, af]
  refine wpList_nil ?_
  go_upto_region 3 with fail
  refine aE (B := w.heap.size) (by kernel_rfl) ?_
  refine am rfl (fun w' hw => ah rfl (ev rfl)) ?_
  simp only [Act.put, aa, ae, af]
  refine am rfl (fun w' hw => az rfl (ev rfl)) ?_
  simp only [Act.put, aa, ae, af]
  refine am rfl (fun w' hw => ak rfl (ev rfl) dG) ?_
  simp only [Act.put, aa, ae, af]
  refine am rfl (fun w' hw => ak rfl (ev rfl) faQm1) ?_
  simp only [Act.put, aa, ae, af]
  refine am rfl (fun w' hw => av rfl (ev rfl) (bW (PLg.c4 (HL.out.below hw)))) ?_
  simp only [Act.put, aa, ae, af]
  refine am rfl (fun w' hw => ah rfl (ev rfl)) ?_
  simp only [Act.put, aa, ae, af]
  refine am rfl (fun w' hw => az rfl (ev rfl)) ?_
  simp only [Act.put, aa, ae, af]
  refine am rfl (fun w' hw => ak rfl (ev rfl) dG) ?_
  simp only [Act.put, aa, ae, af]
  refine am rfl (fun w' hw => ak rfl (ev rfl) faQm3) ?_
  simp only [Act.put, aa, ae, af]
  refine am rfl (fun w' hw => av rfl (ev rfl) (bR (PLg.c6 (HL.out.below hw)))) ?_
  simp only [Act.put, aa, ae, af]
  refine am rfl (fun w' hw => ah rfl (ev rfl)) ?_
  simp only [Act.put, aa, ae, af]
  refine a9 rfl (fun _ => au Tryz.call64 rfl (evc (ev rfl) evn)) (aU (Nat.le_refl _) fun w' hw => (plhead w' (HL.out.below hw) HK.out)) ?_
  simp only [Act.put, aa, ae, af]
  refine a9 rfl (fun _ => au Tryz.call97 rfl (evc (ev rfl) (evc (ev rfl) (evc (ev rfl) evn)))) (aU (Nat.le_refl _) fun w' hw => ((pfre (x.size : Int) (x.pos : Int) (x.head : Int) w' (by omega) (by have := HBD.out.1; omega) (by omega) (by have := HBD.out.2; omega)).mono fun e w'' hh => ⟨hh.1, by rw [hh.2]; exact Below.refl _ _⟩)) ?_
  simp only [Act.put, aa, ae, af]
  refine am rfl (fun w' hw => ah rfl (ev rfl)) ?_
  simp only [Act.put, aa, ae, af]
  refine am rfl (fun w' hw => aC rfl (ev rfl) rfl) ?_
  simp only [Act.put, aa, ae, af]
  refine am rfl (fun w' hw => aC rfl (ev rfl) rfl) ?_
  simp only [Act.put, aa, ae, af]
  refine am rfl (fun w' hw => aq rfl (ev rfl)) ?_
  simp only [Act.put, aa, ae, af]
  refine am rfl (fun w' hw => aq rfl (ev rfl)) ?_
  simp only [Act.put, aa, ae, af]
  refine wpQuiet_nil ?_
  intro w2 hw
  rw [HF.out.1, HF.out.2, HFE.out]
  go_wp2_with fail
  go_ret
  exact ⟨rfl, hw⟩
theorem plid (w : World) (h : PLg w p q v x) : Calls Tryz.prog 36 #[.pointer (some ⟨p, 0, none⟩)] w fun e w' => e = .returned (.int .u64 ((x.own : Nat) : Int)) ∧ Below w.heap.size w w' := by
  have HL := Lib.hid h
  clear h
  go_enter Tryz.func36, Tryz.ntmps36
  go_upto_region 1 with fail
  refine wp_region_lit ?_
  refine ag rfl (ah rfl (ev rfl)) ?_
  simp only [Act.put, aa, ae, af]
  refine ao rfl (au Tryz.call56 rfl (evc (ev rfl) evn)) ?_
  refine (plmade _ HL.out).mono ?_
  rintro e w1 ⟨rfl, rfl⟩
  refine ⟨_, rfl, ?_⟩
  simp only [Act.put, aa, ae, af]
  refine ag (v := .bool false) rfl (aX true rfl (ev rfl)) ?_
  simp only [Act.put, aa, ae, af]
  refine wpList_nil ?_
  have c := HL.out.c3
  go_wp2_with fail
  go_ret
  exact ⟨rfl, Below.refl _ _⟩
theorem plring (w : World) (h : PLg w p q v x) : Calls Tryz.prog 32 #[.pointer (some ⟨p, 0, none⟩)] w fun e w' => e = .returned (.int .i64 ((x.size : Nat) : Int)) ∧ Below w.heap.size w w' := by
  have HL := Lib.hid h
  clear h
  go_enter Tryz.func32, Tryz.ntmps32
  go_upto_region 1 with fail
  refine wp_region_lit ?_
  refine ag rfl (ah rfl (ev rfl)) ?_
  simp only [Act.put, aa, ae, af]
  refine ao rfl (au Tryz.call56 rfl (evc (ev rfl) evn)) ?_
  refine (plmade _ HL.out).mono ?_
  rintro e w1 ⟨rfl, rfl⟩
  refine ⟨_, rfl, ?_⟩
  simp only [Act.put, aa, ae, af]
  refine ag (v := .bool false) rfl (aX true rfl (ev rfl)) ?_
  simp only [Act.put, aa, ae, af]
  refine wpList_nil ?_
  have c := HL.out.c4
  go_wp2_with fail
  go_ret
  exact ⟨rfl, Below.refl _ _⟩
end
structure Fv where
  f : FuncId
  fst : List Value
  cap : List Value
  ok : ∀ (args : Array Value) (w : World), (callFunc f args).run Tryz.prog w = .ok (.enter f args) w
def Fv.val (s : Fv) : Value := .func (.func s.f) s.fst.toArray s.cap.toArray
def FnE : Elt Fv where
  s := 110
  t := 108
  n := 1
  by_ := 8
  cel s := [s.val]
  d := ⟨61, [], [], Tryz.call61⟩
  z := .nilFunc
  pos := by omega
  small := by omega
  len _ := rfl
  one s v hv := by simp at hv; subst hv; rfl
  und := Tryz.underlying110
  info := by kernel_rfl
  zc := rfl
theorem RdE.fn {w : World} {B n : Nat} {A : Option Addr} {l : List Fv} (h : RdE FnE w B A n l) {k : Nat} (hk : k < n) : ∃ b off, A = some ⟨b, off, none⟩ ∧ b < B ∧ w.cell? ⟨b, off + k, none⟩ = some (l.getD k FnE.d).val := by
  obtain ⟨b, off, e, hb, hc⟩ := h.2 k hk
  refine ⟨b, off, e, hb, ?_⟩
  have h0 := hc 0 _ rfl
  rwa [show off + k * FnE.n + 0 = off + k from by show off + k * 1 + 0 = _; omega] at h0
section
variable {ρ : Operand → Value} {o : Oper} {x : Operand} {w : World} {s : Fv}
theorem ldFn {ad : Addr} (h : w.cell? ad = some s.val) : (Instr.loadAt 108 (.pointer (some ad))).run Tryz.prog w = .ok s.val w := by unfold Fv.val at *; simp [go_sem, h]
theorem exec_callV {a : Act} {ats : Array TypeId} (ho : o.op = .call { callee := .value x, args := #[], argTypes := ats }) (hx : a.eval x = s.val) : (execOp a.eval o).run Tryz.prog w = .ok (.enter s.f (s.fst ++ s.cap).toArray) w := by
  unfold Fv.val at hx
  unfold execOp
  simp [ho, resolve, Deferred.ofValue, invoke, hx, s.ok]
theorem exec_idxF {b off n c j : Nat} {y : Operand} (ho : o.op = .indexAddr 110 x y) (hx : ρ x = .slice (some ⟨b, off, none⟩) n c) (hy : ρ y = .int .i64 (j : Int)) (hj : j < n) : (execOp ρ o).run Tryz.prog w = .ok (.value (.pointer (some ⟨b, off + j, none⟩))) w := by
  have := a8 (E := FnE) (w := w) ho hx hy hj
  rwa [show off + j * FnE.n = off + j from by show off + j * 1 = _; omega] at this
theorem exec_lenF {A : Option Addr} {n c : Nat} (ho : o.op = .call { callee := .builtin .len, args := #[x], argTypes := #[110] }) (hx : ρ x = .slice A n c) : (execOp ρ o).run Tryz.prog w = .ok (.value (.int .i64 (n : Int))) w := bQ Tryz.underlying110 ho hx
end
def Chn (K : Nat → Prop) (Q : Int → World → Prop) : List Fv → World → Prop
  | [], w => ∀ w', Below w.heap.size w w' → Q 0 w'
  | s :: l, w => ∀ w1, Below w.heap.size w w1 → Calls Tryz.prog s.f (s.fst ++ s.cap).toArray w1 fun e w2 => kept K w1 w2 ∧ ∃ E, e = .returned (.int .i64 E) ∧ ((E = 0 ∧ Chn K Q l w2) ∨ (E ≠ 0 ∧ ∀ w3, Below w2.heap.size w2 w3 → Q E w3))
theorem RdE.kept_ {α : Type} {E : Elt α} {w w' : World} {B B' n : Nat} {A : Option Addr} {l : List α} (h : RdE E w B A n l) (hk : ∀ b off, A = some ⟨b, off, none⟩ → w'.heap[b]? = w.heap[b]?) (hB : w'.heap.size ≤ B') : RdE E w' B' A n l :=
  ⟨h.1, fun k hn => by
    obtain ⟨b, off, e, hb, hc⟩ := h.2 k hn
    have e2 := hk b off e
    have hr : w'.rangeAt b (off + k * E.n) (E.cel (l.getD k E.d)) := rng_kept e2 hc
    have h0 := E.pos
    have hl := E.len (l.getD k E.d)
    have := hr 0 _ (List.getElem?_eq_getElem (by omega))
    exact ⟨b, off, e, Nat.lt_of_lt_of_le (lt_of_cell this) hB, hr⟩⟩
set_option maxHeartbeats 1600000 in
theorem ptaken (A : Option Addr) (n c N : Nat) (l : List Fv) (w : World) (K : Nat → Prop) (Q : Int → World → Prop) (hr : RdE FnE w N A n l) (hN : N ≤ w.heap.size) (hn : n ≤ 1000000) (hK : ∀ b off, A = some ⟨b, off, none⟩ → K b) (h : Chn K Q l w) :
    Calls Tryz.prog 59 #[.slice A n c] w fun e w' => ∃ E, e = .returned (.int .i64 E) ∧ Q E w' := by
  have HK := Lib.hid hK
  have HC := Lib.hid h
  have HR := Lib.hid (hr.more hN)
  clear hK h hr hN
  go_enter Tryz.func59, Tryz.ntmps59
  go_upto_region 1 with fail
  refine wp_region_lit ?_
  refine ag rfl (ah rfl (ev rfl)) ?_
  simp only [Act.put, aa, ae, af]
  refine ag rfl (exec_lenF rfl (ev rfl)) ?_
  simp only [Act.put, aa, ae, af]
  refine ag rfl (ah rfl evk) ?_
  simp only [Act.put, aa, ae, af]
  refine wpList_nil ?_
  go_wp2_with fail
  go_loopw [8] (fun i wr => ∃ k : Nat, k ≤ n ∧ i = .int .i64 k ∧ RdE FnE wr wr.heap.size A n l ∧ Chn K Q (l.drop k) wr) (fun i _ => n - (intOf i).toNat)
  case atStart => exact ⟨0, Nat.zero_le _, rfl, HR.out, HC.out⟩
  case round =>
    clear HC HR
    obtain ⟨k, hk, rfl, hrd, hch⟩ := hrel
    by_cases hlt : k < n
    · obtain ⟨b, off, hA, hb, hc⟩ := hrd.fn hlt
      have hl := hrd.1
      have hdr : l.drop k = l.getD k FnE.d :: l.drop (k + 1) := by
        rw [List.drop_eq_getElem_cons (by omega), List.getD, List.getElem?_eq_getElem (by omega)]
        rfl
      rw [hdr] at hch
      obtain ⟨s, hs⟩ : ∃ s, l.getD k FnE.d = s := ⟨_, rfl⟩
      rw [hs] at hch hc
      have HKB := Lib.hid (HK.out b off hA)
      have HKA := HK
      have HAA := Lib.hid hA
      subst hA
      have HS := Lib.hid hc
      have HCH := Lib.hid hch
      have HRD := Lib.hid hrd
      clear hc hch hrd hdr hs hl hb
      go_upto_region 3 with fail
      refine wp_region_lit ?_
      refine ag rfl (exec_idxF rfl (ev rfl) (ev rfl) hlt) ?_
      simp only [Act.put, aa, ae, af]
      refine ag rfl (av rfl (ev rfl) (ldFn HS.out)) ?_
      simp only [Act.put, aa, ae, af]
      refine ag rfl (aq rfl (ev rfl)) ?_
      simp only [Act.put, aa, ae, af]
      refine wpList_nil ?_
      go_upto_region 4 with fail
      refine wp_region_lit ?_
      refine ag rfl (ah rfl (ev rfl)) ?_
      simp only [Act.put, aa, ae, af]
      refine ao rfl (exec_callV rfl (ev rfl)) ?_
      refine (HCH.out _ (Below.refl _ _)).mono ?_
      rintro e w2 ⟨hkp, E, rfl, ⟨rfl, hnx⟩ | ⟨hne, hq⟩⟩
      · have HRD2 := Lib.hid (HRD.out.kept_ (w' := w2) (fun b' off' e => hkp b' (HKA.out b' off' e)) (Nat.le_refl _))
        have HNX := Lib.hid hnx
        clear hkp hnx
        refine ⟨_, rfl, ?_⟩
        simp only [Act.put, aa, ae, af]
        refine ag rfl (aq rfl (ev rfl)) ?_
        simp only [Act.put, aa, ae, af]
        refine wpList_nil ?_
        go_wp2_with fail
        go_roundw
        case rel => exact ⟨k + 1, by omega, by go_num, HRD2.out, HNX.out⟩
        case measure => simp [intOf]; omega
      · have hn2 : (E != 0) = true := by simpa using hne
        have HQ := Lib.hid hq
        clear hkp hq hne
        refine ⟨_, rfl, ?_⟩
        simp only [Act.put, aa, ae, af]
        refine ag rfl (aq rfl (ev rfl)) ?_
        simp only [Act.put, aa, ae, af]
        refine wpList_nil ?_
        go_wp2_with fail
        go_ret
        exact ⟨E, rfl, HQ.out _ (by first | exact Below.refl _ _ | exact bd (Below.refl _ _))⟩
    · have hkn : k = n := by omega
      subst hkn
      rw [List.drop_of_length_le (by have := hrd.1; omega)] at hch
      have HCH := Lib.hid hch
      clear hch hrd
      go_wp2_with fail
      go_ret
      exact ⟨0, rfl, HCH.out _ (by first | exact Below.refl _ _ | exact bd (Below.refl _ _))⟩
def preM (x : Mrk) : Nat → List UInt8
  | 0 => []
  | 1 => aY 8 8 x.id
  | 2 => aY 8 8 x.id ++ aY 8 2 x.ring.toNat
  | 3 => aY 8 8 x.id ++ aY 8 2 x.ring.toNat ++ aY 8 8 x.first
  | _ => aY 8 8 x.id ++ aY 8 2 x.ring.toNat ++ aY 8 8 x.first ++ aY 8 8 x.pos
theorem preM_all (x : Mrk) : b9 (preM x 4) = cH x := by
  unfold cH bodyM preM
  simp only [List.append_assoc]
theorem preM_1 (x : Mrk) : splice (b9 (preM x 0)) 0 (aY 8 8 x.id) = b9 (preM x 1) := d8 (a := []) (by simp [ay])
theorem preM_2 (x : Mrk) : splice (b9 (preM x 1)) 8 (aY 8 2 x.ring.toNat) = b9 (preM x 2) := by
  have := d8 (a := preM x 1) (x := aY 8 2 x.ring.toNat) (by simp [preM, ay])
  rwa [show (preM x 1).length = 8 from ay _ _ _] at this
theorem preM_3 (x : Mrk) : splice (b9 (preM x 2)) 10 (aY 8 8 x.first) = b9 (preM x 3) := by
  have := d8 (a := preM x 2) (x := aY 8 8 x.first) (by simp [preM, ay])
  rwa [show (preM x 2).length = 10 from by simp [preM, ay]] at this
theorem preM_4 (x : Mrk) : splice (b9 (preM x 3)) 18 (aY 8 8 x.pos) = b9 (preM x 4) := by
  have := d8 (a := preM x 3) (x := aY 8 8 x.pos) (by simp [preM, ay])
  rwa [show (preM x 3).length = 18 from by simp [preM, ay]] at this
theorem preM_len (x : Mrk) (k : Nat) (hk : k < 5) : (b9 (preM x k)).length = 44 := by
  apply dw
  have : k = 0 ∨ k = 1 ∨ k = 2 ∨ k = 3 ∨ k = 4 := by omega
  rcases this with rfl | rfl | rfl | rfl | rfl <;> simp [preM, ay]
structure LdM (B : Nat) (w0 w : World) (r n g a b c d : Nat) (l : List UInt8) : Prop where
  res : bF w r 187 z44
  num : NumAt w n a b c d
  row : bF w g 187 l
  bel : Below B w0 w
  g0 : B ≤ g
  r0 : B ≤ r
  dif : r ≠ g ∧ n ≠ g
section
variable {B : Nat} {w0 w w' : World} {r n g a b c d : Nat} {l l' : List UInt8}
theorem LdM.keep (h : LdM B w0 w r n g a b c d l) (hb : Below w.heap.size w w') (hB : B ≤ w0.heap.size) : LdM B w0 w' r n g a b c d l :=
  ⟨bK h.res hb, bK h.num hb, bK h.row hb, h.bel.trans (hb.mono (Nat.le_trans hB h.bel.size)), h.g0, h.r0, h.dif⟩
theorem LdM.step (h : LdM B w0 w r n g a b c d l) (hr : bF w' g 187 l') (hg : w.grownBy w' (some g)) (hB : B ≤ w0.heap.size) : LdM B w0 w' r n g a b c d l' :=
  ⟨eJ h.res hg h.dif.1, eJ h.num hg h.dif.2, hr, h.bel.grown hg (Nat.le_trans hB h.bel.size) (fun k hk => by injection hk with e; have := h.g0; omega), h.g0, h.r0, h.dif⟩
end
def pM : Nat → Nat
  | 0 => 0 | 1 => 8 | 2 => 10 | 3 => 18 | _ => 26
def LrM (B : Nat) (w0 : World) (r n g : Nat) (R : Nat) (x : Mrk) (p i : Value) (w : World) : Prop :=
  ∃ k, k < 5 ∧ i = .int .i64 ((k : Nat) : Int) ∧ p = .int .i64 ((pM k : Nat) : Int) ∧ LdM B w0 w r n g x.id R x.first x.pos (b9 (preM x k))
theorem LrM.five {B : Nat} {w0 w : World} {r n g R : Nat} {x : Mrk} {p i : Value} (h : LrM B w0 r n g R x p i w) :
    (i = .int .i64 0 ∧ p = .int .i64 0 ∧ LdM B w0 w r n g x.id R x.first x.pos (b9 (preM x 0))) ∨ (i = .int .i64 1 ∧ p = .int .i64 8 ∧ LdM B w0 w r n g x.id R x.first x.pos (b9 (preM x 1))) ∨
    (i = .int .i64 2 ∧ p = .int .i64 10 ∧ LdM B w0 w r n g x.id R x.first x.pos (b9 (preM x 2))) ∨ (i = .int .i64 3 ∧ p = .int .i64 18 ∧ LdM B w0 w r n g x.id R x.first x.pos (b9 (preM x 3))) ∨
    (i = .int .i64 4 ∧ p = .int .i64 26 ∧ LdM B w0 w r n g x.id R x.first x.pos (b9 (preM x 4))) := by
  obtain ⟨k, hk, rfl, rfl, h⟩ := h
  have : k = 0 ∨ k = 1 ∨ k = 2 ∨ k = 3 ∨ k = 4 := by omega
  rcases this with rfl | rfl | rfl | rfl | rfl
  · exact .inl ⟨rfl, rfl, h⟩
  · exact .inr (.inl ⟨rfl, rfl, h⟩)
  · exact .inr (.inr (.inl ⟨rfl, rfl, h⟩))
  · exact .inr (.inr (.inr (.inl ⟨rfl, rfl, h⟩)))
  · exact .inr (.inr (.inr (.inr ⟨rfl, rfl, h⟩)))
theorem ldM_start (w : World) (x : Mrk) (R : Nat) : LdM w.heap.size w ((((w.alloc (.cells (bk x).toArray 67)).alloc (.cells (vals z44).toArray 187)).alloc (.cells (celN x.id R x.first x.pos).toArray 203)).alloc (.cells (vals z44).toArray 187))
    (w.heap.size + 1) (w.heap.size + 1 + 1) (w.heap.size + 1 + 1 + 1) x.id R x.first x.pos (b9 (preM x 0)) := by
  have h1 := (Below.refl w.heap.size w).alloc (Nat.le_refl _) (.cells (bk x).toArray 67)
  have h2 := h1.alloc h1.size (.cells (vals z44).toArray 187)
  have h3 := h2.alloc h2.size (.cells (celN x.id R x.first x.pos).toArray 203)
  have h4 := h3.alloc h3.size (.cells (vals z44).toArray 187)
  have e1 := World.size_alloc (w := w) (o := Obj.cells (bk x).toArray 67)
  have r1 := bF.new (w.alloc (.cells (bk x).toArray 67)) z44 187
  rw [e1] at r1
  have e2 := World.size_alloc (w := w.alloc (.cells (bk x).toArray 67)) (o := Obj.cells (vals z44).toArray 187)
  have n1 : NumAt (((w.alloc (.cells (bk x).toArray 67)).alloc (.cells (vals z44).toArray 187)).alloc (.cells (celN x.id R x.first x.pos).toArray 203)) ((w.alloc (.cells (bk x).toArray 67)).alloc (.cells (vals z44).toArray 187)).heap.size x.id R x.first x.pos := heap_alloc_new _ _
  rw [e2, e1] at n1
  have e3 := World.size_alloc (w := (w.alloc (.cells (bk x).toArray 67)).alloc (.cells (vals z44).toArray 187)) (o := Obj.cells (celN x.id R x.first x.pos).toArray 203)
  have g1 := bF.new (((w.alloc (.cells (bk x).toArray 67)).alloc (.cells (vals z44).toArray 187)).alloc (.cells (celN x.id R x.first x.pos).toArray 203)) z44 187
  rw [e3, e2, e1] at g1
  exact ⟨(r1.past _).past _, bM n1 _, g1, h4, by omega, by omega, by omega, by omega⟩
set_option maxHeartbeats 4000000 in
theorem pmlaid (x : Mrk) (w : World) (S : Siz w) (hf : x.fit) (hx : mrkB x = true) : Calls Tryz.prog 163 #[mrk x] w fun e w' => e = .returned (arr (cH x)) ∧ Below w.heap.size w w' := by
  obtain ⟨-, q1, q2, -, -, -⟩ := of_mrkB hx
  obtain ⟨f1, f2, f3⟩ := hf
  obtain ⟨R, hR⟩ : ∃ R : Nat, x.ring.toNat = R := ⟨_, rfl⟩
  have hRr : x.ring = (R : Int) := by omega
  have hR256 : R ≤ 256 := by omega
  obtain ⟨h1, h2, h3⟩ := boxM_new w x
  have HMK := Lib.hid (h1.past (.cells (vals z44).toArray 187))
  have hc1 : ((w.alloc (.cells (bk x).toArray 67)).alloc (.cells (vals z44).toArray 187)).cell? ⟨w.heap.size, 1, none⟩ = some (.int .i64 (R : Int)) := by rw [← hRr]; exact (h1.past _).cells.2.1
  have HC1 := Lib.hid hc1
  have HP1 := Lib.hid (preM_1 x)
  have HP2 := Lib.hid (preM_2 x)
  have HP3 := Lib.hid (preM_3 x)
  have HP4 := Lib.hid (preM_4 x)
  have HPA := Lib.hid (preM_all x)
  rw [hR] at HP2
  have HLEN := fun k hk => Lib.hid (preM_len x k hk)
  have HST := Lib.hid (ldM_start w x R)
  have HSZ := Lib.hid (S.below (ldM_start w x R).bel)
  have HF1 := Lib.hid f1
  have HF2 := Lib.hid f2
  have HF3 := Lib.hid f3
  have HFL := Lib.hid (de x)
  clear q1 q2 f1 f2 f3 hR hRr h1 h2 h3 hc1 S hx
  go_enter Tryz.func163, Tryz.ntmps163
  go_upto_region 1 with (first | (refine ag rfl (exec_boxM rfl rfl) ?_) | (refine ag rfl (fK rfl) ?_) | fail)
  try simp only [World.size_alloc]
  obtain ⟨c0, -, c2, c3⟩ := HMK.out.cells
  have c1 := HC1.out
  go_upto_region 4 with (first | (refine ag rfl (exec_faM0 rfl rfl) ?_) | (refine ag rfl (exec_faM1 rfl rfl) ?_) | (refine ag rfl (exec_faM2 rfl rfl) ?_) | (refine ag rfl (exec_faM3 rfl rfl) ?_) | (refine ag rfl (exec_bldN4 x.id R x.first x.pos rfl rfl rfl rfl rfl) ?_) | (refine ag rfl (exec_allocN rfl) ?_) | (refine aB rfl (exec_fillNm (a := x.id) (b := R) (c := x.first) (d := x.pos) rfl rfl rfl) ?_) | (refine ag rfl (fK rfl) ?_) | fail)
  clear c0 c1 c2 c3
  try simp only [World.size_alloc]
  generalize (((w.alloc (.cells (bk x).toArray 67)).alloc (.cells (vals z44).toArray 187)).alloc (.cells (celN x.id R x.first x.pos).toArray 203)).alloc (.cells (vals z44).toArray 187) = w1 at *
  obtain ⟨B, hB⟩ : ∃ B, w.heap.size = B := ⟨_, rfl⟩
  rw [hB] at HST ⊢
  have HBB := Lib.hid hB
  have HB : Hid (B ≤ w.heap.size) := Lib.hid (by omega)
  clear hB HMK HC1
  obtain ⟨r, hr⟩ : ∃ r, B + 1 = r := ⟨_, rfl⟩
  rw [hr] at HST ⊢
  clear hr
  obtain ⟨n, hn⟩ : ∃ n, r + 1 = n := ⟨_, rfl⟩
  rw [hn] at HST ⊢
  clear hn
  obtain ⟨g, hg⟩ : ∃ g, n + 1 = g := ⟨_, rfl⟩
  rw [hg] at HST ⊢
  clear hg
  go_upto_region 5 with (first | (refine ag rfl (exec_loadZ rfl rfl HSZ.out) ?_) | fail)
  go_loopw [5, 21] (fun p i wr => LrM B w r n g R x p i wr) (fun _ i _ => 4 - (intOf i).toNat)
  case atStart => exact ⟨0, by omega, rfl, rfl, HST.out⟩
  case round =>
    clear HST
    rcases hrel.five with ⟨rfl, rfl, hl⟩ | ⟨rfl, rfl, hl⟩ | ⟨rfl, rfl, hl⟩ | ⟨rfl, rfl, hl⟩ | ⟨rfl, rfl, hl⟩
    · have H0 := Lib.hid hl
      clear hl hrel
      have cc := H0.out.num.cells.1
      go_wp2_with (first | (refine ag rfl (exec_ixZ0 rfl rfl rfl) ?_) | (refine ag rfl (exec_ixN0 rfl rfl rfl) ?_) | fail)
      clear cc
      refine (put_ok x.id 8 wr (by omega) (by omega) (by have := HF1.out; simpa using this)).mono ?_
      rintro e w2 ⟨v, rfl, hv, hb⟩
      obtain ⟨A, c, rfl, hrd, _, _⟩ := hv.made.open_ (ay 8 8 x.id)
      have H1 := Lib.hid (H0.out.keep hb HB.out)
      have HRD := Lib.hid hrd
      have HW := Lib.hid H1.out.row
      have HLN := HLEN 0 (by omega)
      clear hv hrd hb H0
      go_wp2_with (first | (refine ag rfl (fo 0 44 rfl (by omega) rfl rfl rfl) ?_) | (with_reducible refine cw rfl _ _ rfl g 0 44 44 8 c _ A 187 (b9 (preM x 0)) (aY 8 8 x.id) rfl rfl HW.out HRD.out (by omega) (by rw [HLN.out]; omega) ?_) | fail)
      intro w3 hr3 hg3
      rw [HP1.out] at hr3
      have H2 := Lib.hid (H1.out.step hr3 hg3 HB.out)
      clear hr3 hg3 H1 HRD HW
      go_wp2_with fail
      go_roundw
      case rel => exact ⟨1, by omega, rfl, rfl, H2.out⟩
      case measure => simp [intOf]
    · have H0 := Lib.hid hl
      clear hl hrel
      have cc := H0.out.num.cells.2.1
      go_wp2_with (first | (refine ag rfl (exec_ixZ1 rfl rfl rfl) ?_) | (refine ag rfl (exec_ixN1 rfl rfl rfl) ?_) | fail)
      clear cc
      refine (put_ok R 2 wr (by omega) (by omega) (by omega)).mono ?_
      rintro e w2 ⟨v, rfl, hv, hb⟩
      obtain ⟨A, c, rfl, hrd, _, _⟩ := hv.made.open_ (ay 8 2 R)
      have H1 := Lib.hid (H0.out.keep hb HB.out)
      have HRD := Lib.hid hrd
      have HW := Lib.hid H1.out.row
      have HLN := HLEN 1 (by omega)
      clear hv hrd hb H0
      go_wp2_with (first | (refine ag rfl (fo 8 36 rfl (by omega) rfl rfl rfl) ?_) | (with_reducible refine cw rfl _ _ rfl g 8 36 36 2 c _ A 187 (b9 (preM x 1)) (aY 8 2 R) rfl rfl HW.out HRD.out (by omega) (by rw [HLN.out]; omega) ?_) | fail)
      intro w3 hr3 hg3
      rw [HP2.out] at hr3
      have H2 := Lib.hid (H1.out.step hr3 hg3 HB.out)
      clear hr3 hg3 H1 HRD HW
      go_wp2_with fail
      go_roundw
      case rel => exact ⟨2, by omega, rfl, rfl, H2.out⟩
      case measure => simp [intOf]
    · have H0 := Lib.hid hl
      clear hl hrel
      have cc := H0.out.num.cells.2.2.1
      go_wp2_with (first | (refine ag rfl (exec_ixZ2 rfl rfl rfl) ?_) | (refine ag rfl (exec_ixN2 rfl rfl rfl) ?_) | fail)
      clear cc
      refine (put_ok x.first 8 wr (by omega) (by omega) (by have := HF2.out; simpa using this)).mono ?_
      rintro e w2 ⟨v, rfl, hv, hb⟩
      obtain ⟨A, c, rfl, hrd, _, _⟩ := hv.made.open_ (ay 8 8 x.first)
      have H1 := Lib.hid (H0.out.keep hb HB.out)
      have HRD := Lib.hid hrd
      have HW := Lib.hid H1.out.row
      have HLN := HLEN 2 (by omega)
      clear hv hrd hb H0
      go_wp2_with (first | (refine ag rfl (fo 10 34 rfl (by omega) rfl rfl rfl) ?_) | (with_reducible refine cw rfl _ _ rfl g 10 34 34 8 c _ A 187 (b9 (preM x 2)) (aY 8 8 x.first) rfl rfl HW.out HRD.out (by omega) (by rw [HLN.out]; omega) ?_) | fail)
      intro w3 hr3 hg3
      rw [HP3.out] at hr3
      have H2 := Lib.hid (H1.out.step hr3 hg3 HB.out)
      clear hr3 hg3 H1 HRD HW
      go_wp2_with fail
      go_roundw
      case rel => exact ⟨3, by omega, rfl, rfl, H2.out⟩
      case measure => simp [intOf]
    · have H0 := Lib.hid hl
      clear hl hrel
      have cc := H0.out.num.cells.2.2.2
      go_wp2_with (first | (refine ag rfl (exec_ixZ3 rfl rfl rfl) ?_) | (refine ag rfl (exec_ixN3 rfl rfl rfl) ?_) | fail)
      clear cc
      refine (put_ok x.pos 8 wr (by omega) (by omega) (by have := HF3.out; simpa using this)).mono ?_
      rintro e w2 ⟨v, rfl, hv, hb⟩
      obtain ⟨A, c, rfl, hrd, _, _⟩ := hv.made.open_ (ay 8 8 x.pos)
      have H1 := Lib.hid (H0.out.keep hb HB.out)
      have HRD := Lib.hid hrd
      have HW := Lib.hid H1.out.row
      have HLN := HLEN 3 (by omega)
      clear hv hrd hb H0
      go_wp2_with (first | (refine ag rfl (fo 18 26 rfl (by omega) rfl rfl rfl) ?_) | (with_reducible refine cw rfl _ _ rfl g 18 26 26 8 c _ A 187 (b9 (preM x 3)) (aY 8 8 x.pos) rfl rfl HW.out HRD.out (by omega) (by rw [HLN.out]; omega) ?_) | fail)
      intro w3 hr3 hg3
      rw [HP4.out] at hr3
      have H2 := Lib.hid (H1.out.step hr3 hg3 HB.out)
      clear hr3 hg3 H1 HRD HW
      go_wp2_with fail
      go_roundw
      case rel => exact ⟨4, by omega, rfl, rfl, H2.out⟩
      case measure => simp [intOf]
    · have H0 := Lib.hid hl
      clear hl hrel
      have HLD : Hid (wr.rangeAt g 0 (vals (cH x))) := Lib.hid (by rw [← HPA.out]; exact d7 H0.out.row)
      have HTH := Lib.hid (dI (o := 0) (n := 44) H0.out.res (by rw [bh, z44_length]; omega))
      go_wp2_with (first | (refine ag rfl (exec_load44m (l := cH x) HFL.out rfl rfl ?_) ?_; (with_reducible exact HLD.out)) | (refine aB rfl (exec_put44m (l := cH x) HFL.out rfl rfl rfl ?_) ?_; (with_reducible exact HTH.out)) | fail)
      refine bodyPost_ret (res_rng (t := 187) (cs := vals (cH x)) rfl _ _ r rfl ?h1 Tryz.underlying187 rfl ?h2) rfl ⟨rfl, ?h3⟩
      case h1 => exact World.rangeAt_setCells_same _ _ _ _ (by rw [bh, HFL.out]; exact HTH.out)
      case h2 => rw [bh, HFL.out]; exact size44m
      case h3 => rw [HBB.out]; exact below_setCells H0.out.bel H0.out.r0 _
end Go.Proofs.YtcafafdimcecpaaGreatDoor
