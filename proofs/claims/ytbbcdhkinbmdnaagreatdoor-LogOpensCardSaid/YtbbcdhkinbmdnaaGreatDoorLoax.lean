import Derived.Test.YtbbcdhkinbmdnaaGreatDoorLoar
import Derived.Test.YtbbcdhkinbmdnaaGreatDoorLoae
import Derived.Test.YtbbcdhkinbmdnaaGreatDoorLoaw
import Derived.Test.YtbbcdhkinbmdnaaGreatDoorLoau
import Derived.Test.YtbbcdhkinbmdnaaGreatDoorLoav
import Derived.Test.YtbbcdhkinbmdnaaGreatDoorLoam
import Derived.Test.YtbbcdhkinbmdnaaGreatDoorLoah
import Derived.Test.YtbbcdhkinbmdnaaGreatDoorLoat
import Derived.Test.YtbbcdhkinbmdnaaGreatDoorLoZ
namespace Go.Proofs.YtbbcdhkinbmdnaaGreatDoor
open Go.RowKit
set_option linter.unusedVariables false
set_option linter.unusedSimpArgs false
set_option maxRecDepth 100000
structure TlNt (B : Nat) (w0 w : World) (A : Option Addr) (l : List UInt8) (r n a b c : Nat) : Prop where
 rd : Rd w B A 44 l
 res : bI w r aM
 num : NumAtn w n a b c
 bel : Below B w0 w
 n0 : B ≤ n
 r0 : B ≤ r
 dif : r ≠ n
theorem TlNt.set {B : Nat} {w0 w : World} {A : Option Addr} {l : List UInt8} {r n a b c a' b' c' j v : Nat} (h : TlNt B w0 w A l r n a b c) (e : (ew a b c).set j (.int .u64 v) = ew a' b' c') (hB : B ≤ w0.heap.size) : TlNt B w0 (w.setCell ⟨n, j, none⟩ (.int .u64 v)) A l r n a' b' c' :=
 have hg := grown_set w n j (.int .u64 v)
 have hb : Below B w (w.setCell ⟨n, j, none⟩ (.int .u64 v)) := (Below.refl B w).grown hg (Nat.le_trans hB h.bel.size) (fun k hk => by injection hk with e; have := h.n0; omega)
 ⟨h.rd.below hb, fm h.res hg h.dif, h.num.set e, h.bel.trans hb, h.n0, h.r0, h.dif⟩
def TrNt (B : Nat) (w0 : World) (A : Option Addr) (l : List UInt8) (r n v0 v1 v2 : Nat) (p i : Value) (w : World) : Prop :=
 (i = .int .i64 0 ∧ p = .int .i64 0 ∧ TlNt B w0 w A l r n 0 0 0) ∨
  (i = .int .i64 1 ∧ p = .int .i64 8 ∧ TlNt B w0 w A l r n v0 0 0) ∨
  (i = .int .i64 2 ∧ p = .int .i64 10 ∧ TlNt B w0 w A l r n v0 v1 0) ∨
  (i = .int .i64 3 ∧ p = .int .i64 14 ∧ TlNt B w0 w A l r n v0 v1 v2)
theorem tlNt_start (w : World) (A : Option Addr) (l : List UInt8) (hr : Rd w w.heap.size A 44 l) : TlNt w.heap.size w ((w.alloc (.cells (aQ aM).toArray 35)).alloc (.cells (ew 0 0 0).toArray 187)) A l w.heap.size (w.heap.size + 1) 0 0 0 := by
 have h1 := (Below.refl w.heap.size w).alloc (Nat.le_refl _) (.cells (aQ aM).toArray 35)
 have h2 := h1.alloc h1.size (.cells (ew 0 0 0).toArray 187)
 have n1 : NumAtn ((w.alloc (.cells (aQ aM).toArray 35)).alloc (.cells (ew 0 0 0).toArray 187)) (w.alloc (.cells (aQ aM).toArray 35)).heap.size 0 0 0 := heap_alloc_new _ _
 rw [World.size_alloc] at n1
 exact ⟨hr.below h2, (bI.new w aM).past _, n1, h2, by omega, by omega, by omega⟩
theorem exec_cvU32 {ρ : Operand → Value} {o : Oper} {x : Operand} {w : World} {n : Nat} (ho : o.op = .convert 30 33 x) (hx : ρ x = .int .u64 (n : Int)) (hn : n < 4294967296) : (execOp ρ o).run Tryz.prog w = .ok (.value (.int .u32 (n : Int))) w := by
 have h : IntKind.u32.wrap (n : Int) = (n : Int) := IntWalk.u32_in _ ⟨by omega, by omega⟩
 have hc : (convert 30 33 (.int .u64 (n : Int))).run Tryz.prog w = .ok (.int .u32 (n : Int)) w := by simp [convert, go_sem, h]
 unfold execOp
 simp only [ho, hx, Sem.run_bind, hc, Result.andThen_ok, Sem.run_pure]
set_option maxHeartbeats 4000000 in
theorem pnttold (q : Nat) (A : Option Addr) (c : Nat) (l : List UInt8) (w : World) (S : SizNt w) (hr : Rd w w.heap.size A 44 l) : Calls Tryz.prog 110 #[.int .u64 q, .slice A 44 c] w fun e w' => e = .returned (nte (bV q l)) ∧ Below w.heap.size w w' := by
 have hl := hr.1
 obtain ⟨v0, h0⟩ : ∃ v, val 8 (piece l 0 8) = v := ⟨_, rfl⟩
 obtain ⟨v1, h1⟩ : ∃ v, val 8 (piece l 8 2) = v := ⟨_, rfl⟩
 obtain ⟨v2, h2⟩ : ∃ v, val 8 (piece l 10 4) = v := ⟨_, rfl⟩
 have b1 : v1 < 65536 := by rw [← h1]; exact cg (b := l) (p := 8) (k := 2) (by omega)
 have b2 : v2 < 4294967296 := by rw [← h2]; exact cg (b := l) (p := 10) (k := 4) (by omega)
 have HB2 := af b2
 have HV0 := af h0
 have HV1 := af h1
 have HV2 := af h2
 have HT : Hid (bV q l = ⟨q, v0, (v1 : Nat), v2⟩) := af (by unfold bV; rw [h0, h1, h2])
 have HST := af (tlNt_start w A l hr)
 have HSZ := af (S.below (tlNt_start w A l hr).bel)
 have HL := af hl
 clear h0 h1 h2 hr S hl b2
 go_enter Tryz.func110, Tryz.ntmps110
 go_upto_region 3 with (first | (refine ai rfl (bW rfl) ?_) | (refine ai rfl (exec_allocNn rfl) ?_) | fail)
 try simp only [World.size_alloc]
 generalize (w.alloc (.cells (aQ aM).toArray 35)).alloc (.cells (ew 0 0 0).toArray 187) = w1 at *
 obtain ⟨B, hB⟩ : ∃ B, w.heap.size = B := ⟨_, rfl⟩
 rw [hB] at HST ⊢
 have HBD := af hB
 have HB : Hid (B ≤ w.heap.size) := af (by omega)
 clear hB
 obtain ⟨n, hn⟩ : ∃ n, B + 1 = n := ⟨_, rfl⟩
 rw [hn] at HST ⊢
 clear hn
 go_upto_region 4 with (first | (refine ai rfl (exec_loadZn rfl rfl HSZ.out) ?_) | fail)
 go_loopw [6, 10] (fun p i wr => TrNt B w A l B n v0 v1 v2 p i wr) (fun _ i _ => 3 - (intOf i).toNat)
 case atStart => exact .inl ⟨rfl, rfl, HST.out⟩
 case round =>
  clear HST
  rcases hrel with ⟨rfl, rfl, hl⟩ | ⟨rfl, rfl, hl⟩ | ⟨rfl, rfl, hl⟩ | ⟨rfl, rfl, hl⟩
  ·have H0 := af hl
   clear hl
   have HRD := af H0.out.rd
   have cc := H0.out.num.cells.1
   have ff := H0.out.num.free 0
   have H2 : Hid (TlNt B w (wr.setCell ⟨n, 0, none⟩ (.int .u64 (v0 : Nat))) A l B n v0 0 0) := af (H0.out.set rfl HB.out)
   go_wp2_with (first | (refine ai rfl (exec_ixZn0 rfl rfl rfl) ?_) | fail)
   refine (get_ok A 44 c _ l 0 8 wr HRD.out (by unfold maxLen; omega) (by omega) (by omega) (by omega)).mono ?_
   rintro e w2 ⟨rfl, rfl⟩
   rw [HV0.out]
   go_wp2_with (first | (refine ai rfl (exec_ixNn0 rfl rfl rfl) ?_) | fail)
   go_roundw
   case rel => exact .inr (.inl ⟨rfl, rfl, H2.out⟩)
   case measure => simp [intOf]
  ·have H0 := af hl
   clear hl
   have HRD := af H0.out.rd
   have cc := H0.out.num.cells.2.1
   have ff := H0.out.num.free 1
   have H2 : Hid (TlNt B w (wr.setCell ⟨n, 1, none⟩ (.int .u64 (v1 : Nat))) A l B n v0 v1 0) := af (H0.out.set rfl HB.out)
   go_wp2_with (first | (refine ai rfl (exec_ixZn1 rfl rfl rfl) ?_) | fail)
   refine (get_ok A 44 c _ l 8 2 wr HRD.out (by unfold maxLen; omega) (by omega) (by omega) (by omega)).mono ?_
   rintro e w2 ⟨rfl, rfl⟩
   rw [HV1.out]
   go_wp2_with (first | (refine ai rfl (exec_ixNn1 rfl rfl rfl) ?_) | fail)
   go_roundw
   case rel => exact .inr (.inr (.inl ⟨rfl, rfl, H2.out⟩))
   case measure => simp [intOf]
  ·have H0 := af hl
   clear hl
   have HRD := af H0.out.rd
   have cc := H0.out.num.cells.2.2
   have ff := H0.out.num.free 2
   have H2 : Hid (TlNt B w (wr.setCell ⟨n, 2, none⟩ (.int .u64 (v2 : Nat))) A l B n v0 v1 v2) := af (H0.out.set rfl HB.out)
   go_wp2_with (first | (refine ai rfl (exec_ixZn2 rfl rfl rfl) ?_) | fail)
   refine (get_ok A 44 c _ l 10 4 wr HRD.out (by unfold maxLen; omega) (by omega) (by omega) (by omega)).mono ?_
   rintro e w2 ⟨rfl, rfl⟩
   rw [HV2.out]
   go_wp2_with (first | (refine ai rfl (exec_ixNn2 rfl rfl rfl) ?_) | fail)
   go_roundw
   case rel => exact .inr (.inr (.inr ⟨rfl, rfl, H2.out⟩))
   case measure => simp [intOf]
  ·have H0 := af hl
   clear hl
   obtain ⟨c0, c1, c2⟩ := H0.out.num.cells
   have HTH := af H0.out.res.there
   go_wp2_with (first | (refine ai rfl (exec_ixNn0 rfl rfl rfl) ?_) | (refine ai rfl (exec_ixNn1 rfl rfl rfl) ?_) | (refine ai rfl (exec_ixNn2 rfl rfl rfl) ?_) | (refine ai rfl (exec_cvU32 rfl rfl HB2.out) ?_) | (refine ai rfl (exec_bldNt4 q v0 v1 v2 rfl rfl rfl rfl rfl) ?_) | (refine az rfl (dX (c := ⟨q, v0, (v1 : Nat), v2⟩) rfl rfl rfl ?_) ?_; (with_reducible exact HTH.out)) | fail)
   refine bodyPost_ret (res_rng (t := 35) (cs := aQ ⟨q, v0, (v1 : Nat), v2⟩) rfl _ _ B rfl ?h1 Tryz.underlying35 rfl ?h2) rfl ⟨by rw [HT.out]; rfl, ?h3⟩
   case h1 => exact World.rangeAt_setCells_same _ _ _ _ HTH.out
   case h2 => exact sizeNt
   case h3 => rw [HBD.out]; exact below_setCells H0.out.bel H0.out.r0 _
theorem res_two {fn : Func} {q u : Tmp} {t : TypeId} {cs : List Value} {d : TypeDesc} (h : fn.results = #[.cell q t, .tmp u]) (tmps : Array Value) (w : World) (b : Nat) (hq : tmps.getD q undef = .pointer (some ⟨b, 0, none⟩)) (hr : w.rangeAt b 0 cs) (hu : Tryz.prog.underlying t = some d) (hd : d.isRow = true) (hz : (Tryz.prog.info? t).map (·.size) = some cs.length) :
  (results fn tmps).run Tryz.prog w = .ok (.tuple #[.agg cs.toArray, tmps.getD u undef]) w := by
 have hl : (loadVar t ⟨b, 0, none⟩).run Tryz.prog w = .ok (.agg cs.toArray) w := run_loadVar_mid (P := Tryz.prog) w b 0 t cs d hr hu hd hz
 have hq' : tmps[q]?.getD undef = .pointer (some ⟨b, 0, none⟩) := by simpa using hq
 simp [results, h, hq', asAddr, hl]
set_option maxHeartbeats 1000000 in
theorem pntput (x : Nte) (w : World) (T : TabNt w) (hf : x.fit) :
  Calls Tryz.prog 126 #[nte x] w fun e w' => e = .returned (.tuple #[blk (aL.pB x), .int .i64 (aL.pE x : Nat)]) ∧ Below w.heap.size w w' := by
 obtain ⟨h1, h2, h3⟩ := dm w x
 have HS := af (h1.past (.cells (cel ap).toArray 29))
 have HB := af (h2.alloc h2.size (.cells (cel ap).toArray 29))
 have HT := af T
 have HI := af hf
 have HR : Hid (((w.alloc (.cells (aQ x).toArray 35)).alloc (.cells (cel ap).toArray 29)).there (w.heap.size + 1) 0 64) := af (by
  have := dl (w.alloc (.cells (aQ x).toArray 35)) ap 29
  rwa [World.size_alloc] at this)
 have HZ : Hid (w.heap.size + 1 < ((w.alloc (.cells (aQ x).toArray 35)).alloc (.cells (cel ap).toArray 29)).heap.size) := af (by simp only [World.size_alloc]; omega)
 clear h1 h2 h3 T hf
 go_enter Tryz.func126, Tryz.ntmps126
 go_wp2_with (first | (refine ai rfl (cO rfl rfl) ?_) | (refine ai rfl (aT rfl) ?_) | (refine ai rfl (bh (c := x) rfl rfl ?_) ?_; (with_reducible exact HS.out.range)) | fail)
 try simp only [World.size_alloc]
 generalize (w.alloc (.cells (aQ x).toArray 35)).alloc (.cells (cel ap).toArray 29) = w1 at *
 refine (pntmay x w1).mono ?_
 rintro e w2 ⟨rfl, hb⟩
 have HS2 := af (HS.out.below (aK HS.out) hb)
 have HB2 := af (HB.out.trans (hb.mono HB.out.size))
 have HR2 := af (aO HR.out HZ.out hb)
 have HZ2 : Hid (w.heap.size + 1 < w2.heap.size) := af (by have := hb.size; have := HZ.out; omega)
 clear hb HS HB HR HZ
 by_cases hm : nteB x = true
 ·rw [hm]
  have HM := af hm
  clear hm
  go_wp2_with (first | (refine ai rfl (bh (c := x) rfl rfl ?_) ?_; (with_reducible exact HS2.out.range)) | fail)
  refine (pntlaid x w2 (HT.out.below HB2.out).siz HI.out HM.out).mono ?_
  rintro e w3 ⟨rfl, hb⟩
  have hb3 := HB2.out.trans (hb.mono HB2.out.size)
  have HB3 := af (hb3.alloc hb3.size (.cells (vals (cw x)).toArray 159))
  have HR3 := af (aO HR2.out HZ2.out (hb.alloc hb.size (.cells (vals (cw x)).toArray 159)))
  have hrd := (bR.new w3 (cw x) 159).rd (p := 0) (k := 44) (by rw [dE]; omega)
  rw [df (dE x)] at hrd
  have HRD := af hrd
  have HFL := af (dE x)
  have HS3 := af (HS2.out.below (aK HS2.out) (hb.alloc hb.size (.cells (vals (cw x)).toArray 159)))
  have HZ3 : Hid (w.heap.size + 1 < (w3.alloc (.cells (vals (cw x)).toArray 159)).heap.size) := af (by have := hb.size; have := HZ2.out; simp only [World.size_alloc]; omega)
  clear hb hb3 hrd HS2 HB2 HR2 HZ2
  go_upto_region 4 with (first | (refine ai rfl (gm rfl) ?_) | (refine az rfl (exec_fill44n (l := cw x) HFL.out rfl rfl rfl) ?_) | fail)
  generalize hw4 : w3.alloc (.cells (vals (cw x)).toArray 159) = w4 at *
  refine bH (fun _ => True) 7 (by kernel_rfl) ?_
  change cF _ _ _ _ _ _ 8 _ _ w4.drew
  refine gu 0 rfl (fun w' hw => am rfl (ev rfl) faNt0) trivial ?_;simp only [aa]
  refine gu 2 rfl (fun w' hw => exec_all44n rfl (ev rfl)) trivial ?_;simp only [aa]
  refine bl 1 rfl (by kernel_rfl) rfl (au (w := w4.drew) rfl (ev rfl) (bL HS3.out.cells.1)) (fun _ => trivial) ?_;simp only [aa]
  refine cQ 3 rfl (by kernel_rfl) rfl (av Tryz.call162 rfl (evc (ev rfl) (evc (ev rfl) evn))) ?_
  refine (put_all x.seq 44 44 _ _ (cw x) w4.drew (HT.out.below (bd HB3.out)).tab HI.out.1 HRD.out (Nat.le_refl _) (by unfold maxLen; omega)).mono ?_
  rintro e w5 ⟨rfl, hb⟩
  rw [show dL x.seq (cw x) = dL x.seq (dG x) from aL.putB_full x.seq x, show dW x.seq (cw x) = dW x.seq (dG x) from aL.putE_full x.seq x, show dW x.seq (dG x) = 0 from aL.body_putE x (by have := eX HM.out; omega)]
  have HR5 := af (aO (w := w4.drew) HR3.out HZ3.out hb)
  have HB5 := af ((bd HB3.out).trans (hb.mono HB3.out.size))
  have HPB : Hid (aL.pB x = dL x.seq (dG x)) := af (aL.pB_ok HM.out)
  have HPE := af (aL.pE_ok HM.out)
  clear hb hw4 HRD HR3 HZ3 HB3
  generalize dL x.seq (dG x) = pb at *
  refine ⟨_, rfl, fun _ => trivial, ?_⟩
  simp only [aa]
  refine gu 4 rfl (fun w' hw => aD rfl (ev rfl) rfl) trivial ?_;simp only [aa]
  refine gu 5 rfl (fun w' hw => aD rfl (ev rfl) rfl) trivial ?_;simp only [aa]
  refine fy 6 rfl (by kernel_rfl) rfl (aR (c := pb) rfl (ev rfl) (ev rfl) HR5.out) (fun _ => trivial) ?_
  simp only [Act.put]
  refine bl 7 rfl (by kernel_rfl) rfl (aq rfl (ev rfl)) (fun _ => trivial) ?_;simp only [aa]
  refine cm (by kernel_rfl) ?_ _
  go_wp2_with fail
  refine bodyPost_ret (bZ rfl _ _ _ rfl (World.rangeAt_setCells_same _ _ _ _ (by rw [aA]; exact HR5.out))) rfl ⟨by rw [HPB.out, HPE.out]; rfl, below_setCells HB5.out (Nat.le_succ _) _⟩
 ·have hm' : nteB x = false := by simpa using hm
  have hmay : ¬ aL.may x = true := hm
  have HPB := af (aL.pB_no hmay)
  have HPE := af (aL.pE_no hmay)
  rw [hm']
  clear hm hm' hmay
  go_wp2_with (first | (refine ai rfl (b8 (c := ap) (parts := []) rfl rfl) ?_) | (refine az rfl (aR (c := ap) rfl rfl rfl ?_) ?_; (with_reducible exact HR2.out)) | fail)
  refine bodyPost_ret (bZ rfl _ _ _ rfl (World.rangeAt_setCells_same _ _ _ _ (by rw [aA]; exact HR2.out))) rfl ⟨by rw [HPB.out, HPE.out]; rfl, below_setCells HB2.out (Nat.le_succ _) _⟩
structure NgW (w w3 : World) (g s : Nat) (l : List UInt8) (y : Nte) : Prop where
 row : bR w3 g 5 l
 sup : bI w3 s y
 res : w3.there (w.heap.size + 1) 0 4
 bel : Below w.heap.size w w3
 lt : w.heap.size + 1 < w3.heap.size
theorem NgW.keep {w w3 w4 : World} {g s : Nat} {l : List UInt8} {y : Nte} (h : NgW w w3 g s l y) (hb : Below w3.heap.size w3 w4) : NgW w w4 g s l y :=
 ⟨h.row.below h.row.lt hb, h.sup.below (aK h.sup) hb, aO h.res h.lt hb, h.bel.trans (hb.mono h.bel.size), Nat.lt_of_lt_of_le h.lt hb.size⟩
set_option maxHeartbeats 1000000 in
theorem pntget_seal (b : Blk) (w : World) (T : TabNt w) (h : cu b.toList ≠ 0) : Calls Tryz.prog 72 #[blk b] w fun e w' => e = .returned (.tuple #[nte aM, .int .i64 (cu b.toList : Nat)]) ∧ Below w.heap.size w w' := by
 obtain ⟨n, hn⟩ : ∃ n, cP b.toList = n := ⟨_, rfl⟩
 obtain ⟨l, hl⟩ : ∃ l, cv b.toList = l := ⟨_, rfl⟩
 have hn64 : n < 18446744073709551616 := by rw [← hn]; exact fM b
 have HN64 := af hn64
 have h1 := (Below.refl w.heap.size w).alloc (Nat.le_refl _) (.cells (cel b).toArray 29)
 have h2 := h1.alloc h1.size (.cells (aQ aM).toArray 35)
 have HA : Hid (((w.alloc (.cells (cel b).toArray 29)).alloc (.cells (aQ aM).toArray 35)).rangeAt w.heap.size 0 (cel b)) := af (World.rangeAt_alloc (cf w (cel b) 29) _)
 have hsn := bI.new (w.alloc (.cells (cel b).toArray 29)) aM
 rw [World.size_alloc] at hsn
 have HR := af hsn.there
 have HZ := af (aK hsn)
 have HB := af h2
 have HT := af (T.below h2)
 have HN := af hn
 have HL := af hl
 clear h1 h2 hsn T hn64
 obtain ⟨E, hE⟩ : ∃ E, cu b.toList = E := ⟨_, rfl⟩
 rw [hE] at h
 have HE := af hE
 have hne : ((E : Int) != 0) = true := by simp; omega
 clear hE hn hl
 go_enter Tryz.func72, Tryz.ntmps72
 go_wp2_with (first | (refine ai rfl (bE rfl rfl) ?_) | (refine ai rfl (bW rfl) ?_) | (refine ai rfl (aS (c := b) rfl rfl ?_) ?_; (with_reducible exact HA.out)) | fail)
 try simp only [World.size_alloc]
 generalize (w.alloc (.cells (cel b).toArray 29)).alloc (.cells (aQ aM).toArray 35) = w0 at *
 refine (eY b _ w0 (af rfl) HT.out.tab).mono ?_
 rintro e w1 ⟨v, rfl, hv, hb⟩
 rw [HN.out]
 rw [HE.out]
 have HR1 := af (aO HR.out HZ.out hb)
 have HB1 := af (HB.out.trans (hb.mono HB.out.size))
 clear hv hb HA HR HB
 go_wp2_with (first | (refine ai rfl (fh rfl) ?_) | (refine az rfl (dX (c := aM) rfl rfl rfl ?_) ?_; (with_reducible exact HR1.out)) | fail)
 refine bodyPost_ret (res_two (t := 35) (cs := aQ aM) rfl _ _ _ rfl ?h1 Tryz.underlying35 rfl ?h2) rfl ⟨by rw [HE.out]; rfl, ?h3⟩
 case h1 => exact World.rangeAt_setCells_same _ _ _ _ HR1.out
 case h2 => exact sizeNt
 case h3 => exact below_setCells HB1.out (Nat.le_succ _) _
set_option maxHeartbeats 2000000 in
theorem pntget_may (b : Blk) (w : World) (T : TabNt w) (h0 : cu b.toList = 0) (hm : nteB (bV (cP b.toList) (cv b.toList)) = false) : Calls Tryz.prog 72 #[blk b] w fun e w' => e = .returned (.tuple #[nte aM, .int .i64 (5 : Nat)]) ∧ Below w.heap.size w w' := by
 obtain ⟨n, hn⟩ : ∃ n, cP b.toList = n := ⟨_, rfl⟩
 obtain ⟨l, hl⟩ : ∃ l, cv b.toList = l := ⟨_, rfl⟩
 have hn64 : n < 18446744073709551616 := by rw [← hn]; exact fM b
 have HN64 := af hn64
 have h1 := (Below.refl w.heap.size w).alloc (Nat.le_refl _) (.cells (cel b).toArray 29)
 have h2 := h1.alloc h1.size (.cells (aQ aM).toArray 35)
 have HA : Hid (((w.alloc (.cells (cel b).toArray 29)).alloc (.cells (aQ aM).toArray 35)).rangeAt w.heap.size 0 (cel b)) := af (World.rangeAt_alloc (cf w (cel b) 29) _)
 have hsn := bI.new (w.alloc (.cells (cel b).toArray 29)) aM
 rw [World.size_alloc] at hsn
 have HR := af hsn.there
 have HZ := af (aK hsn)
 have HB := af h2
 have HT := af (T.below h2)
 have HN := af hn
 have HL := af hl
 clear h1 h2 hsn T hn64
 rw [hn, hl] at hm
 have HM := af hm
 clear hm
 clear hn hl
 go_enter Tryz.func72, Tryz.ntmps72
 go_wp2_with (first | (refine ai rfl (bE rfl rfl) ?_) | (refine ai rfl (bW rfl) ?_) | (refine ai rfl (aS (c := b) rfl rfl ?_) ?_; (with_reducible exact HA.out)) | fail)
 try simp only [World.size_alloc]
 generalize (w.alloc (.cells (cel b).toArray 29)).alloc (.cells (aQ aM).toArray 35) = w0 at *
 refine (eY b _ w0 (af rfl) HT.out.tab).mono ?_
 rintro e w1 ⟨v, rfl, hv, hb⟩
 rw [HN.out]
 rw [h0]
 have hll : l.length = 44 := by rw [← HL.out]; exact dA h0
 have HLL := af hll
 rw [HL.out] at hv
 obtain ⟨g, hve, hrow⟩ : ∃ g, v = .slice (some ⟨g, 0, none⟩) 44 44 ∧ bR w1 g 5 l := by
  rcases hv with ⟨_, rfl⟩ | ⟨g, e, _, hr, _⟩
  ·simp at hll
  ·rw [hll] at e; exact ⟨g, e, hr⟩
 subst hve
 have HR1 := af (aO HR.out HZ.out hb)
 have HB1 := af (HB.out.trans (hb.mono HB.out.size))
 have HZ1 : Hid (w.heap.size + 1 < w1.heap.size) := af (Nat.lt_of_lt_of_le HZ.out hb.size)
 have HRW := af hrow
 have hrd := hrow.rd (p := 0) (k := 44) (by rw [hll]; omega)
 rw [df hll] at hrd
 have HRD := af hrd
 have HT1 := af (HT.out.below hb)
 clear hv hb HA HR HB HZ hll h0 hrow hrd
 go_wp2_with fail
 refine (pnttold n _ 44 l w1 HT1.out.siz HRD.out).mono ?_
 rintro e w2 ⟨rfl, hb⟩
 have hb3 := hb.alloc hb.size (.cells (aQ (bV n l)).toArray 35)
 have HW3 : Hid (NgW w (w2.alloc (.cells (aQ (bV n l)).toArray 35)) g w2.heap.size l (bV n l)) := af ⟨HRW.out.below HRW.out.lt hb3, bI.new w2 _, aO HR1.out HZ1.out hb3, HB1.out.trans (hb3.mono HB1.out.size), Nat.lt_of_lt_of_le HZ1.out hb3.size⟩
 have HI : Hid ((bV n l).fit) := af (told_fitNt HN64.out HLL.out)
 have HSZ3 := af (HT1.out.below hb3).siz
 clear hb hb3 HRW HR1 HB1 HZ1 HRD HT1
 obtain ⟨y, hy⟩ : ∃ y, bV n l = y := ⟨_, rfl⟩
 have HY := af hy
 rw [hy] at HW3 HI HSZ3 HM
 rw [hy]
 clear hy
 have HFL := af (dE y)
 go_upto_region 5 with (first | (refine ai rfl (bW rfl) ?_) | (refine az rfl (dk rfl rfl rfl) ?_) | fail)
 generalize w2.alloc (.cells (aQ y).toArray 35) = w3 at *
 have HS3 := af HW3.out.sup
 have HR3 := af HW3.out.row
 generalize w2.heap.size = s at *
 refine aI (B := w3.heap.size) (by kernel_rfl) ?_
 refine ao rfl (fun w' hw => bh (c := y) rfl (ev rfl) ((HS3.out.below (aK HS3.out) hw).range)) ?_;simp only [aa]
 refine a9 rfl (fun _ => av Tryz.call111 rfl (evc (ev rfl) evn)) (aW (Nat.le_refl _) fun w' hw => pntmay_b y w' HM.out) ?_;simp only [aa]
 refine ao (v := .bool true) rfl (fun w' hw => bf false rfl (ev rfl)) ?_;simp only [aa]
 refine cI 6 (v := .bool true) rfl (fun w' hw => aj rfl (ev rfl)) (by kernel_rfl) ?_
 simp only [aJ, ae, aa]
 refine ao (v := .bool true) rfl (fun w' hw => aG rfl (ev rfl) evk) ?_;simp only [aa]
 refine wpQuiet_nil ?_
 intro w4 hw
 have HW4 := af (HW3.out.keep hw)
 have HR4 := af HW4.out.res
 have HB4 := af HW4.out.bel
 clear HW3 HS3 HR3 hw
 go_wp2_with (first | (refine ai rfl (fh rfl) ?_) | (refine az rfl (dX (c := aM) rfl rfl rfl ?_) ?_; (with_reducible exact HR4.out)) | fail)
 refine bodyPost_ret (res_two (t := 35) (cs := aQ aM) rfl _ _ _ rfl ?h1 Tryz.underlying35 rfl ?h2) rfl ⟨rfl, ?h3⟩
 case h1 => exact World.rangeAt_setCells_same _ _ _ _ HR4.out
 case h2 => exact sizeNt
 case h3 => exact below_setCells HB4.out (Nat.le_succ _) _
set_option maxHeartbeats 2000000 in
theorem pntget_un (b : Blk) (w : World) (T : TabNt w) (h0 : cu b.toList = 0) (hm : nteB (bV (cP b.toList) (cv b.toList)) = true) (hd : cw (bV (cP b.toList) (cv b.toList)) ≠ cv b.toList) : Calls Tryz.prog 72 #[blk b] w fun e w' => e = .returned (.tuple #[nte aM, .int .i64 (5 : Nat)]) ∧ Below w.heap.size w w' := by
 obtain ⟨n, hn⟩ : ∃ n, cP b.toList = n := ⟨_, rfl⟩
 obtain ⟨l, hl⟩ : ∃ l, cv b.toList = l := ⟨_, rfl⟩
 have hn64 : n < 18446744073709551616 := by rw [← hn]; exact fM b
 have HN64 := af hn64
 have h1 := (Below.refl w.heap.size w).alloc (Nat.le_refl _) (.cells (cel b).toArray 29)
 have h2 := h1.alloc h1.size (.cells (aQ aM).toArray 35)
 have HA : Hid (((w.alloc (.cells (cel b).toArray 29)).alloc (.cells (aQ aM).toArray 35)).rangeAt w.heap.size 0 (cel b)) := af (World.rangeAt_alloc (cf w (cel b) 29) _)
 have hsn := bI.new (w.alloc (.cells (cel b).toArray 29)) aM
 rw [World.size_alloc] at hsn
 have HR := af hsn.there
 have HZ := af (aK hsn)
 have HB := af h2
 have HT := af (T.below h2)
 have HN := af hn
 have HL := af hl
 clear h1 h2 hsn T hn64
 rw [hn, hl] at hm hd
 have HM := af hm
 have HD : Hid (decide (cw (bV n l) = l) = false) := af (decide_eq_false hd)
 clear hm hd
 clear hn hl
 go_enter Tryz.func72, Tryz.ntmps72
 go_wp2_with (first | (refine ai rfl (bE rfl rfl) ?_) | (refine ai rfl (bW rfl) ?_) | (refine ai rfl (aS (c := b) rfl rfl ?_) ?_; (with_reducible exact HA.out)) | fail)
 try simp only [World.size_alloc]
 generalize (w.alloc (.cells (cel b).toArray 29)).alloc (.cells (aQ aM).toArray 35) = w0 at *
 refine (eY b _ w0 (af rfl) HT.out.tab).mono ?_
 rintro e w1 ⟨v, rfl, hv, hb⟩
 rw [HN.out]
 rw [h0]
 have hll : l.length = 44 := by rw [← HL.out]; exact dA h0
 have HLL := af hll
 rw [HL.out] at hv
 obtain ⟨g, hve, hrow⟩ : ∃ g, v = .slice (some ⟨g, 0, none⟩) 44 44 ∧ bR w1 g 5 l := by
  rcases hv with ⟨_, rfl⟩ | ⟨g, e, _, hr, _⟩
  ·simp at hll
  ·rw [hll] at e; exact ⟨g, e, hr⟩
 subst hve
 have HR1 := af (aO HR.out HZ.out hb)
 have HB1 := af (HB.out.trans (hb.mono HB.out.size))
 have HZ1 : Hid (w.heap.size + 1 < w1.heap.size) := af (Nat.lt_of_lt_of_le HZ.out hb.size)
 have HRW := af hrow
 have hrd := hrow.rd (p := 0) (k := 44) (by rw [hll]; omega)
 rw [df hll] at hrd
 have HRD := af hrd
 have HT1 := af (HT.out.below hb)
 clear hv hb HA HR HB HZ hll h0 hrow hrd
 go_wp2_with fail
 refine (pnttold n _ 44 l w1 HT1.out.siz HRD.out).mono ?_
 rintro e w2 ⟨rfl, hb⟩
 have hb3 := hb.alloc hb.size (.cells (aQ (bV n l)).toArray 35)
 have HW3 : Hid (NgW w (w2.alloc (.cells (aQ (bV n l)).toArray 35)) g w2.heap.size l (bV n l)) := af ⟨HRW.out.below HRW.out.lt hb3, bI.new w2 _, aO HR1.out HZ1.out hb3, HB1.out.trans (hb3.mono HB1.out.size), Nat.lt_of_lt_of_le HZ1.out hb3.size⟩
 have HI : Hid ((bV n l).fit) := af (told_fitNt HN64.out HLL.out)
 have HSZ3 := af (HT1.out.below hb3).siz
 clear hb hb3 HRW HR1 HB1 HZ1 HRD HT1
 obtain ⟨y, hy⟩ : ∃ y, bV n l = y := ⟨_, rfl⟩
 have HY := af hy
 rw [hy] at HW3 HI HSZ3 HM HD
 rw [hy]
 clear hy
 have HFL := af (dE y)
 go_upto_region 5 with (first | (refine ai rfl (bW rfl) ?_) | (refine az rfl (dk rfl rfl rfl) ?_) | fail)
 generalize w2.alloc (.cells (aQ y).toArray 35) = w3 at *
 have HS3 := af HW3.out.sup
 have HR3 := af HW3.out.row
 generalize w2.heap.size = s at *
 refine aI (B := w3.heap.size) (by kernel_rfl) ?_
 refine ao rfl (fun w' hw => bh (c := y) rfl (ev rfl) ((HS3.out.below (aK HS3.out) hw).range)) ?_;simp only [aa]
 refine a9 rfl (fun _ => av Tryz.call111 rfl (evc (ev rfl) evn)) (aW (Nat.le_refl _) fun w' hw => pntmay_b y w' HM.out) ?_;simp only [aa]
 refine ao (v := .bool false) rfl (fun w' hw => bf true rfl (ev rfl)) ?_;simp only [aa]
 refine ao (v := .bool false) rfl (fun w' hw => aj rfl (ev rfl)) ?_;simp only [aa]
 refine ao gr (fun w' hw => bh (c := y) rfl (ev rfl) ((HS3.out.below (aK HS3.out) hw).range)) ?_;simp only [aa]
 refine a9 gr (fun _ => av Tryz.call112 rfl (evc (ev rfl) evn)) (aW (Nat.le_refl _) fun w' hw => pntlaid y w' (HSZ3.out.below hw) HI.out HM.out) ?_;simp only [aa]
 refine ao gr (fun w' hw => aj rfl (ev rfl)) ?_;simp only [aa]
 refine ao gr (fun w' hw => exec_s2an rfl (ev rfl)) ?_;simp only [aa]
 refine ao gr (fun w' hw => exec_load44n HLL.out rfl (ev rfl) (dt (HR3.out.below HR3.out.lt hw))) ?_;simp only [aa]
 refine ao (v := .bool true) gr (fun w' hw => exec_ne44n false HFL.out HLL.out rfl (ev rfl) (ev rfl) HD.out) ?_;simp only [aa]
 refine ao (v := .bool true) rfl (fun w' hw => aE rfl (ev rfl) (ev rfl)) ?_;simp only [aa]
 refine wpQuiet_nil ?_
 intro w4 hw
 have HW4 := af (HW3.out.keep hw)
 have HR4 := af HW4.out.res
 have HB4 := af HW4.out.bel
 clear HW3 HS3 HR3 hw
 go_wp2_with (first | (refine ai rfl (fh rfl) ?_) | (refine az rfl (dX (c := aM) rfl rfl rfl ?_) ?_; (with_reducible exact HR4.out)) | fail)
 refine bodyPost_ret (res_two (t := 35) (cs := aQ aM) rfl _ _ _ rfl ?h1 Tryz.underlying35 rfl ?h2) rfl ⟨rfl, ?h3⟩
 case h1 => exact World.rangeAt_setCells_same _ _ _ _ HR4.out
 case h2 => exact sizeNt
 case h3 => exact below_setCells HB4.out (Nat.le_succ _) _
set_option maxHeartbeats 2000000 in
theorem pntget_yes (b : Blk) (w : World) (T : TabNt w) (h0 : cu b.toList = 0) (hm : nteB (bV (cP b.toList) (cv b.toList)) = true) (hd : cw (bV (cP b.toList) (cv b.toList)) = cv b.toList) : Calls Tryz.prog 72 #[blk b] w fun e w' => e = .returned (.tuple #[nte (bV (cP b.toList) (cv b.toList)), .int .i64 (0 : Nat)]) ∧ Below w.heap.size w w' := by
 obtain ⟨n, hn⟩ : ∃ n, cP b.toList = n := ⟨_, rfl⟩
 obtain ⟨l, hl⟩ : ∃ l, cv b.toList = l := ⟨_, rfl⟩
 have hn64 : n < 18446744073709551616 := by rw [← hn]; exact fM b
 have HN64 := af hn64
 have h1 := (Below.refl w.heap.size w).alloc (Nat.le_refl _) (.cells (cel b).toArray 29)
 have h2 := h1.alloc h1.size (.cells (aQ aM).toArray 35)
 have HA : Hid (((w.alloc (.cells (cel b).toArray 29)).alloc (.cells (aQ aM).toArray 35)).rangeAt w.heap.size 0 (cel b)) := af (World.rangeAt_alloc (cf w (cel b) 29) _)
 have hsn := bI.new (w.alloc (.cells (cel b).toArray 29)) aM
 rw [World.size_alloc] at hsn
 have HR := af hsn.there
 have HZ := af (aK hsn)
 have HB := af h2
 have HT := af (T.below h2)
 have HN := af hn
 have HL := af hl
 clear h1 h2 hsn T hn64
 rw [hn, hl] at hm hd
 have HM := af hm
 have HD : Hid (decide (cw (bV n l) = l) = true) := af (decide_eq_true hd)
 clear hm hd
 clear hn hl
 go_enter Tryz.func72, Tryz.ntmps72
 go_wp2_with (first | (refine ai rfl (bE rfl rfl) ?_) | (refine ai rfl (bW rfl) ?_) | (refine ai rfl (aS (c := b) rfl rfl ?_) ?_; (with_reducible exact HA.out)) | fail)
 try simp only [World.size_alloc]
 generalize (w.alloc (.cells (cel b).toArray 29)).alloc (.cells (aQ aM).toArray 35) = w0 at *
 refine (eY b _ w0 (af rfl) HT.out.tab).mono ?_
 rintro e w1 ⟨v, rfl, hv, hb⟩
 rw [HN.out]
 rw [h0]
 have hll : l.length = 44 := by rw [← HL.out]; exact dA h0
 have HLL := af hll
 rw [HL.out] at hv
 obtain ⟨g, hve, hrow⟩ : ∃ g, v = .slice (some ⟨g, 0, none⟩) 44 44 ∧ bR w1 g 5 l := by
  rcases hv with ⟨_, rfl⟩ | ⟨g, e, _, hr, _⟩
  ·simp at hll
  ·rw [hll] at e; exact ⟨g, e, hr⟩
 subst hve
 have HR1 := af (aO HR.out HZ.out hb)
 have HB1 := af (HB.out.trans (hb.mono HB.out.size))
 have HZ1 : Hid (w.heap.size + 1 < w1.heap.size) := af (Nat.lt_of_lt_of_le HZ.out hb.size)
 have HRW := af hrow
 have hrd := hrow.rd (p := 0) (k := 44) (by rw [hll]; omega)
 rw [df hll] at hrd
 have HRD := af hrd
 have HT1 := af (HT.out.below hb)
 clear hv hb HA HR HB HZ hll h0 hrow hrd
 go_wp2_with fail
 refine (pnttold n _ 44 l w1 HT1.out.siz HRD.out).mono ?_
 rintro e w2 ⟨rfl, hb⟩
 have hb3 := hb.alloc hb.size (.cells (aQ (bV n l)).toArray 35)
 have HW3 : Hid (NgW w (w2.alloc (.cells (aQ (bV n l)).toArray 35)) g w2.heap.size l (bV n l)) := af ⟨HRW.out.below HRW.out.lt hb3, bI.new w2 _, aO HR1.out HZ1.out hb3, HB1.out.trans (hb3.mono HB1.out.size), Nat.lt_of_lt_of_le HZ1.out hb3.size⟩
 have HI : Hid ((bV n l).fit) := af (told_fitNt HN64.out HLL.out)
 have HSZ3 := af (HT1.out.below hb3).siz
 clear hb hb3 HRW HR1 HB1 HZ1 HRD HT1
 obtain ⟨y, hy⟩ : ∃ y, bV n l = y := ⟨_, rfl⟩
 have HY := af hy
 rw [hy] at HW3 HI HSZ3 HM HD
 rw [hy]
 clear hy
 have HFL := af (dE y)
 go_upto_region 5 with (first | (refine ai rfl (bW rfl) ?_) | (refine az rfl (dk rfl rfl rfl) ?_) | fail)
 generalize w2.alloc (.cells (aQ y).toArray 35) = w3 at *
 have HS3 := af HW3.out.sup
 have HR3 := af HW3.out.row
 generalize w2.heap.size = s at *
 refine aI (B := w3.heap.size) (by kernel_rfl) ?_
 refine ao rfl (fun w' hw => bh (c := y) rfl (ev rfl) ((HS3.out.below (aK HS3.out) hw).range)) ?_;simp only [aa]
 refine a9 rfl (fun _ => av Tryz.call111 rfl (evc (ev rfl) evn)) (aW (Nat.le_refl _) fun w' hw => pntmay_b y w' HM.out) ?_;simp only [aa]
 refine ao (v := .bool false) rfl (fun w' hw => bf true rfl (ev rfl)) ?_;simp only [aa]
 refine ao (v := .bool false) rfl (fun w' hw => aj rfl (ev rfl)) ?_;simp only [aa]
 refine ao gr (fun w' hw => bh (c := y) rfl (ev rfl) ((HS3.out.below (aK HS3.out) hw).range)) ?_;simp only [aa]
 refine a9 gr (fun _ => av Tryz.call112 rfl (evc (ev rfl) evn)) (aW (Nat.le_refl _) fun w' hw => pntlaid y w' (HSZ3.out.below hw) HI.out HM.out) ?_;simp only [aa]
 refine ao gr (fun w' hw => aj rfl (ev rfl)) ?_;simp only [aa]
 refine ao gr (fun w' hw => exec_s2an rfl (ev rfl)) ?_;simp only [aa]
 refine ao gr (fun w' hw => exec_load44n HLL.out rfl (ev rfl) (dt (HR3.out.below HR3.out.lt hw))) ?_;simp only [aa]
 refine ao (v := .bool false) gr (fun w' hw => exec_ne44n true HFL.out HLL.out rfl (ev rfl) (ev rfl) HD.out) ?_;simp only [aa]
 refine ao (v := .bool false) rfl (fun w' hw => aE rfl (ev rfl) (ev rfl)) ?_;simp only [aa]
 refine wpQuiet_nil ?_
 intro w4 hw
 have HW4 := af (HW3.out.keep hw)
 have HR4 := af HW4.out.res
 have HB4 := af HW4.out.bel
 have HLD := af HW4.out.sup.range
 clear HW3 HS3 HR3 hw
 go_wp2_with (first | (refine ai rfl (bh (c := y) rfl rfl ?_) ?_; (with_reducible exact HLD.out)) | (refine az rfl (dX (c := y) rfl rfl rfl ?_) ?_; (with_reducible exact HR4.out)) | fail)
 refine bodyPost_ret (res_two (t := 35) (cs := aQ y) rfl _ _ _ rfl ?h1 Tryz.underlying35 rfl ?h2) rfl ⟨by rw [HN.out, HL.out, HY.out]; rfl, ?h3⟩
 case h1 => exact World.rangeAt_setCells_same _ _ _ _ HR4.out
 case h2 => exact sizeNt
 case h3 => exact below_setCells HB4.out (Nat.le_succ _) _
theorem pntget (b : Blk) (w : World) (T : TabNt w) : Calls Tryz.prog 72 #[blk b] w fun e w' => e = .returned (.tuple #[nte (aL.gX b), .int .i64 (aL.gE b : Nat)]) ∧ Below w.heap.size w w' := by
 by_cases h0 : cu b.toList = 0
 ·by_cases hm : nteB (bV (cP b.toList) (cv b.toList)) = true
  ·by_cases hd : cw (bV (cP b.toList) (cv b.toList)) = cv b.toList
   ·have hE := aL.gE_ok h0 (aL.ef.2 ⟨hm, hd⟩)
    rw [aL.gX_of hE, hE]
    exact pntget_yes b w T h0 hm hd
   ·have hE := aL.gE_form h0 (fun h => hd (aL.ef.1 h).2)
    rw [aL.gX_no (by omega), hE]
    exact pntget_un b w T h0 hm hd
  ·have hE := aL.gE_form h0 (fun h => hm (aL.ef.1 h).1)
   rw [aL.gX_no (by omega), hE]
   exact pntget_may b w T h0 (by simpa using hm)
 ·have hE := aL.gE_seal h0
  rw [aL.gX_no (by omega), hE]
  exact pntget_seal b w T h0
def PtrAt (w : World) (a p : Nat) : Prop := w.heap[a]? = some (.cells #[ptr p] 41 (0, 0))
def IntAt (w : World) (a : Nat) (n : Int) : Prop := w.heap[a]? = some (.cells #[.int .i64 n] 3 (0, 0))
def U64At (w : World) (a n : Nat) : Prop := w.heap[a]? = some (.cells #[.int .u64 (n : Int)] 30 (0, 0))
def cz (w : World) (a : Nat) (x : Blk) : Prop := w.heap[a]? = some (.cells (cel x).toArray 29 (0, 0))
theorem PtrAt.cell {w : World} {a p : Nat} (h : PtrAt w a p) : w.cell? ⟨a, 0, none⟩ = some (.pointer (some ⟨p, 0, none⟩)) := cell_of_row w a 0 _ _ _ h
theorem IntAt.cell {w : World} {a : Nat} {n : Int} (h : IntAt w a n) : w.cell? ⟨a, 0, none⟩ = some (.int .i64 n) := cell_of_row w a 0 _ _ _ h
theorem U64At.cell {w : World} {a n : Nat} (h : U64At w a n) : w.cell? ⟨a, 0, none⟩ = some (.int .u64 (n : Int)) := cell_of_row w a 0 _ _ _ h
theorem cz.range {w : World} {a : Nat} {x : Blk} (h : cz w a x) : w.rangeAt a 0 (cel x) := dt h
inductive StpAt (K : Nat → Prop) (w : World) (p : Nat) : Fv → Stp → Prop
 | fl : StpAt K w p ⟨86, [ptr p], [], Tryz.call86⟩ .fl
 | wr (a b c : Nat) (n : Int) (x : Blk) (ha : PtrAt w a p) (hb : IntAt w b n) (hc : cz w c x) (ka : K a) (kb : K b) (kc : K c) :
   StpAt K w p ⟨159, [], [ptr a, ptr b, ptr c], Tryz.call159⟩ (.wr n x)
 | mk (a b c : Nat) (n : Nat) (m : Mrk) (ha : U64At w a n) (hb : bP w b m) (hc : PtrAt w c p) (ka : K a) (kb : K b) (kc : K c) (hn : n < 18446744073709551616) (hf : m.fit) (he : aN.pE ⟨n, m⟩ = 0) :
   StpAt K w p ⟨135, [], [ptr a, ptr b, ptr c], Tryz.call135⟩ (.wr (eJ n) (aN.pB ⟨n, m⟩))
 | nt (a b : Nat) (y : Nte) (ha : bI w a y) (hb : PtrAt w b p) (ka : K a) (kb : K b) (hf : y.fit) (he : aL.pE y = 0) :
   StpAt K w p ⟨125, [], [ptr a, ptr b], Tryz.call125⟩ (.wr (cp y.seq) (aL.pB y))
theorem StpAt.keep_ {K K' : Nat → Prop} {w w' : World} {p : Nat} {s : Fv} {t : Stp} (h : StpAt K w p s t) (hk : ∀ b, K b → w'.heap[b]? = w.heap[b]?) (hK : ∀ b, K b → K' b) : StpAt K' w' p s t := by
 cases h with
 | fl => exact .fl
 | wr a b c n x ha hb hc ka kb kc => exact .wr a b c n x ((hk a ka).trans ha) ((hk b kb).trans hb) ((hk c kc).trans hc) (hK _ ka) (hK _ kb) (hK _ kc)
 | mk a b c n m ha hb hc ka kb kc hn hf he => exact .mk a b c n m ((hk a ka).trans ha) ((hk b kb).trans hb) ((hk c kc).trans hc) (hK _ ka) (hK _ kb) (hK _ kc) hn hf he
 | nt a b y ha hb ka kb hf he => exact .nt a b y ((hk a ka).trans ha) ((hk b kb).trans hb) (hK _ ka) (hK _ kb) hf he
def Btw (B C b : Nat) : Prop := B ≤ b ∧ b < C
theorem StpAt.below {B C B' C' : Nat} {w w' : World} {p : Nat} {s : Fv} {t : Stp} (h : StpAt (Btw B C) w p s t) (hC : C ≤ w.heap.size) (hb : Below w.heap.size w w') (h1 : B' ≤ B) (h2 : C ≤ C') : StpAt (Btw B' C') w' p s t :=
 h.keep_ (fun b hb' => hb.block b (Nat.lt_of_lt_of_le hb'.2 hC)) fun b hb' => ⟨Nat.le_trans h1 hb'.1, Nat.lt_of_lt_of_le hb'.2 h2⟩
def Stps (K : Nat → Prop) (w : World) (p : Nat) : List Fv → List Stp → Prop
 | [], [] => True
 | s :: l, t :: ts => StpAt K w p s t ∧ Stps K w p l ts
 | _, _ => False
theorem Stps.append {K : Nat → Prop} {w : World} {p : Nat} : ∀ {l : List Fv} {ts : List Stp} {l' : List Fv} {ts' : List Stp}, Stps K w p l ts → Stps K w p l' ts' → Stps K w p (l ++ l') (ts ++ ts')
 | [], [], _, _, _, h => h
 | _ :: _, _ :: _, _, _, h, h' => ⟨h.1, h.2.append h'⟩
theorem Stps.keep_ {K K' : Nat → Prop} {w w' : World} {p : Nat} (hk : ∀ b, K b → w'.heap[b]? = w.heap[b]?) (hK : ∀ b, K b → K' b) : ∀ {l : List Fv} {ts : List Stp}, Stps K w p l ts → Stps K' w' p l ts
 | [], [], _ => trivial
 | _ :: _, _ :: _, h => ⟨h.1.keep_ hk hK, Stps.keep_ hk hK h.2⟩
theorem Stps.below {B C B' C' : Nat} {w w' : World} {p : Nat} {l : List Fv} {ts : List Stp} (h : Stps (Btw B C) w p l ts) (hC : C ≤ w.heap.size) (hb : Below w.heap.size w w') (h1 : B' ≤ B) (h2 : C ≤ C') : Stps (Btw B' C') w' p l ts :=
 h.keep_ (fun b hb' => hb.block b (Nat.lt_of_lt_of_le hb'.2 hC)) fun b hb' => ⟨Nat.le_trans h1 hb'.1, Nat.lt_of_lt_of_le hb'.2 h2⟩
theorem Stps.len {K : Nat → Prop} {w : World} {p : Nat} : ∀ {l : List Fv} {ts : List Stp}, Stps K w p l ts → l.length = ts.length
 | [], [], _ => rfl
 | _ :: _, _ :: _, h => by rw [List.length_cons, List.length_cons, Stps.len h.2]
theorem run_mkFn (fn : Fn) (fs cs : Array Value) (w : World) : (Instr.makeFunc fn fs cs).run Tryz.prog w = .ok (.func fn fs cs) w := rfl
theorem alloc2 (w : World) (o1 o2 : Obj) : Below w.heap.size w ((w.alloc o1).alloc o2) ∧ ((w.alloc o1).alloc o2).heap[w.heap.size]? = some o1 ∧ ((w.alloc o1).alloc o2).heap[w.heap.size + 1]? = some o2 ∧ ((w.alloc o1).alloc o2).heap.size = w.heap.size + 2 := by
 have e1 := World.size_alloc (w := w) (o := o1)
 have e2 := World.size_alloc (w := w.alloc o1) (o := o2)
 have n1 := heap_alloc_new w o1
 have n2 := heap_alloc_new (w.alloc o1) o2
 rw [e1] at n2 e2
 refine ⟨((Below.refl _ w).alloc (Nat.le_refl _) _).alloc (by omega) _, ?_, n2, e2⟩
 have hlt : w.heap.size < (w.alloc o1).heap.size := by omega
 exact (((Below.refl (w.alloc o1).heap.size (w.alloc o1)).alloc (Nat.le_refl _) o2).block _ hlt).trans n1
theorem alloc3 (w : World) (o1 o2 o3 : Obj) : Below w.heap.size w (((w.alloc o1).alloc o2).alloc o3) ∧ (((w.alloc o1).alloc o2).alloc o3).heap[w.heap.size]? = some o1 ∧ (((w.alloc o1).alloc o2).alloc o3).heap[w.heap.size + 1]? = some o2 ∧ (((w.alloc o1).alloc o2).alloc o3).heap[w.heap.size + 1 + 1]? = some o3 ∧ (((w.alloc o1).alloc o2).alloc o3).heap.size = w.heap.size + 3 := by
 obtain ⟨h1, h2, h3, h4⟩ := alloc2 w o1 o2
 have e3 := World.size_alloc (w := (w.alloc o1).alloc o2) (o := o3)
 have n3 := heap_alloc_new ((w.alloc o1).alloc o2) o3
 rw [h4] at n3 e3
 have hb := (Below.refl ((w.alloc o1).alloc o2).heap.size ((w.alloc o1).alloc o2)).alloc (Nat.le_refl _) o3
 exact ⟨h1.alloc h1.size _, (hb.block _ (by omega)).trans h2, (hb.block _ (by omega)).trans h3, n3, e3⟩
section
variable {p : Nat} {w : World}
theorem pwriting (n : Int) (x : Blk) : Calls Tryz.prog 123 #[.pointer (some ⟨p, 0, none⟩), .int .i64 n, blk x] w fun e w' => ∃ s : Fv, e = .returned s.val ∧ StpAt (Btw w.heap.size w'.heap.size) w' p s (.wr n x) ∧ Below w.heap.size w w' := by
 have hmf := run_mkFn
 go_enter Tryz.func123, Tryz.ntmps123
 go_wp2_with (first | (refine ai rfl (bE rfl rfl) ?_) | fail)
 go_ret
 obtain ⟨h1, h2, h3, h4, h5⟩ := alloc3 w (.cells #[ptr p] 41) (.cells #[.int .i64 n] 3) (.cells (cel x).toArray 29)
 exact ⟨⟨159, [], [ptr w.heap.size, ptr (w.heap.size + 1), ptr (w.heap.size + 1 + 1)], Tryz.call159⟩, rfl, .wr _ _ _ n x h2 h3 h4 ⟨Nat.le_refl _, aK h2⟩ ⟨Nat.le_succ _, aK h3⟩ ⟨Nat.le_add_right _ 2, aK h4⟩, h1⟩
theorem pmarking (n : Nat) (m : Mrk) (hn : n < 18446744073709551616) (hf : m.fit) (he : aN.pE ⟨n, m⟩ = 0) : Calls Tryz.prog 96 #[.pointer (some ⟨p, 0, none⟩), .int .u64 (n : Nat), mrk m] w fun e w' => ∃ s : Fv, e = .returned s.val ∧ StpAt (Btw w.heap.size w'.heap.size) w' p s (.wr (eJ n) (aN.pB ⟨n, m⟩)) ∧ Below w.heap.size w w' := by
 have hmf := run_mkFn
 have HN := af hn
 have HF := af hf
 have HE := af he
 clear hn hf he
 go_enter Tryz.func96, Tryz.ntmps96
 go_wp2_with (first | (refine ai rfl (fk rfl rfl) ?_) | fail)
 go_ret
 obtain ⟨h1, h2, h3, h4, h5⟩ := alloc3 w (.cells #[ptr p] 41) (.cells #[.int .u64 (n : Int)] 30) (.cells (a8 m).toArray 32)
 exact ⟨⟨135, [], [ptr (w.heap.size + 1), ptr (w.heap.size + 1 + 1), ptr w.heap.size], Tryz.call135⟩, rfl, .mk _ _ _ n m h3 h4 h2 ⟨Nat.le_succ _, aK h3⟩ ⟨Nat.le_add_right _ 2, aK h4⟩ ⟨Nat.le_refl _, aK h2⟩ HN.out HF.out HE.out, h1⟩
theorem pnoting (y : Nte) (hf : y.fit) (he : aL.pE y = 0) : Calls Tryz.prog 87 #[.pointer (some ⟨p, 0, none⟩), nte y] w fun e w' => ∃ s : Fv, e = .returned s.val ∧ StpAt (Btw w.heap.size w'.heap.size) w' p s (.wr (cp y.seq) (aL.pB y)) ∧ Below w.heap.size w w' := by
 have hmf := run_mkFn
 have HF := af hf
 have HE := af he
 clear hf he
 go_enter Tryz.func87, Tryz.ntmps87
 go_wp2_with (first | (refine ai rfl (cO rfl rfl) ?_) | fail)
 go_ret
 obtain ⟨h1, h2, h3, h4⟩ := alloc2 w (.cells #[ptr p] 41) (.cells (aQ y).toArray 35)
 exact ⟨⟨125, [], [ptr (w.heap.size + 1), ptr w.heap.size], Tryz.call125⟩, rfl, .nt _ _ y h3 h2 ⟨Nat.le_succ _, aK h3⟩ ⟨Nat.le_refl _, aK h2⟩ HF.out HE.out, h1⟩
end
end Go.Proofs.YtbbcdhkinbmdnaaGreatDoor
