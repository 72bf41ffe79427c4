import Derived.Test.YtbbcdhkinbmdnaaGreatDoorLoau
import Derived.Test.YtbbcdhkinbmdnaaGreatDoorLoZ
namespace Go.Proofs.YtbbcdhkinbmdnaaGreatDoor
open Go.RowKit
set_option linter.unusedVariables false
set_option maxRecDepth 100000
def Bod (w : World) (B : Nat) (v : Value) (l : List UInt8) : Prop := (v = .slice none 0 0 ∧ l = []) ∨ ∃ g, v = .slice (some ⟨g, 0, none⟩) l.length l.length ∧ B ≤ g ∧ bR w g 5 l ∧ l.length ≤ maxLen
structure GetW (B : Nat) (w w' : World) (g p : Nat) (l : List UInt8) : Prop where
 row : bR w' g 29 l
 par : PartsAt w' p g
 bel : Below B w w'
 tab : Tab w'
theorem GetW.below {B : Nat} {w w1 w2 : World} {g p : Nat} {l : List UInt8} (h : GetW B w w1 g p l) (hb : Below w1.heap.size w1 w2) (hB : B ≤ w.heap.size) : GetW B w w2 g p l :=
 ⟨h.row.below h.row.lt hb, h.par.below (aK h.par) hb, h.bel.trans (hb.mono (Nat.le_trans hB h.bel.size)), h.tab.below hb⟩
theorem getW_start (w w1 : World) (b : Blk) (hbA : Below w.heap.size w (w.alloc (.cells (cel b).toArray 29))) (hT : Tab (w.alloc (.cells (cel b).toArray 29))) (hb : Below (w.alloc (.cells (cel b).toArray 29)).heap.size (w.alloc (.cells (cel b).toArray 29)) w1) :
  GetW w.heap.size w (w1.alloc (.cells (fe w.heap.size) 182)) w.heap.size w1.heap.size b.toList := by
 have hs := hb.size
 simp only [World.size_alloc] at hs
 have hr : bR w1 w.heap.size 29 b.toList := (bR.blk w b 29).below (by simp only [World.size_alloc]; omega) hb
 have hbel : Below w.heap.size w w1 := hbA.trans (hb.mono (by simp only [World.size_alloc]; omega))
 exact ⟨hr.past _, heap_alloc_new w1 _, hbel.alloc (by omega) _, (hT.below hb).below ((Below.refl _ _).alloc (Nat.le_refl _) _)⟩
theorem told_above {W w' : World} {g : Nat} {t : TypeId} {l : List UInt8} (h : bR W g t l) (hb : Below W.heap.size W w') (off k : Nat) (hk : off + k ≤ l.length) (h1 : 1 ≤ k) (h8 : k ≤ 8) :
  Calls Tryz.prog 146 #[.slice (some ⟨g, off, none⟩) k k] w' fun e w'' => e = .returned (.int .u64 (val 8 (piece l off k) : Nat)) ∧ Below w'.heap.size w' w'' :=
 (fA _ k k _ _ w' ((h.below h.lt hb).rd hk) h1 h8).mono fun e w'' ⟨he, hw⟩ => ⟨he, by subst hw; exact Below.refl _ _⟩
theorem of_above {W w' : World} {g : Nat} {t : TypeId} {l : List UInt8} (h : bR W g t l) (T : Tab W) (hb : Below W.heap.size W w') (off k : Nat) (hk : off + k ≤ l.length) (hm : k ≤ maxLen) :
  Calls Tryz.prog 118 #[.slice (some ⟨g, off, none⟩) k k] w' fun e w'' => e = .returned (.int .u32 (more 0 (piece l off k) : Nat)) ∧ Below w'.heap.size w' w'' :=
 (of_any _ k k _ _ w' (T.below hb) ((h.below h.lt hb).rd hk) hm).mono fun e w'' ⟨he, hw⟩ => ⟨he, by subst hw; exact Below.refl _ _⟩
theorem exec_neU {ρ : Operand → Value} {o : Oper} {x y : Operand} {w : World} {t r : TypeId} {a b : Nat} (c : Bool) (ho : o.op = .binOp .neq t x y r) (hx : ρ x = .int .u64 (a : Int)) (hy : ρ y = .int .u64 (b : Int)) (h : ((a : Int) != (b : Int)) = c) : (execOp ρ o).run Tryz.prog w = .ok (.value (.bool c)) w := aU c ho hx hy h
theorem splice_all (l : List UInt8) (n : Nat) (h : l.length = n) : splice (List.replicate n 0) 0 l = l := by
 subst h
 simp [splice]
def nil44 : List UInt8 := List.replicate 44 0
theorem splice_44 {l : List UInt8} (h : l.length = 44) : splice nil44 0 l = l := splice_all l 44 h
def row44 : Array Value := (vals (List.replicate 44 0)).toArray
theorem make44 (w : World) : (Instr.makeSlice 118 (.int .i64 44) (.int .i64 44)).run Tryz.prog w = .ok (.slice (some ⟨w.heap.size, 0, none⟩) 44 44) (w.alloc (.cells row44 5)) := by kernel_rfl
set_option maxHeartbeats 4000000 in
theorem pget_zero (b : Blk) (B : Nat) (w : World) (HB : Hid (B = w.heap.size)) (T : Tab w) (h0 : cH b.toList = 0) :
  Calls Tryz.prog 109 #[blk b] w fun e w' => ∃ v, e = .returned (.tuple #[.int .u64 (cP b.toList : Nat), v, .int .i64 (cu b.toList : Nat)]) ∧ Bod w' B v (cv b.toList) ∧ Below B w w' := by
 have hA := bR.blk w b 29
 have hbA := (Below.refl w.heap.size w).alloc (Nat.le_refl _) (.cells (cel b).toArray 29)
 have HTA := af (T.below hbA)
 have HA := af hA
 have HBA := af hbA
 have HL := af (bz b)
 have hE := getE_form (.inl h0)
 have HE := af hE
 have HN := af (getN_no (l := b.toList) (by omega))
 have HBB := af (getB_no (l := b.toList) (by omega))
 have HX : Hid (val 8 (piece b.toList 0 8) = 0) := af h0
 clear hE h0
 clear hA hbA T
 go_enter Tryz.func109, Tryz.ntmps109
 go_wp2_with (first | (refine al rfl (bE rfl rfl) ?_) | fail)
 refine (cut_any w.heap.size _).mono ?_
 rintro e w1 ⟨rfl, hb1⟩
 have HG := af (getW_start w w1 b HBA.out HTA.out hb1)
 clear HTA HA HBA hb1
 obtain ⟨g, hg⟩ : ∃ g, w.heap.size = g := ⟨_, rfl⟩
 have HGE := af (Nat.le_of_eq hg.symm)
 rw [hg] at HG HB
 rw [hg]
 clear hg
 obtain ⟨c0, c1, c2, c3, c4⟩ := HG.out.par.cells
 go_wp2_with (first | (refine aV rfl (fT g rfl rfl rfl) ?_) | fail)
 clear c0 c1 c2 c3 c4
 generalize w1.heap.size = p at *
 generalize w1.alloc (.cells (fe g) 182) = w2 at *
 obtain ⟨c0, c1, c2, c3, c4⟩ := HG.out.par.cells
 have hr0 := HG.out.row.rd (p := 0) (k := 8) (by rw [HL.out]; omega)
 refine (fA _ 8 8 _ _ _ hr0 (by omega) (by omega)).mono ?_
 rintro e w3 ⟨rfl, rfl⟩
 clear hr0
 rw [HX.out]
 go_wp2_with fail
 refine bodyPost_ret (v := .tuple #[.int .u64 0, .slice none 0 0, .int .i64 5]) (by simp [results, Tryz.results109, go_sem]) rfl ⟨_, by rw [HE.out, HN.out]; rfl, .inl ⟨rfl, HBB.out⟩, by rw [HB.out]; exact HG.out.bel⟩
set_option maxHeartbeats 4000000 in
theorem pget_unlike (b : Blk) (B : Nat) (w : World) (HB : Hid (B = w.heap.size)) (T : Tab w) (h0 : cH b.toList ≠ 0) (h1 : cH b.toList ≠ agO b.toList) :
  Calls Tryz.prog 109 #[blk b] w fun e w' => ∃ v, e = .returned (.tuple #[.int .u64 (cP b.toList : Nat), v, .int .i64 (cu b.toList : Nat)]) ∧ Bod w' B v (cv b.toList) ∧ Below B w w' := by
 have hA := bR.blk w b 29
 have hbA := (Below.refl w.heap.size w).alloc (Nat.le_refl _) (.cells (cel b).toArray 29)
 have HTA := af (T.below hbA)
 have HA := af hA
 have HBA := af hbA
 have HL := af (bz b)
 have hE := getE_form (.inr h1)
 have HE := af hE
 have HN := af (getN_no (l := b.toList) (by omega))
 have HBB := af (getB_no (l := b.toList) (by omega))
 obtain ⟨x, hx⟩ : ∃ x, cH b.toList = x := ⟨_, rfl⟩
 obtain ⟨y, hy⟩ : ∃ y, agO b.toList = y := ⟨_, rfl⟩
 rw [hx] at h0 h1
 rw [hy] at h1
 have hz : ((x : Int) == 0) = false := by simp; omega
 have hn : ((x : Int) != (y : Int)) = true := by simp; omega
 have HX : Hid (val 8 (piece b.toList 0 8) = x) := af hx
 have HY : Hid (val 8 (piece b.toList 56 8) = y) := af hy
 clear hE h0 h1 hx hy
 clear hA hbA T
 go_enter Tryz.func109, Tryz.ntmps109
 go_wp2_with (first | (refine al rfl (bE rfl rfl) ?_) | fail)
 refine (cut_any w.heap.size _).mono ?_
 rintro e w1 ⟨rfl, hb1⟩
 have HG := af (getW_start w w1 b HBA.out HTA.out hb1)
 clear HTA HA HBA hb1
 obtain ⟨g, hg⟩ : ∃ g, w.heap.size = g := ⟨_, rfl⟩
 have HGE := af (Nat.le_of_eq hg.symm)
 rw [hg] at HG HB
 rw [hg]
 clear hg
 obtain ⟨c0, c1, c2, c3, c4⟩ := HG.out.par.cells
 go_wp2_with (first | (refine aV rfl (fT g rfl rfl rfl) ?_) | fail)
 clear c0 c1 c2 c3 c4
 generalize w1.heap.size = p at *
 generalize w1.alloc (.cells (fe g) 182) = w2 at *
 obtain ⟨c0, c1, c2, c3, c4⟩ := HG.out.par.cells
 have hr0 := HG.out.row.rd (p := 0) (k := 8) (by rw [HL.out]; omega)
 refine (fA _ 8 8 _ _ _ hr0 (by omega) (by omega)).mono ?_
 rintro e w3 ⟨rfl, rfl⟩
 clear hr0
 rw [HX.out]
 go_wp2_with fail
 have hr3 := HG.out.row.rd (p := 56) (k := 8) (by rw [HL.out]; omega)
 refine (fA _ 8 8 _ _ _ hr3 (by omega) (by omega)).mono ?_
 rintro e w3 ⟨rfl, rfl⟩
 clear hr3
 rw [HY.out]
 go_wp2_with fail
 refine bodyPost_ret (v := .tuple #[.int .u64 0, .slice none 0 0, .int .i64 5]) (by simp [results, Tryz.results109, go_sem]) rfl ⟨_, by rw [HE.out, HN.out]; rfl, .inl ⟨rfl, HBB.out⟩, by rw [HB.out]; exact HG.out.bel⟩
set_option maxHeartbeats 4000000 in
theorem pget_sum (b : Blk) (B : Nat) (w : World) (HB : Hid (B = w.heap.size)) (T : Tab w) (h0 : cH b.toList ≠ 0) (h1 : cH b.toList = agO b.toList) (h2 : sumO b.toList ≠ crcO b.toList) :
  Calls Tryz.prog 109 #[blk b] w fun e w' => ∃ v, e = .returned (.tuple #[.int .u64 (cP b.toList : Nat), v, .int .i64 (cu b.toList : Nat)]) ∧ Bod w' B v (cv b.toList) ∧ Below B w w' := by
 have hA := bR.blk w b 29
 have hbA := (Below.refl w.heap.size w).alloc (Nat.le_refl _) (.cells (cel b).toArray 29)
 have HTA := af (T.below hbA)
 have HA := af hA
 have HBA := af hbA
 have HL := af (bz b)
 have hE := getE_sum h0 h1 h2
 have HE := af hE
 have HN := af (getN_no (l := b.toList) (by omega))
 have HBB := af (getB_no (l := b.toList) (by omega))
 obtain ⟨x, hx⟩ : ∃ x, cH b.toList = x := ⟨_, rfl⟩
 rw [hx] at h0
 have HX : Hid (val 8 (piece b.toList 0 8) = x) := af hx
 have HY : Hid (val 8 (piece b.toList 56 8) = x) := af (by rw [← hx]; exact h1.symm)
 have HS4 := af (sumO_lt (bz b))
 have HCL := af (crcO_lt b.toList)
 have hz : ((x : Int) == 0) = false := by simp; omega
 have hn : ((x : Int) != (x : Int)) = false := by simp
 have hc : ((sumO b.toList : Nat) : Int) != ((crcO b.toList : Nat) : Int) := by simp; omega
 clear hE h0 h1 hx h2
 clear hA hbA T
 go_enter Tryz.func109, Tryz.ntmps109
 go_wp2_with (first | (refine al rfl (bE rfl rfl) ?_) | fail)
 refine (cut_any w.heap.size _).mono ?_
 rintro e w1 ⟨rfl, hb1⟩
 have HG := af (getW_start w w1 b HBA.out HTA.out hb1)
 clear HTA HA HBA hb1
 obtain ⟨g, hg⟩ : ∃ g, w.heap.size = g := ⟨_, rfl⟩
 have HGE := af (Nat.le_of_eq hg.symm)
 rw [hg] at HG HB
 rw [hg]
 clear hg
 obtain ⟨c0, c1, c2, c3, c4⟩ := HG.out.par.cells
 go_wp2_with (first | (refine aV rfl (fT g rfl rfl rfl) ?_) | fail)
 clear c0 c1 c2 c3 c4
 generalize w1.heap.size = p at *
 generalize w1.alloc (.cells (fe g) 182) = w2 at *
 obtain ⟨c0, c1, c2, c3, c4⟩ := HG.out.par.cells
 have hr0 := HG.out.row.rd (p := 0) (k := 8) (by rw [HL.out]; omega)
 refine (fA _ 8 8 _ _ _ hr0 (by omega) (by omega)).mono ?_
 rintro e w3 ⟨rfl, rfl⟩
 clear hr0
 rw [HX.out]
 go_wp2_with fail
 have hr3 := HG.out.row.rd (p := 56) (k := 8) (by rw [HL.out]; omega)
 refine (fA _ 8 8 _ _ _ hr3 (by omega) (by omega)).mono ?_
 rintro e w3 ⟨rfl, rfl⟩
 clear hr3
 rw [HY.out]
 go_wp2_with fail
 clear c0 c1 c2 c3 c4
 have hle : w2.heap.size ≤ w2.heap.size := Nat.le_refl _
 refine aI (B := w2.heap.size) (by kernel_rfl) ?_
 refine ao rfl (fun w' hw => am rfl (ev rfl) faP2) ?_;simp only [aa]
 refine ao rfl (fun w' hw => au rfl (ev rfl) (ldS (HG.out.par.below (aK HG.out.par) hw).cells.2.2.1)) ?_;simp only [aa]
 refine a9 rfl (fun _ => av Tryz.call146 rfl (evc (ev rfl) evn)) (aW hle fun w' hw => told_above HG.out.row hw 52 4 (by rw [HL.out]; omega) (by omega) (by omega)) ?_;simp only [aa]
 refine ao rfl (fun w' hw => am rfl (ev rfl) faP4) ?_;simp only [aa]
 refine ao rfl (fun w' hw => au rfl (ev rfl) (ldS (HG.out.par.below (aK HG.out.par) hw).cells.2.2.2.2)) ?_;simp only [aa]
 refine a9 rfl (fun _ => av Tryz.call118 rfl (evc (ev rfl) evn)) (aW hle fun w' hw => of_above HG.out.row HG.out.tab hw 0 52 (by rw [HL.out]; omega) (by unfold maxLen; omega)) ?_;simp only [aa]
 refine ao rfl (fun w' hw => fb rfl (ev rfl) HCL.out) ?_;simp only [aa]
 refine ao rfl (fun w' hw => exec_neU true rfl (ev rfl) (ev rfl) hc) ?_;simp only [aa]
 refine wpQuiet_nil ?_
 intro w3 hb3
 have HG3 := af (HG.out.below hb3 HGE.out)
 clear hb3 HG
 go_wp2_with fail
 refine bodyPost_ret (v := .tuple #[.int .u64 0, .slice none 0 0, .int .i64 6]) (by simp [results, Tryz.results109, go_sem]) rfl ⟨_, by rw [HE.out, HN.out]; rfl, .inl ⟨rfl, HBB.out⟩, by rw [HB.out]; exact HG3.out.bel⟩
set_option maxHeartbeats 4000000 in
theorem pget_ok (b : Blk) (B : Nat) (w : World) (HB : Hid (B = w.heap.size)) (T : Tab w) (h0 : cH b.toList ≠ 0) (h1 : cH b.toList = agO b.toList) (h2 : sumO b.toList = crcO b.toList) :
  Calls Tryz.prog 109 #[blk b] w fun e w' => ∃ v, e = .returned (.tuple #[.int .u64 (cP b.toList : Nat), v, .int .i64 (cu b.toList : Nat)]) ∧ Bod w' B v (cv b.toList) ∧ Below B w w' := by
 have hA := bR.blk w b 29
 have hbA := (Below.refl w.heap.size w).alloc (Nat.le_refl _) (.cells (cel b).toArray 29)
 have HTA := af (T.below hbA)
 have HA := af hA
 have HBA := af hbA
 have HL := af (bz b)
 have hE := getE_ok h0 h1 h2
 have HE := af hE
 have HN := af (getN_of hE)
 have HBB := af (getB_of hE)
 obtain ⟨x, hx⟩ : ∃ x, cH b.toList = x := ⟨_, rfl⟩
 rw [hx] at h0
 have HX : Hid (val 8 (piece b.toList 0 8) = x) := af hx
 have HY : Hid (val 8 (piece b.toList 56 8) = x) := af (by rw [← hx]; exact h1.symm)
 have HS4 := af (sumO_lt (bz b))
 have HCL := af (crcO_lt b.toList)
 have hz : ((x : Int) == 0) = false := by simp; omega
 have hn : ((x : Int) != (x : Int)) = false := by simp
 have hc : (((sumO b.toList : Nat) : Int) != ((crcO b.toList : Nat) : Int)) = false := by rw [h2]; simp
 have HXX := af hx
 clear hE h0 h1 hx h2
 clear hA hbA T
 go_enter Tryz.func109, Tryz.ntmps109
 go_wp2_with (first | (refine al rfl (bE rfl rfl) ?_) | fail)
 refine (cut_any w.heap.size _).mono ?_
 rintro e w1 ⟨rfl, hb1⟩
 have HG := af (getW_start w w1 b HBA.out HTA.out hb1)
 clear HTA HA HBA hb1
 obtain ⟨g, hg⟩ : ∃ g, w.heap.size = g := ⟨_, rfl⟩
 have HGE := af (Nat.le_of_eq hg.symm)
 rw [hg] at HG HB
 rw [hg]
 clear hg
 obtain ⟨c0, c1, c2, c3, c4⟩ := HG.out.par.cells
 go_wp2_with (first | (refine aV rfl (fT g rfl rfl rfl) ?_) | fail)
 clear c0 c1 c2 c3 c4
 generalize w1.heap.size = p at *
 generalize w1.alloc (.cells (fe g) 182) = w2 at *
 obtain ⟨c0, c1, c2, c3, c4⟩ := HG.out.par.cells
 have hr0 := HG.out.row.rd (p := 0) (k := 8) (by rw [HL.out]; omega)
 refine (fA _ 8 8 _ _ _ hr0 (by omega) (by omega)).mono ?_
 rintro e w3 ⟨rfl, rfl⟩
 clear hr0
 rw [HX.out]
 go_wp2_with fail
 have hr3 := HG.out.row.rd (p := 56) (k := 8) (by rw [HL.out]; omega)
 refine (fA _ 8 8 _ _ _ hr3 (by omega) (by omega)).mono ?_
 rintro e w3 ⟨rfl, rfl⟩
 clear hr3
 rw [HY.out]
 go_wp2_with fail
 clear c0 c1 c2 c3 c4
 have hle : w2.heap.size ≤ w2.heap.size := Nat.le_refl _
 refine aI (B := w2.heap.size) (by kernel_rfl) ?_
 refine ao rfl (fun w' hw => am rfl (ev rfl) faP2) ?_;simp only [aa]
 refine ao rfl (fun w' hw => au rfl (ev rfl) (ldS (HG.out.par.below (aK HG.out.par) hw).cells.2.2.1)) ?_;simp only [aa]
 refine a9 rfl (fun _ => av Tryz.call146 rfl (evc (ev rfl) evn)) (aW hle fun w' hw => told_above HG.out.row hw 52 4 (by rw [HL.out]; omega) (by omega) (by omega)) ?_;simp only [aa]
 refine ao rfl (fun w' hw => am rfl (ev rfl) faP4) ?_;simp only [aa]
 refine ao rfl (fun w' hw => au rfl (ev rfl) (ldS (HG.out.par.below (aK HG.out.par) hw).cells.2.2.2.2)) ?_;simp only [aa]
 refine a9 rfl (fun _ => av Tryz.call118 rfl (evc (ev rfl) evn)) (aW hle fun w' hw => of_above HG.out.row HG.out.tab hw 0 52 (by rw [HL.out]; omega) (by unfold maxLen; omega)) ?_;simp only [aa]
 refine ao rfl (fun w' hw => fb rfl (ev rfl) HCL.out) ?_;simp only [aa]
 refine ao rfl (fun w' hw => exec_neU false rfl (ev rfl) (ev rfl) hc) ?_;simp only [aa]
 refine wpQuiet_nil ?_
 intro w3 hb3
 have HG3 := af (HG.out.below hb3 HGE.out)
 clear hb3 HG
 have HG4 := af (HG3.out.below ((Below.refl w3.heap.size w3).alloc (Nat.le_refl _) (.cells row44 5)) HGE.out)
 obtain ⟨c0, c1, c2, c3, c4⟩ := HG4.out.par.cells
 have HNEW : Hid (bR (w3.alloc (.cells row44 5)) w3.heap.size 5 nil44) := af (bR.new w3 nil44 _)
 have HSRC := af (HG4.out.row.rd (p := 8) (k := 44) (by rw [HL.out]; omega))
 have HPL : Hid ((piece b.toList 8 44).length = 44) := af (bi (by rw [HL.out]; omega))
 have HW3 := af (Nat.le_trans HGE.out HG3.out.bel.size)
 clear HG3
 obtain ⟨q, hq⟩ : ∃ q, w3.heap.size = q := ⟨_, rfl⟩
 rw [hq] at HNEW HW3
 have HQ := af hq
 generalize hw4 : w3.alloc (.cells row44 5) = w4 at *
 have HM : Hid (∀ w : World, w = w3 → (Instr.makeSlice 118 (.int .i64 44) (.int .i64 44)).run Tryz.prog w = .ok (.slice (some ⟨q, 0, none⟩) 44 44) w4) := af (fun w e => by subst e; rw [make44, hq, hw4])
 have hmk := HM.out w3 rfl
 clear hq hw4
 go_wp2_with (with_reducible refine cN rfl _ _ rfl q 0 44 44 44 44 _ _ 5 _ (piece b.toList 8 44) rfl rfl HNEW.out HSRC.out (Nat.le_refl _) ?c1 ?_)
 case c1 => simp [nil44]
 intro w5 hr5 hg5
 rw [splice_44 HPL.out] at hr5
 have HB5 := af (HG4.out.bel.grown hg5 (Nat.le_trans HGE.out HG4.out.bel.size) (fun k hk => by injection hk with e; subst e; exact HW3.out))
 have HR5 := af hr5
 clear hr5 hg5 c0 c1 c2 c3 c4
 go_wp2_with fail
 refine bodyPost_ret (v := .tuple #[.int .u64 (x : Int), .slice (some ⟨q, 0, none⟩) 44 44, .int .i64 0]) (by simp [results, Tryz.results109, go_sem]) rfl ⟨_, by rw [HE.out, HN.out, HXX.out]; rfl, .inr ⟨q, ?_, ?_, ?_, ?_⟩, ?_⟩
 ·rw [HBB.out, HPL.out]
 ·rw [HB.out]; exact HW3.out
 ·rw [HBB.out]; exact HR5.out
 ·rw [HBB.out, HPL.out]; unfold maxLen; omega
 ·rw [HB.out]; exact HB5.out
theorem eY (b : Blk) (B : Nat) (w : World) (HB : Hid (B = w.heap.size)) (T : Tab w) : Calls Tryz.prog 109 #[blk b] w fun e w' => ∃ v, e = .returned (.tuple #[.int .u64 (cP b.toList : Nat), v, .int .i64 (cu b.toList : Nat)]) ∧ Bod w' B v (cv b.toList) ∧ Below B w w' := by
 by_cases h0 : cH b.toList = 0
 ·exact pget_zero b B w HB T h0
 ·by_cases h1 : cH b.toList = agO b.toList
  ·by_cases h2 : sumO b.toList = crcO b.toList
   ·exact pget_ok b B w HB T h0 h1 h2
   ·exact pget_sum b B w HB T h0 h1 h2
  ·exact pget_unlike b B w HB T h0 h1
end Go.Proofs.YtbbcdhkinbmdnaaGreatDoor
