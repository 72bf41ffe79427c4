import Derived.Test.YtnliphgjcaippaaGreatDoorHsak
import Derived.Test.YtnliphgjcaippaaGreatDoorHsah
import Derived.Test.YtnliphgjcaippaaGreatDoorHsZ
namespace Go.Proofs.YtnliphgjcaippaaGreatDoor
open Go.RowKit
set_option linter.unusedVariables false
set_option maxRecDepth 100000
def Bod (w : World) (B : Nat) (v : Value) (l : List UInt8) : Prop := (v = .slice none 0 0 ∧ l = []) ∨ ∃ g, v = .slice (some ⟨g, 0, none⟩) l.length l.length ∧ B ≤ g ∧ bK w g 5 l ∧ l.length ≤ maxLen
structure GetW (B : Nat) (w w' : World) (g p : Nat) (l : List UInt8) : Prop where
  row : bK w' g 58 l
  par : PartsAt w' p g
  bel : Below B w w'
  tab : Tab w'
theorem GetW.below {B : Nat} {w w1 w2 : World} {g p : Nat} {l : List UInt8} (h : GetW B w w1 g p l) (hb : Below w1.heap.size w1 w2) (hB : B ≤ w.heap.size) : GetW B w w2 g p l :=
  ⟨h.row.below h.row.lt hb, h.par.below (aD h.par) hb, h.bel.trans (hb.mono (Nat.le_trans hB h.bel.size)), h.tab.below hb⟩
theorem getW_start (w w1 : World) (b : Blk) (hbA : Below w.heap.size w (w.alloc (.cells (cel b).toArray 58))) (hT : Tab (w.alloc (.cells (cel b).toArray 58))) (hb : Below (w.alloc (.cells (cel b).toArray 58)).heap.size (w.alloc (.cells (cel b).toArray 58)) w1) :
    GetW w.heap.size w (w1.alloc (.cells (dX w.heap.size) 171)) w.heap.size w1.heap.size b.toList := by
  have hs := hb.size
  simp only [World.size_alloc] at hs
  have hr : bK w1 w.heap.size 58 b.toList := (bK.blk w b 58).below (by simp only [World.size_alloc]; omega) hb
  have hbel : Below w.heap.size w w1 := hbA.trans (hb.mono (by simp only [World.size_alloc]; omega))
  exact ⟨hr.past _, heap_alloc_new w1 _, hbel.alloc (by omega) _, (hT.below hb).below ((Below.refl _ _).alloc (Nat.le_refl _) _)⟩
theorem told_above {W w' : World} {g : Nat} {t : TypeId} {l : List UInt8} (h : bK W g t l) (hb : Below W.heap.size W w') (off k : Nat) (hk : off + k ≤ l.length) (h1 : 1 ≤ k) (h8 : k ≤ 8) :
    Calls Tryz.prog 159 #[.slice (some ⟨g, off, none⟩) k k] w' fun e w'' => e = .returned (.int .u64 (val 8 (piece l off k) : Nat)) ∧ Below w'.heap.size w' w'' :=
  (eh _ k k _ _ w' ((h.below h.lt hb).rd hk) h1 h8).mono fun e w'' ⟨he, hw⟩ => ⟨he, by subst hw; exact Below.refl _ _⟩
theorem of_above {W w' : World} {g : Nat} {t : TypeId} {l : List UInt8} (h : bK W g t l) (T : Tab W) (hb : Below W.heap.size W w') (off k : Nat) (hk : off + k ≤ l.length) (hm : k ≤ maxLen) :
    Calls Tryz.prog 141 #[.slice (some ⟨g, off, none⟩) k k] w' fun e w'' => e = .returned (.int .u32 (more 0 (piece l off k) : Nat)) ∧ Below w'.heap.size w' w'' :=
  (of_any _ k k _ _ w' (T.below hb) ((h.below h.lt hb).rd hk) hm).mono fun e w'' ⟨he, hw⟩ => ⟨he, by subst hw; exact Below.refl _ _⟩
theorem exec_neU {ρ : Operand → Value} {o : Oper} {x y : Operand} {w : World} {t r : TypeId} {a b : Nat} (c : Bool) (ho : o.op = .binOp .neq t x y r) (hx : ρ x = .int .u64 (a : Int)) (hy : ρ y = .int .u64 (b : Int)) (h : ((a : Int) != (b : Int)) = c) : (execOp ρ o).run Tryz.prog w = .ok (.value (.bool c)) w := ay c ho hx hy h
theorem splice_all (l : List UInt8) (n : Nat) (h : l.length = n) : splice (List.replicate n 0) 0 l = l := by
  subst h
  simp [splice]
def nil44 : List UInt8 := List.replicate 44 0
theorem splice_44 {l : List UInt8} (h : l.length = 44) : splice nil44 0 l = l := splice_all l 44 h
def row44 : Array Value := (vals (List.replicate 44 0)).toArray
theorem make44 (w : World) : (Instr.makeSlice 100 (.int .i64 44) (.int .i64 44)).run Tryz.prog w = .ok (.slice (some ⟨w.heap.size, 0, none⟩) 44 44) (w.alloc (.cells row44 5)) := by kernel_rfl
set_option maxHeartbeats 4000000 in
theorem pget_zero (b : Blk) (B : Nat) (w : World) (HB : Hid (B = w.heap.size)) (T : Tab w) (h0 : cQ b.toList = 0) :
    Calls Tryz.prog 154 #[blk b] w fun e w' => ∃ v, e = .returned (.tuple #[.int .u64 (cq b.toList : Nat), v, .int .i64 (cr b.toList : Nat)]) ∧ Bod w' B v (bW b.toList) ∧ Below B w w' := by
  have hA := bK.blk w b 58
  have hbA := (Below.refl w.heap.size w).alloc (Nat.le_refl _) (.cells (cel b).toArray 58)
  have HTA := Lib.hid (T.below hbA)
  have HA := Lib.hid hA
  have HBA := Lib.hid hbA
  have HL := Lib.hid (cf b)
  have hE := getE_form (.inl h0)
  have HE := Lib.hid hE
  have HN := Lib.hid (getN_no (l := b.toList) (by omega))
  have HBB := Lib.hid (getB_no (l := b.toList) (by omega))
  have HX : Hid (val 8 (piece b.toList 0 8) = 0) := Lib.hid h0
  clear hE h0
  clear hA hbA T
  go_enter Tryz.func154, Tryz.ntmps154
  go_wp2_with (first | (refine ag rfl (bu rfl rfl) ?_) | fail)
  refine (cut_any w.heap.size _).mono ?_
  rintro e w1 ⟨rfl, hb1⟩
  have HG := Lib.hid (getW_start w w1 b HBA.out HTA.out hb1)
  clear HTA HA HBA hb1
  obtain ⟨g, hg⟩ : ∃ g, w.heap.size = g := ⟨_, rfl⟩
  have HGE := Lib.hid (Nat.le_of_eq hg.symm)
  rw [hg] at HG HB
  rw [hg]
  clear hg
  obtain ⟨c0, c1, c2, c3, c4⟩ := HG.out.par.cells
  go_wp2_with (first | (refine aN rfl (eF g rfl rfl rfl) ?_) | fail)
  clear c0 c1 c2 c3 c4
  generalize w1.heap.size = p at *
  generalize w1.alloc (.cells (dX g) 171) = w2 at *
  obtain ⟨c0, c1, c2, c3, c4⟩ := HG.out.par.cells
  have hr0 := HG.out.row.rd (p := 0) (k := 8) (by rw [HL.out]; omega)
  refine (eh _ 8 8 _ _ _ hr0 (by omega) (by omega)).mono ?_
  rintro e w3 ⟨rfl, rfl⟩
  clear hr0
  rw [HX.out]
  go_wp2_with fail
  refine bodyPost_ret (v := .tuple #[.int .u64 0, .slice none 0 0, .int .i64 5]) (by simp [results, Tryz.results154, go_sem]) rfl ⟨_, by rw [HE.out, HN.out]; rfl, .inl ⟨rfl, HBB.out⟩, by rw [HB.out]; exact HG.out.bel⟩
set_option maxHeartbeats 4000000 in
theorem pget_unlike (b : Blk) (B : Nat) (w : World) (HB : Hid (B = w.heap.size)) (T : Tab w) (h0 : cQ b.toList ≠ 0) (h1 : cQ b.toList ≠ agO b.toList) :
    Calls Tryz.prog 154 #[blk b] w fun e w' => ∃ v, e = .returned (.tuple #[.int .u64 (cq b.toList : Nat), v, .int .i64 (cr b.toList : Nat)]) ∧ Bod w' B v (bW b.toList) ∧ Below B w w' := by
  have hA := bK.blk w b 58
  have hbA := (Below.refl w.heap.size w).alloc (Nat.le_refl _) (.cells (cel b).toArray 58)
  have HTA := Lib.hid (T.below hbA)
  have HA := Lib.hid hA
  have HBA := Lib.hid hbA
  have HL := Lib.hid (cf b)
  have hE := getE_form (.inr h1)
  have HE := Lib.hid hE
  have HN := Lib.hid (getN_no (l := b.toList) (by omega))
  have HBB := Lib.hid (getB_no (l := b.toList) (by omega))
  obtain ⟨x, hx⟩ : ∃ x, cQ b.toList = x := ⟨_, rfl⟩
  obtain ⟨y, hy⟩ : ∃ y, agO b.toList = y := ⟨_, rfl⟩
  rw [hx] at h0 h1
  rw [hy] at h1
  have hz : ((x : Int) == 0) = false := by simp; omega
  have hn : ((x : Int) != (y : Int)) = true := by simp; omega
  have HX : Hid (val 8 (piece b.toList 0 8) = x) := Lib.hid hx
  have HY : Hid (val 8 (piece b.toList 56 8) = y) := Lib.hid hy
  clear hE h0 h1 hx hy
  clear hA hbA T
  go_enter Tryz.func154, Tryz.ntmps154
  go_wp2_with (first | (refine ag rfl (bu rfl rfl) ?_) | fail)
  refine (cut_any w.heap.size _).mono ?_
  rintro e w1 ⟨rfl, hb1⟩
  have HG := Lib.hid (getW_start w w1 b HBA.out HTA.out hb1)
  clear HTA HA HBA hb1
  obtain ⟨g, hg⟩ : ∃ g, w.heap.size = g := ⟨_, rfl⟩
  have HGE := Lib.hid (Nat.le_of_eq hg.symm)
  rw [hg] at HG HB
  rw [hg]
  clear hg
  obtain ⟨c0, c1, c2, c3, c4⟩ := HG.out.par.cells
  go_wp2_with (first | (refine aN rfl (eF g rfl rfl rfl) ?_) | fail)
  clear c0 c1 c2 c3 c4
  generalize w1.heap.size = p at *
  generalize w1.alloc (.cells (dX g) 171) = w2 at *
  obtain ⟨c0, c1, c2, c3, c4⟩ := HG.out.par.cells
  have hr0 := HG.out.row.rd (p := 0) (k := 8) (by rw [HL.out]; omega)
  refine (eh _ 8 8 _ _ _ hr0 (by omega) (by omega)).mono ?_
  rintro e w3 ⟨rfl, rfl⟩
  clear hr0
  rw [HX.out]
  go_wp2_with fail
  have hr3 := HG.out.row.rd (p := 56) (k := 8) (by rw [HL.out]; omega)
  refine (eh _ 8 8 _ _ _ hr3 (by omega) (by omega)).mono ?_
  rintro e w3 ⟨rfl, rfl⟩
  clear hr3
  rw [HY.out]
  go_wp2_with fail
  refine bodyPost_ret (v := .tuple #[.int .u64 0, .slice none 0 0, .int .i64 5]) (by simp [results, Tryz.results154, go_sem]) rfl ⟨_, by rw [HE.out, HN.out]; rfl, .inl ⟨rfl, HBB.out⟩, by rw [HB.out]; exact HG.out.bel⟩
set_option maxHeartbeats 4000000 in
theorem pget_sum (b : Blk) (B : Nat) (w : World) (HB : Hid (B = w.heap.size)) (T : Tab w) (h0 : cQ b.toList ≠ 0) (h1 : cQ b.toList = agO b.toList) (h2 : sumO b.toList ≠ crcO b.toList) :
    Calls Tryz.prog 154 #[blk b] w fun e w' => ∃ v, e = .returned (.tuple #[.int .u64 (cq b.toList : Nat), v, .int .i64 (cr b.toList : Nat)]) ∧ Bod w' B v (bW b.toList) ∧ Below B w w' := by
  have hA := bK.blk w b 58
  have hbA := (Below.refl w.heap.size w).alloc (Nat.le_refl _) (.cells (cel b).toArray 58)
  have HTA := Lib.hid (T.below hbA)
  have HA := Lib.hid hA
  have HBA := Lib.hid hbA
  have HL := Lib.hid (cf b)
  have hE := getE_sum h0 h1 h2
  have HE := Lib.hid hE
  have HN := Lib.hid (getN_no (l := b.toList) (by omega))
  have HBB := Lib.hid (getB_no (l := b.toList) (by omega))
  obtain ⟨x, hx⟩ : ∃ x, cQ b.toList = x := ⟨_, rfl⟩
  rw [hx] at h0
  have HX : Hid (val 8 (piece b.toList 0 8) = x) := Lib.hid hx
  have HY : Hid (val 8 (piece b.toList 56 8) = x) := Lib.hid (by rw [← hx]; exact h1.symm)
  have HS4 := Lib.hid (sumO_lt (cf b))
  have HCL := Lib.hid (crcO_lt b.toList)
  have hz : ((x : Int) == 0) = false := by simp; omega
  have hn : ((x : Int) != (x : Int)) = false := by simp
  have hc : ((sumO b.toList : Nat) : Int) != ((crcO b.toList : Nat) : Int) := by simp; omega
  clear hE h0 h1 hx h2
  clear hA hbA T
  go_enter Tryz.func154, Tryz.ntmps154
  go_wp2_with (first | (refine ag rfl (bu rfl rfl) ?_) | fail)
  refine (cut_any w.heap.size _).mono ?_
  rintro e w1 ⟨rfl, hb1⟩
  have HG := Lib.hid (getW_start w w1 b HBA.out HTA.out hb1)
  clear HTA HA HBA hb1
  obtain ⟨g, hg⟩ : ∃ g, w.heap.size = g := ⟨_, rfl⟩
  have HGE := Lib.hid (Nat.le_of_eq hg.symm)
  rw [hg] at HG HB
  rw [hg]
  clear hg
  obtain ⟨c0, c1, c2, c3, c4⟩ := HG.out.par.cells
  go_wp2_with (first | (refine aN rfl (eF g rfl rfl rfl) ?_) | fail)
  clear c0 c1 c2 c3 c4
  generalize w1.heap.size = p at *
  generalize w1.alloc (.cells (dX g) 171) = w2 at *
  obtain ⟨c0, c1, c2, c3, c4⟩ := HG.out.par.cells
  have hr0 := HG.out.row.rd (p := 0) (k := 8) (by rw [HL.out]; omega)
  refine (eh _ 8 8 _ _ _ hr0 (by omega) (by omega)).mono ?_
  rintro e w3 ⟨rfl, rfl⟩
  clear hr0
  rw [HX.out]
  go_wp2_with fail
  have hr3 := HG.out.row.rd (p := 56) (k := 8) (by rw [HL.out]; omega)
  refine (eh _ 8 8 _ _ _ hr3 (by omega) (by omega)).mono ?_
  rintro e w3 ⟨rfl, rfl⟩
  clear hr3
  rw [HY.out]
  go_wp2_with fail
  clear c0 c1 c2 c3 c4
  have hle : w2.heap.size ≤ w2.heap.size := Nat.le_refl _
  refine aG (B := w2.heap.size) (by kernel_rfl) ?_
  refine ao rfl (fun w' hw => aj rfl (ev rfl) faP2) ?_
  simp only [Act.put, aa, ac, ae]
  refine ao rfl (fun w' hw => aq rfl (ev rfl) (ldS (HG.out.par.below (aD HG.out.par) hw).cells.2.2.1)) ?_
  simp only [Act.put, aa, ac, ae]
  refine bn rfl (fun _ => ap Tryz.call159 rfl (evc (ev rfl) evn)) (bi hle fun w' hw => told_above HG.out.row hw 52 4 (by rw [HL.out]; omega) (by omega) (by omega)) ?_
  simp only [Act.put, aa, ac, ae]
  refine ao rfl (fun w' hw => aj rfl (ev rfl) faP4) ?_
  simp only [Act.put, aa, ac, ae]
  refine ao rfl (fun w' hw => aq rfl (ev rfl) (ldS (HG.out.par.below (aD HG.out.par) hw).cells.2.2.2.2)) ?_
  simp only [Act.put, aa, ac, ae]
  refine bn rfl (fun _ => ap Tryz.call141 rfl (evc (ev rfl) evn)) (bi hle fun w' hw => of_above HG.out.row HG.out.tab hw 0 52 (by rw [HL.out]; omega) (by unfold maxLen; omega)) ?_
  simp only [Act.put, aa, ac, ae]
  refine ao rfl (fun w' hw => exec_cv32 rfl (ev rfl) HCL.out) ?_
  simp only [Act.put, aa, ac, ae]
  refine ao rfl (fun w' hw => exec_neU true rfl (ev rfl) (ev rfl) hc) ?_
  simp only [Act.put, aa, ac, ae]
  refine wpQuiet_nil ?_
  intro w3 hb3
  have HG3 := Lib.hid (HG.out.below hb3 HGE.out)
  clear hb3 HG
  go_wp2_with fail
  refine bodyPost_ret (v := .tuple #[.int .u64 0, .slice none 0 0, .int .i64 6]) (by simp [results, Tryz.results154, go_sem]) rfl ⟨_, by rw [HE.out, HN.out]; rfl, .inl ⟨rfl, HBB.out⟩, by rw [HB.out]; exact HG3.out.bel⟩
set_option maxHeartbeats 4000000 in
theorem pget_ok (b : Blk) (B : Nat) (w : World) (HB : Hid (B = w.heap.size)) (T : Tab w) (h0 : cQ b.toList ≠ 0) (h1 : cQ b.toList = agO b.toList) (h2 : sumO b.toList = crcO b.toList) :
    Calls Tryz.prog 154 #[blk b] w fun e w' => ∃ v, e = .returned (.tuple #[.int .u64 (cq b.toList : Nat), v, .int .i64 (cr b.toList : Nat)]) ∧ Bod w' B v (bW b.toList) ∧ Below B w w' := by
  have hA := bK.blk w b 58
  have hbA := (Below.refl w.heap.size w).alloc (Nat.le_refl _) (.cells (cel b).toArray 58)
  have HTA := Lib.hid (T.below hbA)
  have HA := Lib.hid hA
  have HBA := Lib.hid hbA
  have HL := Lib.hid (cf b)
  have hE := getE_ok h0 h1 h2
  have HE := Lib.hid hE
  have HN := Lib.hid (getN_of hE)
  have HBB := Lib.hid (getB_of hE)
  obtain ⟨x, hx⟩ : ∃ x, cQ b.toList = x := ⟨_, rfl⟩
  rw [hx] at h0
  have HX : Hid (val 8 (piece b.toList 0 8) = x) := Lib.hid hx
  have HY : Hid (val 8 (piece b.toList 56 8) = x) := Lib.hid (by rw [← hx]; exact h1.symm)
  have HS4 := Lib.hid (sumO_lt (cf b))
  have HCL := Lib.hid (crcO_lt b.toList)
  have hz : ((x : Int) == 0) = false := by simp; omega
  have hn : ((x : Int) != (x : Int)) = false := by simp
  have hc : (((sumO b.toList : Nat) : Int) != ((crcO b.toList : Nat) : Int)) = false := by rw [h2]; simp
  have HXX := Lib.hid hx
  clear hE h0 h1 hx h2
  clear hA hbA T
  go_enter Tryz.func154, Tryz.ntmps154
  go_wp2_with (first | (refine ag rfl (bu rfl rfl) ?_) | fail)
  refine (cut_any w.heap.size _).mono ?_
  rintro e w1 ⟨rfl, hb1⟩
  have HG := Lib.hid (getW_start w w1 b HBA.out HTA.out hb1)
  clear HTA HA HBA hb1
  obtain ⟨g, hg⟩ : ∃ g, w.heap.size = g := ⟨_, rfl⟩
  have HGE := Lib.hid (Nat.le_of_eq hg.symm)
  rw [hg] at HG HB
  rw [hg]
  clear hg
  obtain ⟨c0, c1, c2, c3, c4⟩ := HG.out.par.cells
  go_wp2_with (first | (refine aN rfl (eF g rfl rfl rfl) ?_) | fail)
  clear c0 c1 c2 c3 c4
  generalize w1.heap.size = p at *
  generalize w1.alloc (.cells (dX g) 171) = w2 at *
  obtain ⟨c0, c1, c2, c3, c4⟩ := HG.out.par.cells
  have hr0 := HG.out.row.rd (p := 0) (k := 8) (by rw [HL.out]; omega)
  refine (eh _ 8 8 _ _ _ hr0 (by omega) (by omega)).mono ?_
  rintro e w3 ⟨rfl, rfl⟩
  clear hr0
  rw [HX.out]
  go_wp2_with fail
  have hr3 := HG.out.row.rd (p := 56) (k := 8) (by rw [HL.out]; omega)
  refine (eh _ 8 8 _ _ _ hr3 (by omega) (by omega)).mono ?_
  rintro e w3 ⟨rfl, rfl⟩
  clear hr3
  rw [HY.out]
  go_wp2_with fail
  clear c0 c1 c2 c3 c4
  have hle : w2.heap.size ≤ w2.heap.size := Nat.le_refl _
  refine aG (B := w2.heap.size) (by kernel_rfl) ?_
  refine ao rfl (fun w' hw => aj rfl (ev rfl) faP2) ?_
  simp only [Act.put, aa, ac, ae]
  refine ao rfl (fun w' hw => aq rfl (ev rfl) (ldS (HG.out.par.below (aD HG.out.par) hw).cells.2.2.1)) ?_
  simp only [Act.put, aa, ac, ae]
  refine bn rfl (fun _ => ap Tryz.call159 rfl (evc (ev rfl) evn)) (bi hle fun w' hw => told_above HG.out.row hw 52 4 (by rw [HL.out]; omega) (by omega) (by omega)) ?_
  simp only [Act.put, aa, ac, ae]
  refine ao rfl (fun w' hw => aj rfl (ev rfl) faP4) ?_
  simp only [Act.put, aa, ac, ae]
  refine ao rfl (fun w' hw => aq rfl (ev rfl) (ldS (HG.out.par.below (aD HG.out.par) hw).cells.2.2.2.2)) ?_
  simp only [Act.put, aa, ac, ae]
  refine bn rfl (fun _ => ap Tryz.call141 rfl (evc (ev rfl) evn)) (bi hle fun w' hw => of_above HG.out.row HG.out.tab hw 0 52 (by rw [HL.out]; omega) (by unfold maxLen; omega)) ?_
  simp only [Act.put, aa, ac, ae]
  refine ao rfl (fun w' hw => exec_cv32 rfl (ev rfl) HCL.out) ?_
  simp only [Act.put, aa, ac, ae]
  refine ao rfl (fun w' hw => exec_neU false rfl (ev rfl) (ev rfl) hc) ?_
  simp only [Act.put, aa, ac, ae]
  refine wpQuiet_nil ?_
  intro w3 hb3
  have HG3 := Lib.hid (HG.out.below hb3 HGE.out)
  clear hb3 HG
  have HG4 := Lib.hid (HG3.out.below ((Below.refl w3.heap.size w3).alloc (Nat.le_refl _) (.cells row44 5)) HGE.out)
  obtain ⟨c0, c1, c2, c3, c4⟩ := HG4.out.par.cells
  have HNEW : Hid (bK (w3.alloc (.cells row44 5)) w3.heap.size 5 nil44) := Lib.hid (bK.new w3 nil44 _)
  have HSRC := Lib.hid (HG4.out.row.rd (p := 8) (k := 44) (by rw [HL.out]; omega))
  have HPL : Hid ((piece b.toList 8 44).length = 44) := Lib.hid (bJ (by rw [HL.out]; omega))
  have HW3 := Lib.hid (Nat.le_trans HGE.out HG3.out.bel.size)
  clear HG3
  obtain ⟨q, hq⟩ : ∃ q, w3.heap.size = q := ⟨_, rfl⟩
  rw [hq] at HNEW HW3
  have HQ := Lib.hid hq
  generalize hw4 : w3.alloc (.cells row44 5) = w4 at *
  have HM : Hid (∀ w : World, w = w3 → (Instr.makeSlice 100 (.int .i64 44) (.int .i64 44)).run Tryz.prog w = .ok (.slice (some ⟨q, 0, none⟩) 44 44) w4) := Lib.hid (fun w e => by subst e; rw [make44, hq, hw4])
  have hmk := HM.out w3 rfl
  clear hq hw4
  go_wp2_with (with_reducible refine dw rfl _ _ rfl q 0 44 44 44 44 _ _ 5 _ (piece b.toList 8 44) rfl rfl HNEW.out HSRC.out (Nat.le_refl _) ?c1 ?_)
  case c1 => simp [nil44]
  intro w5 hr5 hg5
  rw [splice_44 HPL.out] at hr5
  have HB5 := Lib.hid (HG4.out.bel.grown hg5 (Nat.le_trans HGE.out HG4.out.bel.size) (fun k hk => by injection hk with e; subst e; exact HW3.out))
  have HR5 := Lib.hid hr5
  clear hr5 hg5 c0 c1 c2 c3 c4
  go_wp2_with fail
  refine bodyPost_ret (v := .tuple #[.int .u64 (x : Int), .slice (some ⟨q, 0, none⟩) 44 44, .int .i64 0]) (by simp [results, Tryz.results154, go_sem]) rfl ⟨_, by rw [HE.out, HN.out, HXX.out]; rfl, .inr ⟨q, ?_, ?_, ?_, ?_⟩, ?_⟩
  · rw [HBB.out, HPL.out]
  · rw [HB.out]; exact HW3.out
  · rw [HBB.out]; exact HR5.out
  · rw [HBB.out, HPL.out]; unfold maxLen; omega
  · rw [HB.out]; exact HB5.out
theorem pget_any (b : Blk) (B : Nat) (w : World) (HB : Hid (B = w.heap.size)) (T : Tab w) : Calls Tryz.prog 154 #[blk b] w fun e w' => ∃ v, e = .returned (.tuple #[.int .u64 (cq b.toList : Nat), v, .int .i64 (cr b.toList : Nat)]) ∧ Bod w' B v (bW b.toList) ∧ Below B w w' := by
  by_cases h0 : cQ b.toList = 0
  · exact pget_zero b B w HB T h0
  · by_cases h1 : cQ b.toList = agO b.toList
    · by_cases h2 : sumO b.toList = crcO b.toList
      · exact pget_ok b B w HB T h0 h1 h2
      · exact pget_sum b B w HB T h0 h1 h2
    · exact pget_unlike b B w HB T h0 h1
set_option linter.unusedSimpArgs false
theorem telW_start {w w2 : World} {g p q : Nat} {l : List UInt8} (HR : bK w g 5 l) (hb : Below (w.alloc (.cells (aL a7).toArray 62)).heap.size (w.alloc (.cells (aL a7).toArray 62)) w2)
    (hc : CutAt w2 p q (.slice (some ⟨g, 0, none⟩) 44 44) 0) (hd : w.heap.size + 1 ≤ p ∧ w.heap.size + 1 ≤ q ∧ p ≠ q ∧ p < w2.heap.size ∧ q < w2.heap.size) :
    TelW w.heap.size w ((w2.alloc (.cells #[onwV p q] 167)).alloc (.cells (aL a7).toArray 62)) g l (w2.heap.size + 1) w.heap.size w2.heap.size p q 0 a7 := by
  have e0 := World.size_alloc (w := w) (o := Obj.cells (aL a7).toArray 62)
  have e1 := World.size_alloc (w := w2) (o := Obj.cells #[onwV p q] 167)
  have h1 := aD HR
  have h3 := hb.size
  rw [e0] at h3
  have hro := bx.new (w2.alloc (.cells #[onwV p q] 167)) a7
  rw [e1] at hro
  have hb1 := (Below.refl w.heap.size w).alloc (Nat.le_refl _) (.cells (aL a7).toArray 62)
  have hb2 : Below w.heap.size w w2 := hb1.trans (hb.mono hb1.size)
  refine ⟨((HR.past _).below (by rw [e0]; omega) hb).past _ |>.past _, hro, bk (bk (am (heap_alloc_new w _) hb) _) _, bk (heap_alloc_new w2 _) _, ⟨bk (bk hc.1 _) _, bk (bk hc.2 _) _⟩, (hb2.alloc (by omega) _).alloc (by rw [e1]; omega) _, ?_, ?_, ?_⟩
  · omega
  · omega
  · refine ⟨?_, ?_, ?_, ?_, ?_, ?_, ?_, ?_, ?_, ?_⟩ <;> omega
set_option maxHeartbeats 4000000 in
theorem ptold (g : Nat) (l : List UInt8) (w : World) (hl : l.length = 44) (hr : bK w g 5 l) : Calls Tryz.prog 155 #[.slice (some ⟨g, 0, none⟩) 44 44] w fun e w' => e = .returned (sup (bm l)) ∧ Below w.heap.size w w' := by
  have hmf : ∀ (fn : Fn) (first cap : Array Value) (w : World), (Instr.makeFunc fn first cap).run Tryz.prog w = .ok (.func fn first cap) w := fun _ _ _ _ => rfl
  have HL := Lib.hid hl
  have HR := Lib.hid hr
  obtain ⟨I, hI⟩ : ∃ I : Nat, val 8 (piece l 0 8) = I := ⟨_, rfl⟩
  obtain ⟨M, hM⟩ : ∃ M : Nat, val 8 (piece l 8 1) = M := ⟨_, rfl⟩
  have bM : M < 256 := by rw [← hM]; exact ci (b := l) (p := 8) (k := 1) (by omega)
  obtain ⟨T, hT⟩ : ∃ T : Nat, val 8 (piece l 9 2) = T := ⟨_, rfl⟩
  have bT : T < 65536 := by rw [← hT]; exact ci (b := l) (p := 9) (k := 2) (by omega)
  obtain ⟨R, hR⟩ : ∃ R : Nat, val 8 (piece l 11 2) = R := ⟨_, rfl⟩
  have bR : R < 65536 := by rw [← hR]; exact ci (b := l) (p := 11) (k := 2) (by omega)
  obtain ⟨E, hE⟩ : ∃ E : Nat, val 8 (piece l 13 1) = E := ⟨_, rfl⟩
  have bE : E < 256 := by rw [← hE]; exact ci (b := l) (p := 13) (k := 1) (by omega)
  obtain ⟨C, hC⟩ : ∃ C : Nat, val 8 (piece l 18 2) = C := ⟨_, rfl⟩
  have bC : C < 65536 := by rw [← hC]; exact ci (b := l) (p := 18) (k := 2) (by omega)
  obtain ⟨G, hG⟩ : ∃ G : Nat, val 8 (piece l 20 1) = G := ⟨_, rfl⟩
  have bG : G < 256 := by rw [← hG]; exact ci (b := l) (p := 20) (k := 1) (by omega)
  obtain ⟨gb, hgb⟩ : ∃ gb, decide (G = 1) = gb := ⟨_, rfl⟩
  have hgg : ((G : Int) == 1) = gb := by rw [← hgb, Bool.eq_iff_iff]; simp; omega
  obtain ⟨st, hst⟩ : ∃ st, aC 2 16 (val 8 (piece l 14 4)) = st := ⟨_, rfl⟩
  have HST := Lib.hid hst
  have HSL : Hid (st.length = 16) := Lib.hid (by rw [← hst, ar])
  have HDEF : Hid (bm l = ⟨I, (E : Nat), ⟨(M : Nat), (T : Nat), (R : Nat), ofSt st, (C : Nat), gb⟩⟩) := Lib.hid (by unfold bm; rw [hI, hM, hT, hR, hE, hC, hG, hgb, hst])
  have HII := Lib.hid hI
  have HMM := Lib.hid hM
  have HTT := Lib.hid hT
  have HRR := Lib.hid hR
  have HEE := Lib.hid hE
  have HCC := Lib.hid hC
  have HGG2 := Lib.hid hG
  have HGG := Lib.hid hgg
  clear hI hM hT hR hE hC hG hgb hst hl hr hgg
  go_enter Tryz.func155, Tryz.ntmps155
  go_wp2_with (first | (refine af rfl (aX rfl) ?_) | fail)
  refine (onward_any (.slice (some ⟨g, 0, none⟩) 44 44) _ 44 44 rfl _).mono ?_
  rintro e w2 ⟨p, q, rfl, hc, hp0, hq0, hpq, hp1, hq1, hb⟩
  have HW0 := Lib.hid (telW_start HR.out hb hc (by rw [World.size_alloc] at hp0 hq0; exact ⟨hp0, hq0, hpq, hp1, hq1⟩))
  clear hb hc hp0 hq0 hpq hp1 hq1 HR
  unfold onwV at HW0 ⊢
  go_upto_region 5 with (first | (refine af rfl (aX rfl) ?_) | fail)
  try simp only [World.size_alloc]
  generalize ((w2.alloc (.cells #[Value.func (.func 146) #[] #[.pointer (some ⟨p, 0, none⟩), .pointer (some ⟨q, 0, none⟩)]] 167)).alloc (.cells (aL a7).toArray 62)) = w3 at *
  try simp only [World.size_alloc]
  generalize w2.heap.size = nb at *
  obtain ⟨B, hBdef⟩ : ∃ B, w.heap.size = B := ⟨_, rfl⟩
  have HBD := Lib.hid hBdef
  rw [hBdef] at HW0 ⊢
  clear hBdef
  have HSN : Hid (nb + 1 ≠ nb) := Lib.hid (by omega)
  obtain ⟨s, hs⟩ : ∃ s, nb + 1 = s := ⟨_, rfl⟩
  rw [hs] at HW0 ⊢
  clear hs
  have HB0 : Hid (B ≤ w.heap.size) := Lib.hid (Nat.le_of_eq HBD.out.symm)
  go_wp2_with fail
  refine (tell1 B w _ g l s B nb p q 0 8 _ HW0.out HB0.out HL.out (by omega) (by omega) (by omega)).mono ?_
  rintro e w4 ⟨rfl, hW⟩
  rw [HII.out]
  have HV0 := Lib.hid hW
  have cc := HV0.out.sup.cells.1
  have ff := HV0.out.sup.free 0
  clear hW
  have HW1 : Hid (TelW B w (w4.setCell ⟨s, 0, none⟩ (.int .u64 (I : Nat))) g l s B nb p q 8 ⟨I, 0, ⟨0, 0, 0, aZ.st, 0, false⟩⟩) := Lib.hid (HV0.out.set 0 _ (setS_id _ _) HB0.out)
  clear HV0
  go_wp2_with fail
  refine (tell1 B w _ g l s B nb p q 8 1 _ HW1.out HB0.out HL.out (by omega) (by omega) (by omega)).mono ?_
  rintro e w5 ⟨rfl, hW⟩
  rw [HMM.out]
  have HV1 := Lib.hid hW
  have cc := HV1.out.sup.cells.2.2.1
  have ff := HV1.out.sup.free 2
  clear hW HW1
  have HW2 : Hid (TelW B w (w5.setCell ⟨s, 2, none⟩ (.int .i64 (M : Nat))) g l s B nb p q 9 ⟨I, 0, ⟨(M : Nat), 0, 0, aZ.st, 0, false⟩⟩) := Lib.hid (HV1.out.set 2 _ (setS_m _ _) HB0.out)
  clear HV1
  go_wp2_with fail
  refine (tell1 B w _ g l s B nb p q 9 2 _ HW2.out HB0.out HL.out (by omega) (by omega) (by omega)).mono ?_
  rintro e w6 ⟨rfl, hW⟩
  rw [HTT.out]
  have HV2 := Lib.hid hW
  have cc := HV2.out.sup.cells.2.2.2.1
  have ff := HV2.out.sup.free 3
  clear hW HW2
  have HW3 : Hid (TelW B w (w6.setCell ⟨s, 3, none⟩ (.int .i64 (T : Nat))) g l s B nb p q 11 ⟨I, 0, ⟨(M : Nat), (T : Nat), 0, aZ.st, 0, false⟩⟩) := Lib.hid (HV2.out.set 3 _ (setS_s _ _) HB0.out)
  clear HV2
  go_wp2_with fail
  refine (tell1 B w _ g l s B nb p q 11 2 _ HW3.out HB0.out HL.out (by omega) (by omega) (by omega)).mono ?_
  rintro e w7 ⟨rfl, hW⟩
  rw [HRR.out]
  have HV3 := Lib.hid hW
  have cc := HV3.out.sup.cells.2.2.2.2.1
  have ff := HV3.out.sup.free 4
  clear hW HW3
  have HW4 : Hid (TelW B w (w7.setCell ⟨s, 4, none⟩ (.int .i64 (R : Nat))) g l s B nb p q 13 ⟨I, 0, ⟨(M : Nat), (T : Nat), (R : Nat), aZ.st, 0, false⟩⟩) := Lib.hid (HV3.out.set 4 _ (setS_r _ _) HB0.out)
  clear HV3
  go_wp2_with fail
  refine (tell1 B w _ g l s B nb p q 13 1 _ HW4.out HB0.out HL.out (by omega) (by omega) (by omega)).mono ?_
  rintro e w8 ⟨rfl, hW⟩
  rw [HEE.out]
  have HV4 := Lib.hid hW
  have cc := HV4.out.sup.cells.2.1
  have ff := HV4.out.sup.free 1
  clear hW HW4
  have HW5 : Hid (TelW B w (w8.setCell ⟨s, 1, none⟩ (.int .i64 (E : Nat))) g l s B nb p q 14 ⟨I, (E : Nat), ⟨(M : Nat), (T : Nat), (R : Nat), aZ.st, 0, false⟩⟩) := Lib.hid (HV4.out.set 1 _ (setS_self _ _) HB0.out)
  clear HV4
  have n0 := (cell1 HW5.out.nxt).1
  unfold onwV at n0
  go_wp2_with fail
  refine (onw1 p q g 0 44 44 14 4 _ HW5.out.cut HW5.out.dif.2.2.2.2.1 (by omega) (by omega) (Nat.le_refl _) (by omega)).mono ?_
  rintro e w9 ⟨rfl, hc, hg⟩
  have HV5 := Lib.hid (HW5.out.step hc hg HB0.out)
  clear hc hg n0 HW5 cc ff
  have HRD := Lib.hid (HV5.out.row.rd (p := 14) (k := 4) (by rw [HL.out]; omega))
  go_wp2_with fail
  refine (unbits_ok _ 4 4 _ 2 16 _ (piece l 14 4) w9 (Lib.hid rfl) HRD.out (Nat.le_refl _) (by omega) (by omega) (by omega) (by omega) (by decide)).mono ?_
  rintro e w10 ⟨v, rfl, hv, hb⟩
  rw [HST.out] at hv
  have hvm := hv.made
  obtain ⟨A, c, rfl, hrd, _, _⟩ := hvm.open_ HSL.out
  have HV6 := Lib.hid (HV5.out.keep hb HB0.out)
  have HRD2 := Lib.hid hrd
  clear hv hvm hrd hb HRD HV5
  go_wp2_with (first | (refine af rfl (dZ rfl rfl) ?_) | (refine wpList_copyC rfl _ _ rfl s 5 16 16 c _ A 62 (aL _) st rfl rfl HV6.out.sup HRD2.out (by omega) ?_ ?_) | fail)
  · rw [ax]; omega
  intro w11 hs11 hg11
  rw [splS_st _ HSL.out] at hs11
  have HW6 : Hid (TelW B w w11 g l s B nb p q 18 ⟨I, (E : Nat), ⟨(M : Nat), (T : Nat), (R : Nat), ofSt st, 0, false⟩⟩) := Lib.hid (HV6.out.put hs11 hg11 HB0.out)
  clear hs11 hg11 HV6 HRD2
  go_wp2_with fail
  refine (tell1 B w _ g l s B nb p q 18 2 _ HW6.out HB0.out HL.out (by omega) (by omega) (by omega)).mono ?_
  rintro e w12 ⟨rfl, hW⟩
  rw [HCC.out]
  have HV6 := Lib.hid hW
  have cc := HV6.out.sup.cells.2.2.2.2.2.1
  have ff := HV6.out.sup.free 21
  clear hW HW6
  have HW7 : Hid (TelW B w (w12.setCell ⟨s, 21, none⟩ (.int .i64 (C : Nat))) g l s B nb p q 20 ⟨I, (E : Nat), ⟨(M : Nat), (T : Nat), (R : Nat), ofSt st, (C : Nat), false⟩⟩) := Lib.hid (HV6.out.set 21 _ (setS_cur _ _) HB0.out)
  clear HV6
  go_wp2_with fail
  refine (tell1 B w _ g l s B nb p q 20 1 _ HW7.out HB0.out HL.out (by omega) (by omega) (by omega)).mono ?_
  rintro e w13 ⟨rfl, hW⟩
  rw [HGG2.out]
  have HV7 := Lib.hid hW
  clear hW HW7 cc ff
  have cc := HV7.out.sup.cells.2.2.2.2.2.2
  have ff := HV7.out.sup.free 22
  have HW8 : Hid (TelW B w (w13.setCell ⟨s, 22, none⟩ (.bool gb)) g l s B nb p q 21 ⟨I, (E : Nat), ⟨(M : Nat), (T : Nat), (R : Nat), ofSt st, (C : Nat), gb⟩⟩) := Lib.hid (HV7.out.set 22 _ (setS_gone _ _) HB0.out)
  rw [← HDEF.out] at HW8
  have hgg := HGG.out
  clear HV7
  have HLS := Lib.hid HW8.out.sup.range
  have HTH := Lib.hid (ch (o := 0) (n := 23) HW8.out.res (by rw [ax]; exact Nat.le_refl _))
  have HBB := Lib.hid HW8.out.bel
  go_upto_region 14 with fail
  generalize w13.setCell ⟨s, 22, none⟩ (.bool gb) = w14 at *
  clear cc ff
  go_wp2_with (first | (refine af rfl (bw (c := bm l) rfl rfl ?_) ?_; (with_reducible exact HLS.out)) | (refine av rfl (bP rfl rfl rfl ?_) ?_; (with_reducible exact HTH.out)) | fail)
  refine bodyPost_ret (res_rng (t := 62) (cs := aL (bm l)) rfl _ _ B rfl ?h1 Tryz.underlying62 rfl ?h2) rfl ⟨rfl, ?h3⟩
  case h1 => exact World.rangeAt_setCells_same _ _ _ _ (by rw [ax]; exact HTH.out)
  case h2 => rw [ax]; exact dA
  case h3 => rw [HBD.out]; exact below_setCells HBB.out (Nat.le_refl _) _
theorem exec_fill44 {ρ : Operand → Value} {o : Oper} {x y : Operand} {w : World} {l : List UInt8} (hl : l.length = 44) (ho : o.op = .store 161 x y) (hx : ρ x = .pointer (some ⟨w.heap.size, 0, none⟩)) (hy : ρ y = arr l) :
    (execOp ρ o).run Tryz.prog (w.alloc (.cells (vals z44).toArray 161)) = .ok .skip (w.alloc (.cells (vals l).toArray 161)) :=
  eE (by rw [aT, hl]; exact size44) (by rw [aT, aT, hl, z44_length]) (vals_one l) ho hx hy
theorem pevent_b (n : Nat) (w : World) {b : Bool} (h : evB n = b) : Calls Tryz.prog 127 #[.int .u64 n] w fun e w' => e = .returned (.bool b) ∧ Below w.heap.size w w' := by
  subst h
  exact (pevent n w).mono fun e w' ⟨he, hw⟩ => ⟨he, hw ▸ Below.refl _ _⟩
theorem psmay_b (x : Sup) (w : World) {b : Bool} (h : supB x = b) : Calls Tryz.prog 128 #[sup x] w fun e w' => e = .returned (.bool b) ∧ Below w.heap.size w w' := by
  subst h
  exact psmay x w
set_option maxHeartbeats 1000000 in
theorem psput (n : Nat) (x : Sup) (w : World) (T : Tab w) (hn : n < 18446744073709551616) (hid : x.id < 18446744073709551616) :
    Calls Tryz.prog 115 #[.int .u64 n, sup x] w fun e w' => e = .returned (.tuple #[blk (sputB n x), .int .i64 (sputE n x : Nat)]) ∧ Below w.heap.size w w' := by
  obtain ⟨h1, h2, h3⟩ := boxS_new w x
  have HS := Lib.hid (h1.past (.cells (cel au).toArray 58))
  have HB := Lib.hid (h2.alloc h2.size (.cells (cel au).toArray 58))
  have HT := Lib.hid T
  have HN := Lib.hid hn
  have HI := Lib.hid hid
  have HR : Hid (((w.alloc (.cells (aL x).toArray 62)).alloc (.cells (cel au).toArray 58)).there (w.heap.size + 1) 0 64) := Lib.hid (by
    have := dj (w.alloc (.cells (aL x).toArray 62)) au 58
    rwa [World.size_alloc] at this)
  have HZ : Hid (w.heap.size + 1 < ((w.alloc (.cells (aL x).toArray 62)).alloc (.cells (cel au).toArray 58)).heap.size) := Lib.hid (by simp only [World.size_alloc]; omega)
  clear h1 h2 h3 T hn hid
  go_enter Tryz.func115, Tryz.ntmps115
  go_wp2_with (first | (refine af rfl (dI rfl rfl) ?_) | (refine af rfl (aQ rfl) ?_) | fail)
  try simp only [World.size_alloc]
  generalize (w.alloc (.cells (aL x).toArray 62)).alloc (.cells (cel au).toArray 58) = w1 at *
  refine (pevent n w1).mono ?_
  rintro e w' ⟨rfl, rfl⟩
  by_cases hev : evB n = true
  · rw [hev]
    have HEV := Lib.hid hev
    clear hev
    go_wp2_with (first | (refine ag (by rfl) (bw (c := x) rfl rfl ?_) ?_; (with_reducible exact HS.out.range)) | fail)
    refine (psmay x w1).mono ?_
    rintro e w2 ⟨rfl, hb⟩
    have HS2 := Lib.hid (HS.out.below (aD HS.out) hb)
    have HB2 := Lib.hid (HB.out.trans (hb.mono HB.out.size))
    have HR2 := Lib.hid (aI HR.out HZ.out hb)
    have HZ2 : Hid (w.heap.size + 1 < w2.heap.size) := Lib.hid (by have := hb.size; have := HZ.out; omega)
    clear hb HS HB HR HZ
    by_cases hm : supB x = true
    · rw [hm]
      have HM := Lib.hid hm
      clear hm
      go_wp2_with (first | (refine af rfl (bw (c := x) rfl rfl ?_) ?_; (with_reducible exact HS2.out.range)) | fail)
      refine (plaid x w2 HI.out HM.out).mono ?_
      rintro e w3 ⟨rfl, hb⟩
      have hb3 := HB2.out.trans (hb.mono HB2.out.size)
      have HB3 := Lib.hid (hb3.alloc hb3.size (.cells (vals (bO x)).toArray 161))
      have HR3 := Lib.hid (aI HR2.out HZ2.out (hb.alloc hb.size (.cells (vals (bO x)).toArray 161)))
      have hrd := (bK.new w3 (bO x) 161).rd (p := 0) (k := 44) (by rw [cv]; omega)
      rw [dW (cv x)] at hrd
      have HRD := Lib.hid hrd
      have HFL := Lib.hid (cv x)
      have HZ3 : Hid (w.heap.size + 1 < (w3.alloc (.cells (vals (bO x)).toArray 161)).heap.size) := Lib.hid (by have := hb.size; have := HZ2.out; simp only [World.size_alloc]; omega)
      clear hb hb3 hrd HS2 HB2 HR2 HZ2
      go_wp2_with (first | (refine af rfl (exec_alloc44 rfl) ?_) | (refine av rfl (exec_fill44 (l := bO x) HFL.out rfl rfl rfl) ?_) | (refine af rfl (exec_all44 rfl rfl) ?_) | fail)
      generalize hw4 : w3.alloc (.cells (vals (bO x)).toArray 161) = w4 at *
      refine (put_all n 44 44 _ _ (bO x) w4 (HT.out.below HB3.out) HN.out HRD.out (Nat.le_refl _) (by unfold maxLen; omega)).mono ?_
      rintro e w5 ⟨rfl, hb⟩
      rw [putB_full, putE_full, dS x HEV.out]
      have HR5 := Lib.hid (aI HR3.out HZ3.out hb)
      have HB5 := Lib.hid (HB3.out.trans (hb.mono HB3.out.size))
      have HPB := Lib.hid (sputB_ok HEV.out HM.out)
      have HPE := Lib.hid (sputE_ok HEV.out HM.out)
      clear hb hw4 HRD HR3 HZ3 HB3
      generalize cX n (ct x) = pb at *
      go_wp2_with (first | (refine av rfl (bj (c := pb) rfl rfl rfl ?_) ?_; (with_reducible exact HR5.out)) | fail)
      refine bodyPost_ret (bQ rfl _ _ _ rfl (World.rangeAt_setCells_same _ _ _ _ (by rw [az]; exact HR5.out))) rfl ⟨by rw [HPB.out, HPE.out]; rfl, below_setCells HB5.out (Nat.le_succ _) _⟩
    · have hm' : supB x = false := by simpa using hm
      have HPB := Lib.hid (sputB_no (n := n) (x := x) (fun h => hm h.2))
      have HPE := Lib.hid (sputE_no (n := n) (x := x) (fun h => hm h.2))
      rw [hm']
      clear hm hm'
      go_wp2_with (first | (refine af rfl (cn (c := au) (parts := []) rfl rfl) ?_) | (refine av rfl (bj (c := au) rfl rfl rfl ?_) ?_; (with_reducible exact HR2.out)) | fail)
      refine bodyPost_ret (bQ rfl _ _ _ rfl (World.rangeAt_setCells_same _ _ _ _ (by rw [az]; exact HR2.out))) rfl ⟨by rw [HPB.out, HPE.out]; rfl, below_setCells HB2.out (Nat.le_succ _) _⟩
  · have hev' : evB n = false := by simpa using hev
    have HPB := Lib.hid (sputB_no (n := n) (x := x) (fun h => hev h.1))
    have HPE := Lib.hid (sputE_no (n := n) (x := x) (fun h => hev h.1))
    rw [hev']
    clear hev hev'
    go_wp2_with (first | (refine af rfl (cn (c := au) (parts := []) rfl rfl) ?_) | (refine av rfl (bj (c := au) rfl rfl rfl ?_) ?_; (with_reducible exact HR.out)) | fail)
    refine bodyPost_ret (bQ rfl _ _ _ rfl (World.rangeAt_setCells_same _ _ _ _ (by rw [az]; exact HR.out))) rfl ⟨by rw [HPB.out, HPE.out]; rfl, below_setCells HB.out (Nat.le_succ _) _⟩
section
variable {P : Program} {ops : Array Oper} {C : World → Prop} {Q : Act → Prop} {a : Act} {o : Oper} {rest l : List Oper} {v : Value}
theorem wpQuiet_unw : ∀ (rs : List Oper) (a : Act), unw ops rs a = true → wpQuiet P ops C Q rest (aY rs a) → wpQuiet P ops C Q (rs ++ rest) a
  | [], _, _, h => h
  | r :: rs, a, hu, h => by
    simp only [unw, Bool.and_eq_true, Bool.not_eq_true'] at hu
    exact qv_skip hu.1 (wpQuiet_unw rs _ hu.2 h)
theorem eu (n : Nat) (hw : Region.wanted o (yielded ops a.tmps) = true) (h : ∀ w, C w → (execOp a.eval o).run P w = .ok (.value v) w) (hu : unw ops (l.take n) (a.put o.dst v) = true) (hr : wpQuiet P ops C Q (l.drop n) (aY (l.take n) (a.put o.dst v))) : wpQuiet P ops C Q (o :: l) a :=
  ao hw h (by have := wpQuiet_unw (P := P) (C := C) (Q := Q) (l.take n) _ hu hr; rwa [List.take_append_drop] at this)
end
end Go.Proofs.YtnliphgjcaippaaGreatDoor
