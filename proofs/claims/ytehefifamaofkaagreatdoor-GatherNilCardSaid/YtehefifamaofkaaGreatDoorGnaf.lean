import Derived.Test.YtehefifamaofkaaGreatDoorGnae
namespace Go.Proofs.YtehefifamaofkaaGreatDoor
set_option maxHeartbeats 8000000
open Go.Proofs.Tryz
open Go.RowKit
set_option linter.unusedVariables false
set_option maxRecDepth 100000
def Bod (w : World) (B : Nat) (v : Value) (l : List UInt8) : Prop := (v = .slice none 0 0 /\ l = []) \/ ∃ g, v = .slice (some ⟨g, 0, none⟩) l.length l.length /\ B <= g /\ cg w g 5 l /\ l.length <= maxLen
structure wg (B : Nat) (w w' : World) (g p : Nat) (l : List UInt8) : Prop where
 row : cg w' g 29 l
 par : PartsAt w' p g
 bel : Below B w w'
 tab : Tab w'
theorem wg.below {B : Nat} {w w1 w2 : World} {g p : Nat} {l : List UInt8} (h : wg B w w1 g p l) (hb : Below w1.heap.size w1 w2) (hB : B <= w.heap.size) : wg B w w2 g p l :=
 ⟨h.row.below h.row.lt hb, h.par.below (aX h.par) hb, h.bel.trans (hb.mono (ap hB h.bel.size)), h.tab.below hb⟩
theorem gi (w w1 : World) (b : Blk) (hbA : Below w.heap.size w (w.alloc (.cells (cel b).toArray 29))) (hT : Tab (w.alloc (.cells (cel b).toArray 29))) (hb : Below (w.alloc (.cells (cel b).toArray 29)).heap.size (w.alloc (.cells (cel b).toArray 29)) w1) :
  wg w.heap.size w (w1.alloc (.cells (eE w.heap.size) 171)) w.heap.size w1.heap.size b.toList := by
 have hs := hb.size;simp only [World.size_alloc] at hs;have hr : cg w1 w.heap.size 29 b.toList := (cg.blk w b 29).below (by simp only [World.size_alloc]; omega) hb;have hbel : Below w.heap.size w w1 := hbA.trans (hb.mono (by simp only [World.size_alloc]; omega));exact ⟨hr.past _, heap_alloc_new w1 _, hbel.alloc (by omega) _, (hT.below hb).below (aj.alloc ai _)⟩
theorem kK {W w' : World} {g : Nat} {t : TypeId} {l : List UInt8} (h : cg W g t l) (hb : Below W.heap.size W w') (off k : Nat) (hk : off + k <= l.length) (h1 : 1 <= k) (h8 : k <= 8) :
  Calls prog 135 #[.slice (some ⟨g, off, none⟩) k k] w' fun e w'' => e = .returned (.int .u64 (val 8 (piece l off k) : Nat)) /\ Below w'.heap.size w' w'' :=
 (eP _ k k _ _ w' ((h.below h.lt hb).rd hk) h1 h8).mono fun e w'' ⟨he, hw⟩ => ⟨he, by subst hw; exact aj⟩
theorem od {W w' : World} {g : Nat} {t : TypeId} {l : List UInt8} (h : cg W g t l) (T : Tab W) (hb : Below W.heap.size W w') (off k : Nat) (hk : off + k <= l.length) (hm : k <= maxLen) :
  Calls prog 133 #[.slice (some ⟨g, off, none⟩) k k] w' fun e w'' => e = .returned (.int .u32 (more 0 (piece l off k) : Nat)) /\ Below w'.heap.size w' w'' :=
 (t8 _ k k _ _ w' (T.below hb) ((h.below h.lt hb).rd hk) hm).mono fun e w'' ⟨he, hw⟩ => ⟨he, by subst hw; exact aj⟩
theorem oH {ρ : Operand -> Value} {o : Oper} {x y : Operand} {w : World} {t r : TypeId} {a b : Nat} (c : Bool) (ho : o.op = .binOp .neq t x y r) (hx : ρ x = .int .u64 (a : Int)) (hy : ρ y = .int .u64 (b : Int)) (h : ((a : Int) != (b : Int)) = c) : (execOp ρ o).run prog w = .ok (.value (.bool c)) w := aT c ho hx hy h
theorem qN (l : List UInt8) (n : Nat) (h : l.length = n) : splice (List.replicate n 0) 0 l = l := by
 subst h;simp [splice]
def rC : List UInt8 := List.replicate 44 0
theorem sn {l : List UInt8} (h : l.length = 44) : splice rC 0 l = l := qN l 44 h
def rH : Array Value := (vals (List.replicate 44 0)).toArray
theorem zk (w : World) : (Instr.makeSlice 116 (.int .i64 44) (.int .i64 44)).run prog w = .ok (.slice (some ⟨w.heap.size, 0, none⟩) 44 44) (w.alloc (.cells rH 5)) := by kernel_rfl
theorem tk (b : Blk) (B : Nat) (w : World) (HB : Hid (B = w.heap.size)) (T : Tab w) (h0 : dZ b.toList = 0) :
  Calls prog 124 #[blk b] w fun e w' => ∃ v, e = .returned (.tuple #[.int .u64 (dy b.toList : Nat), v, .int .i64 (cZ b.toList : Nat)]) /\ Bod w' B v (cJ b.toList) /\ Below B w w' := by
 have hA := cg.blk w b 29;have hbA := (Below.refl w.heap.size w).alloc ai (.cells (cel b).toArray 29);have HTA := ae (T.below hbA);have HA := ae hA;have HBA := ae hbA;have HL := ae (eH b);have hE := jy (.inl h0);have HE := ae hE;have HN := ae (ky (l := b.toList) (by omega));have HBB := ae (ni (l := b.toList) (by omega));have HX : Hid (val 8 (piece b.toList 0 8) = 0) := ae h0;clear hE h0;clear hA hbA T;go_enter func124, ntmps124;go_wp2_with (first | (refine av rfl (bV rfl rfl) ?_) | fail);refine (i8 w.heap.size _).mono ?_;rintro e w1 ⟨rfl, hb1⟩;have HG := ae (gi w w1 b HBA HTA hb1);clear HTA HA HBA hb1;obtain ⟨g, hg⟩ : ∃ g, w.heap.size = g := ⟨_, rfl⟩;have HGE := ae (Nat.le_of_eq hg.symm);rw [hg] at HG HB;rw [hg];clear hg;obtain ⟨c0, c1, c2, c3, c4⟩ := HG.out.par.cells;go_wp2_with (first | (refine a9 rfl (fv g rfl rfl rfl) ?_) | fail);clear c0 c1 c2 c3 c4;generalize w1.heap.size = p at *;generalize w1.alloc (.cells (eE g) 171) = w2 at *;obtain ⟨c0, c1, c2, c3, c4⟩ := HG.out.par.cells;have hr0 := HG.out.row.rd (p := 0) (k := 8) (by rw [HL.out]; omega);refine (eP _ 8 8 _ _ _ hr0 (by omega) (by omega)).mono ?_;rintro e w3 ⟨rfl, rfl⟩;clear hr0;rw [HX.out];go_wp2_with fail;refine bodyPost_ret (v := .tuple #[.int .u64 0, .slice none 0 0, .int .i64 5]) (by simp [results, Tryz.results124, go_sem]) rfl ⟨_, by rw [HE.out, HN.out]; rfl, .inl ⟨rfl, HBB⟩, by rw [HB.out]; exact HG.out.bel⟩
theorem ol (b : Blk) (B : Nat) (w : World) (HB : Hid (B = w.heap.size)) (T : Tab w) (h0 : dZ b.toList ≠ 0) (h1 : dZ b.toList ≠ agO b.toList) :
  Calls prog 124 #[blk b] w fun e w' => ∃ v, e = .returned (.tuple #[.int .u64 (dy b.toList : Nat), v, .int .i64 (cZ b.toList : Nat)]) /\ Bod w' B v (cJ b.toList) /\ Below B w w' := by
 have hA := cg.blk w b 29;have hbA := (Below.refl w.heap.size w).alloc ai (.cells (cel b).toArray 29);have HTA := ae (T.below hbA);have HA := ae hA;have HBA := ae hbA;have HL := ae (eH b);have hE := jy (.inr h1);have HE := ae hE;have HN := ae (ky (l := b.toList) (by omega));have HBB := ae (ni (l := b.toList) (by omega));obtain ⟨x, hx⟩ : ∃ x, dZ b.toList = x := ⟨_, rfl⟩;obtain ⟨y, hy⟩ : ∃ y, agO b.toList = y := ⟨_, rfl⟩;rw [hx] at h0 h1;rw [hy] at h1;have hz : ((x : Int) == 0) = false := by simp; omega
 have hn : ((x : Int) != (y : Int)) = true := by simp; omega
 have HX : Hid (val 8 (piece b.toList 0 8) = x) := ae hx;have HY : Hid (val 8 (piece b.toList 56 8) = y) := ae hy;clear hE h0 h1 hx hy;clear hA hbA T;go_enter func124, ntmps124;go_wp2_with (first | (refine av rfl (bV rfl rfl) ?_) | fail);refine (i8 w.heap.size _).mono ?_;rintro e w1 ⟨rfl, hb1⟩;have HG := ae (gi w w1 b HBA HTA hb1);clear HTA HA HBA hb1;obtain ⟨g, hg⟩ : ∃ g, w.heap.size = g := ⟨_, rfl⟩;have HGE := ae (Nat.le_of_eq hg.symm);rw [hg] at HG HB;rw [hg];clear hg;obtain ⟨c0, c1, c2, c3, c4⟩ := HG.out.par.cells;go_wp2_with (first | (refine a9 rfl (fv g rfl rfl rfl) ?_) | fail);clear c0 c1 c2 c3 c4;generalize w1.heap.size = p at *;generalize w1.alloc (.cells (eE g) 171) = w2 at *;obtain ⟨c0, c1, c2, c3, c4⟩ := HG.out.par.cells;have hr0 := HG.out.row.rd (p := 0) (k := 8) (by rw [HL.out]; omega);refine (eP _ 8 8 _ _ _ hr0 (by omega) (by omega)).mono ?_;rintro e w3 ⟨rfl, rfl⟩;clear hr0;rw [HX.out];go_wp2_with fail;have hr3 := HG.out.row.rd (p := 56) (k := 8) (by rw [HL.out]; omega);refine (eP _ 8 8 _ _ _ hr3 (by omega) (by omega)).mono ?_;rintro e w3 ⟨rfl, rfl⟩;clear hr3;rw [HY.out];go_wp2_with fail;refine bodyPost_ret (v := .tuple #[.int .u64 0, .slice none 0 0, .int .i64 5]) (by simp [results, Tryz.results124, go_sem]) rfl ⟨_, by rw [HE.out, HN.out]; rfl, .inl ⟨rfl, HBB⟩, by rw [HB.out]; exact HG.out.bel⟩
theorem uV (b : Blk) (B : Nat) (w : World) (HB : Hid (B = w.heap.size)) (T : Tab w) (h0 : dZ b.toList ≠ 0) (h1 : dZ b.toList = agO b.toList) (h2 : lp b.toList ≠ lh b.toList) :
  Calls prog 124 #[blk b] w fun e w' => ∃ v, e = .returned (.tuple #[.int .u64 (dy b.toList : Nat), v, .int .i64 (cZ b.toList : Nat)]) /\ Bod w' B v (cJ b.toList) /\ Below B w w' := by
 have hA := cg.blk w b 29;have hbA := (Below.refl w.heap.size w).alloc ai (.cells (cel b).toArray 29);have HTA := ae (T.below hbA);have HA := ae hA;have HBA := ae hbA;have HL := ae (eH b);have hE := tU h0 h1 h2;have HE := ae hE;have HN := ae (ky (l := b.toList) (by omega));have HBB := ae (ni (l := b.toList) (by omega));obtain ⟨x, hx⟩ : ∃ x, dZ b.toList = x := ⟨_, rfl⟩;rw [hx] at h0;have HX : Hid (val 8 (piece b.toList 0 8) = x) := ae hx;have HY : Hid (val 8 (piece b.toList 56 8) = x) := ae (by rw [<- hx]; exact h1.symm);have HS4 := ae (rO (eH b));have HCL := ae (ry b.toList);have hz : ((x : Int) == 0) = false := by simp; omega
 have hn : ((x : Int) != (x : Int)) = false := by simp
 have hc : ((lp b.toList : Nat) : Int) != ((lh b.toList : Nat) : Int) := by simp; omega
 clear hE h0 h1 hx h2;clear hA hbA T;go_enter func124, ntmps124;go_wp2_with (first | (refine av rfl (bV rfl rfl) ?_) | fail);refine (i8 w.heap.size _).mono ?_;rintro e w1 ⟨rfl, hb1⟩;have HG := ae (gi w w1 b HBA HTA hb1);clear HTA HA HBA hb1;obtain ⟨g, hg⟩ : ∃ g, w.heap.size = g := ⟨_, rfl⟩;have HGE := ae (Nat.le_of_eq hg.symm);rw [hg] at HG HB;rw [hg];clear hg;obtain ⟨c0, c1, c2, c3, c4⟩ := HG.out.par.cells;go_wp2_with (first | (refine a9 rfl (fv g rfl rfl rfl) ?_) | fail);clear c0 c1 c2 c3 c4;generalize w1.heap.size = p at *;generalize w1.alloc (.cells (eE g) 171) = w2 at *;obtain ⟨c0, c1, c2, c3, c4⟩ := HG.out.par.cells;have hr0 := HG.out.row.rd (p := 0) (k := 8) (by rw [HL.out]; omega);refine (eP _ 8 8 _ _ _ hr0 (by omega) (by omega)).mono ?_;rintro e w3 ⟨rfl, rfl⟩;clear hr0;rw [HX.out];go_wp2_with fail;have hr3 := HG.out.row.rd (p := 56) (k := 8) (by rw [HL.out]; omega);refine (eP _ 8 8 _ _ _ hr3 (by omega) (by omega)).mono ?_;rintro e w3 ⟨rfl, rfl⟩;clear hr3;rw [HY.out];go_wp2_with fail;clear c0 c1 c2 c3 c4;have hle : w2.heap.size <= w2.heap.size := ai;refine ch (B := w2.heap.size) (by kernel_rfl) ?_;refine abb (fun _ hw => ax rfl abd yI) ?_;refine abb (fun _ hw => aF rfl abd (ldS (HG.out.par.below (aX HG.out.par) hw).cells.2.2.1)) ?_;refine cN rfl (fun _ => aB call135 rfl (evc abd evn)) (cz hle fun _ hw => kK HG.out.row hw 52 4 (by rw [HL.out]; omega) (by omega) (by omega)) ?_;simp only [aa];refine abb (fun _ hw => ax rfl abd y5) ?_;refine abb (fun _ hw => aF rfl abd (ldS (HG.out.par.below (aX HG.out.par) hw).cells.2.2.2.2)) ?_;refine cN rfl (fun _ => aB call133 rfl (evc abd evn)) (cz hle fun _ hw => od HG.out.row HG.out.tab hw 0 52 (by rw [HL.out]; omega) (by unfold maxLen; omega)) ?_;simp only [aa];refine abb (fun _ hw => jO rfl abd HCL) ?_;refine abb (fun _ hw => oH true rfl abd abd hc) ?_;refine wpQuiet_nil ?_;intro w3 hb3;have HG3 := ae (HG.out.below hb3 HGE);clear hb3 HG;go_wp2_with fail;refine bodyPost_ret (v := .tuple #[.int .u64 0, .slice none 0 0, .int .i64 6]) (by simp [results, Tryz.results124, go_sem]) rfl ⟨_, by rw [HE.out, HN.out]; rfl, .inl ⟨rfl, HBB⟩, by rw [HB.out]; exact HG3.out.bel⟩
theorem wt (b : Blk) (B : Nat) (w : World) (HB : Hid (B = w.heap.size)) (T : Tab w) (h0 : dZ b.toList ≠ 0) (h1 : dZ b.toList = agO b.toList) (h2 : lp b.toList = lh b.toList) :
  Calls prog 124 #[blk b] w fun e w' => ∃ v, e = .returned (.tuple #[.int .u64 (dy b.toList : Nat), v, .int .i64 (cZ b.toList : Nat)]) /\ Bod w' B v (cJ b.toList) /\ Below B w w' := by
 have hA := cg.blk w b 29;have hbA := (Below.refl w.heap.size w).alloc ai (.cells (cel b).toArray 29);have HTA := ae (T.below hbA);have HA := ae hA;have HBA := ae hbA;have HL := ae (eH b);have hE := rz h0 h1 h2;have HE := ae hE;have HN := ae (kq hE);have HBB := ae (ki hE);obtain ⟨x, hx⟩ : ∃ x, dZ b.toList = x := ⟨_, rfl⟩;rw [hx] at h0;have HX : Hid (val 8 (piece b.toList 0 8) = x) := ae hx;have HY : Hid (val 8 (piece b.toList 56 8) = x) := ae (by rw [<- hx]; exact h1.symm);have HS4 := ae (rO (eH b));have HCL := ae (ry b.toList);have hz : ((x : Int) == 0) = false := by simp; omega
 have hn : ((x : Int) != (x : Int)) = false := by simp
 have hc : (((lp b.toList : Nat) : Int) != ((lh b.toList : Nat) : Int)) = false := by rw [h2]; simp
 have HXX := ae hx;clear hE h0 h1 hx h2;clear hA hbA T;go_enter func124, ntmps124;go_wp2_with (first | (refine av rfl (bV rfl rfl) ?_) | fail);refine (i8 w.heap.size _).mono ?_;rintro e w1 ⟨rfl, hb1⟩;have HG := ae (gi w w1 b HBA HTA hb1);clear HTA HA HBA hb1;obtain ⟨g, hg⟩ : ∃ g, w.heap.size = g := ⟨_, rfl⟩;have HGE := ae (Nat.le_of_eq hg.symm);rw [hg] at HG HB;rw [hg];clear hg;obtain ⟨c0, c1, c2, c3, c4⟩ := HG.out.par.cells;go_wp2_with (first | (refine a9 rfl (fv g rfl rfl rfl) ?_) | fail);clear c0 c1 c2 c3 c4;generalize w1.heap.size = p at *;generalize w1.alloc (.cells (eE g) 171) = w2 at *;obtain ⟨c0, c1, c2, c3, c4⟩ := HG.out.par.cells;have hr0 := HG.out.row.rd (p := 0) (k := 8) (by rw [HL.out]; omega);refine (eP _ 8 8 _ _ _ hr0 (by omega) (by omega)).mono ?_;rintro e w3 ⟨rfl, rfl⟩;clear hr0;rw [HX.out];go_wp2_with fail;have hr3 := HG.out.row.rd (p := 56) (k := 8) (by rw [HL.out]; omega);refine (eP _ 8 8 _ _ _ hr3 (by omega) (by omega)).mono ?_;rintro e w3 ⟨rfl, rfl⟩;clear hr3;rw [HY.out];go_wp2_with fail;clear c0 c1 c2 c3 c4;have hle : w2.heap.size <= w2.heap.size := ai;refine ch (B := w2.heap.size) (by kernel_rfl) ?_;refine abb (fun _ hw => ax rfl abd yI) ?_;refine abb (fun _ hw => aF rfl abd (ldS (HG.out.par.below (aX HG.out.par) hw).cells.2.2.1)) ?_;refine cN rfl (fun _ => aB call135 rfl (evc abd evn)) (cz hle fun _ hw => kK HG.out.row hw 52 4 (by rw [HL.out]; omega) (by omega) (by omega)) ?_;simp only [aa];refine abb (fun _ hw => ax rfl abd y5) ?_;refine abb (fun _ hw => aF rfl abd (ldS (HG.out.par.below (aX HG.out.par) hw).cells.2.2.2.2)) ?_;refine cN rfl (fun _ => aB call133 rfl (evc abd evn)) (cz hle fun _ hw => od HG.out.row HG.out.tab hw 0 52 (by rw [HL.out]; omega) (by unfold maxLen; omega)) ?_;simp only [aa];refine abb (fun _ hw => jO rfl abd HCL) ?_;refine abb (fun _ hw => oH false rfl abd abd hc) ?_;refine wpQuiet_nil ?_;intro w3 hb3;have HG3 := ae (HG.out.below hb3 HGE);clear hb3 HG;have HG4 := ae (HG3.out.below ((Below.refl w3.heap.size w3).alloc ai (.cells rH 5)) HGE);obtain ⟨c0, c1, c2, c3, c4⟩ := HG4.out.par.cells;have HNEW : Hid (cg (w3.alloc (.cells rH 5)) w3.heap.size 5 rC) := ae (cg.new w3 rC _);have HSRC := ae (HG4.out.row.rd (p := 8) (k := 44) (by rw [HL.out]; omega));have HPL : Hid ((piece b.toList 8 44).length = 44) := ae (cy (by rw [HL.out]; omega));have HW3 := ae (ap HGE HG3.out.bel.size);clear HG3;obtain ⟨q, hq⟩ : ∃ q, w3.heap.size = q := ⟨_, rfl⟩;rw [hq] at HNEW HW3;have HQ := ae hq;generalize hw4 : w3.alloc (.cells rH 5) = w4 at *;have HM : Hid (∀ w : World, w = w3 -> (Instr.makeSlice 116 (.int .i64 44) (.int .i64 44)).run prog w = .ok (.slice (some ⟨q, 0, none⟩) 44 44) w4) := ae (fun w e => by subst e; rw [zk, hq, hw4]);have hmk := HM.out w3 rfl;clear hq hw4;go_wp2_with (with_reducible refine dI rfl _ _ rfl q 0 44 44 44 44 _ _ 5 _ (piece b.toList 8 44) rfl rfl HNEW.out HSRC.out (Nat.le_refl _) ?c1 ?_)
 case c1 => simp [rC]
 intro w5 hr5 hg5;rw [sn HPL.out] at hr5;have HB5 := ae (HG4.out.bel.grown hg5 (ap HGE HG4.out.bel.size) (fun k hk => by injection hk with e; subst e; exact HW3));have HR5 := ae hr5;clear hr5 hg5 c0 c1 c2 c3 c4;go_wp2_with fail;refine bodyPost_ret (v := .tuple #[.int .u64 (x : Int), .slice (some ⟨q, 0, none⟩) 44 44, .int .i64 0]) (by simp [results, Tryz.results124, go_sem]) rfl ⟨_, by rw [HE.out, HN.out, HXX.out]; rfl, .inr ⟨q, ?_, ?_, ?_, ?_⟩, ?_⟩
 ·rw [HBB.out, HPL.out]
 ·rw [HB.out]; exact HW3
 ·rw [HBB.out]; exact HR5
 ·rw [HBB.out, HPL.out]; unfold maxLen; omega
 ·rw [HB.out]; exact HB5
theorem gM (b : Blk) (B : Nat) (w : World) (HB : Hid (B = w.heap.size)) (T : Tab w) : Calls prog 124 #[blk b] w fun e w' => ∃ v, e = .returned (.tuple #[.int .u64 (dy b.toList : Nat), v, .int .i64 (cZ b.toList : Nat)]) /\ Bod w' B v (cJ b.toList) /\ Below B w w' := by
 by_cases h0 : dZ b.toList = 0
 ·exact tk b B w HB T h0
 ·by_cases h1 : dZ b.toList = agO b.toList
  ·by_cases h2 : lp b.toList = lh b.toList
   ·exact wt b B w HB T h0 h1 h2
   ·exact uV b B w HB T h0 h1 h2
  ·exact ol b B w HB T h0 h1
set_option linter.unusedSimpArgs false
theorem pV {w w2 : World} {g p q : Nat} {l : List UInt8} (HR : cg w g 5 l) (hb : Below (w.alloc (.cells (aS bg).toArray 37)).heap.size (w.alloc (.cells (aS bg).toArray 37)) w2)
  (hc : ie w2 p q (.slice (some ⟨g, 0, none⟩) 44 44) 0) (hd : w.heap.size + 1 <= p /\ w.heap.size + 1 <= q /\ p ≠ q /\ p < w2.heap.size /\ q < w2.heap.size) :
  fp w.heap.size w ((w2.alloc (.cells #[iC p q] 167)).alloc (.cells (aS bg).toArray 37)) g l (w2.heap.size + 1) w.heap.size w2.heap.size p q 0 bg := by
 have e0 := World.size_alloc (w := w) (o := Obj.cells (aS bg).toArray 37);have e1 := World.size_alloc (w := w2) (o := Obj.cells #[iC p q] 167);have h1 := aX HR;have h3 := hb.size;rw [e0] at h3;have hro := bU.new (w2.alloc (.cells #[iC p q] 167)) bg;rw [e1] at hro;have hb1 := (Below.refl w.heap.size w).alloc ai (.cells (aS bg).toArray 37);have hb2 : Below w.heap.size w w2 := hb1.trans (hb.mono hb1.size);refine ⟨((HR.past _).below (by rw [e0]; omega) hb).past _ |>.past _, hro, bq (bq (aC (heap_alloc_new w _) hb) _) _, bq (heap_alloc_new w2 _) _, ⟨bq (bq hc.1 _) _, bq (bq hc.2 _) _⟩, (hb2.alloc (by omega) _).alloc (by rw [e1]; omega) _, ?_, ?_, ?_⟩
 ·omega
 ·omega
 ·refine ⟨?_, ?_, ?_, ?_, ?_, ?_, ?_, ?_, ?_, ?_⟩ <;> omega
theorem rp (g : Nat) (l : List UInt8) (w : World) (hl : l.length = 44) (hr : cg w g 5 l) : Calls prog 125 #[.slice (some ⟨g, 0, none⟩) 44 44] w fun e w' => e = .returned (sup (bW l)) /\ Below w.heap.size w w' := by
 have hmf : ∀ (fn : Fn) (first cap : Array Value) (w : World), (Instr.makeFunc fn first cap).run prog w = .ok (.func fn first cap) w := fun _ _ _ _ => rfl
 have HL := ae hl;have HR := ae hr;obtain ⟨I, hI⟩ : ∃ I : Nat, val 8 (piece l 0 8) = I := ⟨_, rfl⟩;obtain ⟨M, hM⟩ : ∃ M : Nat, val 8 (piece l 8 1) = M := ⟨_, rfl⟩;have bM : M < 256 := by rw [<- hM]; exact cx (b := l) (p := 8) (k := 1) (by omega)
 obtain ⟨T, hT⟩ : ∃ T : Nat, val 8 (piece l 9 2) = T := ⟨_, rfl⟩;have bT : T < 65536 := by rw [<- hT]; exact cx (b := l) (p := 9) (k := 2) (by omega)
 obtain ⟨R, hR⟩ : ∃ R : Nat, val 8 (piece l 11 2) = R := ⟨_, rfl⟩;have bR : R < 65536 := by rw [<- hR]; exact cx (b := l) (p := 11) (k := 2) (by omega)
 obtain ⟨E, hE⟩ : ∃ E : Nat, val 8 (piece l 13 1) = E := ⟨_, rfl⟩;have bE : E < 256 := by rw [<- hE]; exact cx (b := l) (p := 13) (k := 1) (by omega)
 obtain ⟨C, hC⟩ : ∃ C : Nat, val 8 (piece l 18 2) = C := ⟨_, rfl⟩;have bC : C < 65536 := by rw [<- hC]; exact cx (b := l) (p := 18) (k := 2) (by omega)
 obtain ⟨G, hG⟩ : ∃ G : Nat, val 8 (piece l 20 1) = G := ⟨_, rfl⟩;have bG : G < 256 := by rw [<- hG]; exact cx (b := l) (p := 20) (k := 1) (by omega)
 obtain ⟨gb, hgb⟩ : ∃ gb, decide (G = 1) = gb := ⟨_, rfl⟩;have hgg : ((G : Int) == 1) = gb := by rw [<- hgb, Bool.eq_iff_iff]; simp; omega
 obtain ⟨st, hst⟩ : ∃ st, aZ 2 16 (val 8 (piece l 14 4)) = st := ⟨_, rfl⟩;have HST := ae hst;have HSL : Hid (st.length = 16) := ae (by rw [<- hst, aD]);have HDEF : Hid (bW l = ⟨I, (E : Nat), ⟨(M : Nat), (T : Nat), (R : Nat), lG st, (C : Nat), gb⟩⟩) := ae (by unfold bW; rw [hI, hM, hT, hR, hE, hC, hG, hgb, hst]);have HII := ae hI;have HMM := ae hM;have HTT := ae hT;have HRR := ae hR;have HEE := ae hE;have HCC := ae hC;have HGG2 := ae hG;have HGG := ae hgg;clear hI hM hT hR hE hC hG hgb hst hl hr hgg;go_enter func125, ntmps125;go_wp2_with (first | (refine au rfl (bk rfl) ?_) | fail);refine (lF (.slice (some ⟨g, 0, none⟩) 44 44) _ 44 44 rfl _).mono ?_;rintro e w2 ⟨p, q, rfl, hc, hp0, hq0, hpq, hp1, hq1, hb⟩;have HW0 := ae (pV HR hb hc (by rw [World.size_alloc] at hp0 hq0; exact ⟨hp0, hq0, hpq, hp1, hq1⟩));clear hb hc hp0 hq0 hpq hp1 hq1 HR;unfold iC at HW0 ⊢;go_upto_region 5 with (first | (refine au rfl (bk rfl) ?_) | fail)
 try simp only [World.size_alloc]
 generalize ((w2.alloc (.cells #[Value.func (.func 141) #[] #[.pointer (some ⟨p, 0, none⟩), .pointer (some ⟨q, 0, none⟩)]] 167)).alloc (.cells (aS bg).toArray 37)) = w3 at *
 try simp only [World.size_alloc]
 generalize w2.heap.size = nb at *;obtain ⟨B, hBdef⟩ : ∃ B, w.heap.size = B := ⟨_, rfl⟩;have HBD := ae hBdef;rw [hBdef] at HW0 ⊢;clear hBdef;have HSN : Hid (nb + 1 ≠ nb) := ae (by omega);obtain ⟨s, hs⟩ : ∃ s, nb + 1 = s := ⟨_, rfl⟩;rw [hs] at HW0 ⊢;clear hs;have HB0 : Hid (B <= w.heap.size) := ae (Nat.le_of_eq HBD.out.symm);go_wp2_with fail;refine (lm B w _ g l s B nb p q 0 8 _ HW0 HB0 HL (by omega) (by omega) (by omega)).mono ?_;rintro e w4 ⟨rfl, hW⟩;rw [HII.out];have HV0 := ae hW;have cc := HV0.out.sup.cells.1;have ff := HV0.out.sup.free 0;clear hW;have HW1 : Hid (fp B w (w4.setCell ⟨s, 0, none⟩ (.int .u64 (I : Nat))) g l s B nb p q 8 ⟨I, 0, ⟨0, 0, 0, bI.st, 0, false⟩⟩) := ae (HV0.out.set 0 _ (ww _ _) HB0);clear HV0;go_wp2_with fail;refine (lm B w _ g l s B nb p q 8 1 _ HW1 HB0 HL (by omega) (by omega) (by omega)).mono ?_;rintro e w5 ⟨rfl, hW⟩;rw [HMM.out];have HV1 := ae hW;have cc := HV1.out.sup.cells.2.2.1;have ff := HV1.out.sup.free 2;clear hW HW1;have HW2 : Hid (fp B w (w5.setCell ⟨s, 2, none⟩ (.int .i64 (M : Nat))) g l s B nb p q 9 ⟨I, 0, ⟨(M : Nat), 0, 0, bI.st, 0, false⟩⟩) := ae (HV1.out.set 2 _ (yv _ _) HB0);clear HV1;go_wp2_with fail;refine (lm B w _ g l s B nb p q 9 2 _ HW2 HB0 HL (by omega) (by omega) (by omega)).mono ?_;rintro e w6 ⟨rfl, hW⟩;rw [HTT.out];have HV2 := ae hW;have cc := HV2.out.sup.cells.2.2.2.1;have ff := HV2.out.sup.free 3;clear hW HW2;have HW3 : Hid (fp B w (w6.setCell ⟨s, 3, none⟩ (.int .i64 (T : Nat))) g l s B nb p q 11 ⟨I, 0, ⟨(M : Nat), (T : Nat), 0, bI.st, 0, false⟩⟩) := ae (HV2.out.set 3 _ (zi _ _) HB0);clear HV2;go_wp2_with fail;refine (lm B w _ g l s B nb p q 11 2 _ HW3 HB0 HL (by omega) (by omega) (by omega)).mono ?_;rintro e w7 ⟨rfl, hW⟩;rw [HRR.out];have HV3 := ae hW;have cc := HV3.out.sup.cells.2.2.2.2.1;have ff := HV3.out.sup.free 4;clear hW HW3;have HW4 : Hid (fp B w (w7.setCell ⟨s, 4, none⟩ (.int .i64 (R : Nat))) g l s B nb p q 13 ⟨I, 0, ⟨(M : Nat), (T : Nat), (R : Nat), bI.st, 0, false⟩⟩) := ae (HV3.out.set 4 _ (y9 _ _) HB0);clear HV3;go_wp2_with fail;refine (lm B w _ g l s B nb p q 13 1 _ HW4 HB0 HL (by omega) (by omega) (by omega)).mono ?_;rintro e w8 ⟨rfl, hW⟩;rw [HEE.out];have HV4 := ae hW;have cc := HV4.out.sup.cells.2.1;have ff := HV4.out.sup.free 1;clear hW HW4;have HW5 : Hid (fp B w (w8.setCell ⟨s, 1, none⟩ (.int .i64 (E : Nat))) g l s B nb p q 14 ⟨I, (E : Nat), ⟨(M : Nat), (T : Nat), (R : Nat), bI.st, 0, false⟩⟩) := ae (HV4.out.set 1 _ (tD _ _) HB0);clear HV4;have n0 := (cell1 HW5.out.nxt).1;unfold iC at n0;go_wp2_with fail;refine (wU p q g 0 44 44 14 4 _ HW5.out.cut HW5.out.dif.2.2.2.2.1 (by omega) (by omega) ai (by omega)).mono ?_;rintro e w9 ⟨rfl, hc, hg⟩;have HV5 := ae (HW5.out.step hc hg HB0);clear hc hg n0 HW5 cc ff;have HRD := ae (HV5.out.row.rd (p := 14) (k := 4) (by rw [HL.out]; omega));go_wp2_with fail;refine (sP _ 4 4 _ 2 16 _ (piece l 14 4) w9 (ae rfl) HRD ai (by omega) (by omega) (by omega) (by omega) (by decide)).mono ?_;rintro e w10 ⟨v, rfl, hv, hb⟩;rw [HST.out] at hv;have hvm := hv.made;obtain ⟨A, c, rfl, hrd, _, _⟩ := hvm.open_ HSL;have HV6 := ae (HV5.out.keep hb HB0);have HRD2 := ae hrd;clear hv hvm hrd hb HRD HV5;go_wp2_with (first | (refine au rfl (iP rfl rfl) ?_) | (refine mQ rfl _ _ rfl s 5 16 16 c _ A 37 (aS _) st rfl rfl HV6.out.sup HRD2 (by omega) ?_ ?_) | fail)
 ·rw [aG]; omega
 intro w11 hs11 hg11;rw [wc _ HSL.out] at hs11;have HW6 : Hid (fp B w w11 g l s B nb p q 18 ⟨I, (E : Nat), ⟨(M : Nat), (T : Nat), (R : Nat), lG st, 0, false⟩⟩) := ae (HV6.out.put hs11 hg11 HB0);clear hs11 hg11 HV6 HRD2;go_wp2_with fail;refine (lm B w _ g l s B nb p q 18 2 _ HW6 HB0 HL (by omega) (by omega) (by omega)).mono ?_;rintro e w12 ⟨rfl, hW⟩;rw [HCC.out];have HV6 := ae hW;have cc := HV6.out.sup.cells.2.2.2.2.2.1;have ff := HV6.out.sup.free 21;clear hW HW6;have HW7 : Hid (fp B w (w12.setCell ⟨s, 21, none⟩ (.int .i64 (C : Nat))) g l s B nb p q 20 ⟨I, (E : Nat), ⟨(M : Nat), (T : Nat), (R : Nat), lG st, (C : Nat), false⟩⟩) := ae (HV6.out.set 21 _ (ub _ _) HB0);clear HV6;go_wp2_with fail;refine (lm B w _ g l s B nb p q 20 1 _ HW7 HB0 HL (by omega) (by omega) (by omega)).mono ?_;rintro e w13 ⟨rfl, hW⟩;rw [HGG2.out];have HV7 := ae hW;clear hW HW7 cc ff;have cc := HV7.out.sup.cells.2.2.2.2.2.2;have ff := HV7.out.sup.free 22;have HW8 : Hid (fp B w (w13.setCell ⟨s, 22, none⟩ (.bool gb)) g l s B nb p q 21 ⟨I, (E : Nat), ⟨(M : Nat), (T : Nat), (R : Nat), lG st, (C : Nat), gb⟩⟩) := ae (HV7.out.set 22 _ (tK _ _) HB0);rw [<- HDEF.out] at HW8;have hgg := HGG.out;clear HV7;have HLS := ae HW8.out.sup.range;have HTH := ae (a8 (o := 0) (n := 23) HW8.out.res (by rw [aG]; exact ai));have HBB := ae HW8.out.bel;go_upto_region 14 with fail;generalize w13.setCell ⟨s, 22, none⟩ (.bool gb) = w14 at *;clear cc ff;go_wp2_with (first | (refine au rfl (cn (c := bW l) rfl rfl ?_) ?_; (with_reducible exact HLS.out)) | (refine az rfl (cp rfl rfl rfl ?_) ?_; (with_reducible exact HTH.out)) | fail);refine bodyPost_ret (dF (t := 37) (cs := aS (bW l)) rfl _ _ B rfl ?h1 underlying37 rfl ?h2) rfl ⟨rfl, ?h3⟩
 case h1 => exact World.rangeAt_setCells_same _ _ _ _ (by rw [aG]; exact HTH)
 case h2 => rw [aG]; exact eQ
 case h3 => rw [HBD.out]; exact below_setCells HBB ai _
theorem nM {ρ : Operand -> Value} {o : Oper} {x y : Operand} {w : World} {l : List UInt8} (hl : l.length = 44) (ho : o.op = .store 162 x y) (hx : ρ x = .pointer (some ⟨w.heap.size, 0, none⟩)) (hy : ρ y = arr l) :
  (execOp ρ o).run prog (w.alloc (.cells (vals z44).toArray 162)) = .ok .skip (w.alloc (.cells (vals l).toArray 162)) :=
 fP (by rw [bf, hl]; exact jL) (by rw [bf, bf, hl, qo]) (fV l) ho hx hy
theorem jf (n : Nat) (w : World) {b : Bool} (h : evB n = b) : Calls prog 118 #[.int .u64 n] w fun e w' => e = .returned (.bool b) /\ Below w.heap.size w w' := by
 subst h;exact (vB n w).mono fun e w' ⟨he, hw⟩ => ⟨he, hw ▸ aj⟩
theorem nf (x : Sup) (w : World) {b : Bool} (h : ef x = b) : Calls prog 119 #[sup x] w fun e w' => e = .returned (.bool b) /\ Below w.heap.size w w' := by
 subst h;exact ya x w
theorem zY (n : Nat) (x : Sup) (w : World) (T : Tab w) (hn : n < 18446744073709551616) (hid : x.id < 18446744073709551616) :
  Calls prog 113 #[.int .u64 n, sup x] w fun e w' => e = .returned (.tuple #[blk (fx n x), .int .i64 (jP n x : Nat)]) /\ Below w.heap.size w w' := by
 obtain ⟨h1, h2, h3⟩ := lJ w x;have HS := ae (h1.past (.cells (cel aA).toArray 29));have HB := ae (h2.alloc h2.size (.cells (cel aA).toArray 29));have HT := ae T;have HN := ae hn;have HI := ae hid;have HR : Hid (((w.alloc (.cells (aS x).toArray 37)).alloc (.cells (cel aA).toArray 29)).there (w.heap.size + 1) 0 64) := ae (by
  have := eC (w.alloc (.cells (aS x).toArray 37)) aA 29;rwa [World.size_alloc] at this)
 have HZ : Hid (w.heap.size + 1 < ((w.alloc (.cells (aS x).toArray 37)).alloc (.cells (cel aA).toArray 29)).heap.size) := ae (by simp only [World.size_alloc]; omega);clear h1 h2 h3 T hn hid;go_enter func113, ntmps113;go_wp2_with (first | (refine au rfl (fX rfl rfl) ?_) | (refine au rfl (bJ rfl) ?_) | fail)
 try simp only [World.size_alloc]
 generalize (w.alloc (.cells (aS x).toArray 37)).alloc (.cells (cel aA).toArray 29) = w1 at *;refine (vB n w1).mono ?_;rintro e w' ⟨rfl, rfl⟩;by_cases hev : evB n = true
 ·rw [hev];have HEV := ae hev;clear hev;go_wp2_with (first | (refine av (by rfl) (cn (c := x) rfl rfl ?_) ?_; (with_reducible exact HS.out.range)) | fail);refine (ya x w1).mono ?_;rintro e w2 ⟨rfl, hb⟩;have HS2 := ae (HS.out.below (aX HS) hb);have HB2 := ae (HB.out.trans (hb.mono HB.out.size));have HR2 := ae (bL HR HZ hb);have HZ2 : Hid (w.heap.size + 1 < w2.heap.size) := ae (by have := hb.size; have := HZ.out; omega);clear hb HS HB HR HZ;by_cases hm : ef x = true
  ·rw [hm];have HM := ae hm;clear hm;go_wp2_with (first | (refine au rfl (cn (c := x) rfl rfl ?_) ?_; (with_reducible exact HS2.out.range)) | fail);refine (vO x w2 HI HM).mono ?_;rintro e w3 ⟨rfl, hb⟩;have hb3 := HB2.out.trans (hb.mono HB2.out.size);have HB3 := ae (hb3.alloc hb3.size (.cells (vals (bZ x)).toArray 162));have HR3 := ae (bL HR2 HZ2 (hb.alloc hb.size (.cells (vals (bZ x)).toArray 162)));have hrd := (cg.new w3 (bZ x) 162).rd (p := 0) (k := 44) (by rw [cw]; omega);rw [jp (cw x)] at hrd;have HRD := ae hrd;have HFL := ae (cw x);have HZ3 : Hid (w.heap.size + 1 < (w3.alloc (.cells (vals (bZ x)).toArray 162)).heap.size) := ae (by have := hb.size; have := HZ2.out; simp only [World.size_alloc]; omega);clear hb hb3 hrd HS2 HB2 HR2 HZ2;go_wp2_with (first | (refine au rfl (i6 rfl) ?_) | (refine az rfl (nM (l := bZ x) HFL.out rfl rfl rfl) ?_) | (refine au rfl (lq rfl rfl) ?_) | fail);generalize hw4 : w3.alloc (.cells (vals (bZ x)).toArray 162) = w4 at *;refine (xc n 44 44 _ _ (bZ x) w4 (HT.out.below HB3) HN HRD ai (by unfold maxLen; omega)).mono ?_;rintro e w5 ⟨rfl, hb⟩;rw [my, il, fK x HEV.out];have HR5 := ae (bL HR3 HZ3 hb);have HB5 := ae (HB3.out.trans (hb.mono HB3.out.size));have HPB := ae (ls HEV HM);have HPE := ae (jk HEV HM);clear hb hw4 HRD HR3 HZ3 HB3;generalize eM n (dD x) = pb at *;go_wp2_with (first | (refine az rfl (bv (c := pb) rfl rfl rfl ?_) ?_; (with_reducible exact HR5.out)) | fail);refine bodyPost_ret (cE rfl _ _ _ rfl (World.rangeAt_setCells_same _ _ _ _ (by rw [aI]; exact HR5))) rfl ⟨by rw [HPB.out, HPE.out]; rfl, below_setCells HB5 (Nat.le_succ _) _⟩
  ·have hm' : ef x = false := by simpa using hm
   have HPB := ae (nV (n := n) (x := x) (fun h => hm h.2));have HPE := ae (nL (n := n) (x := x) (fun h => hm h.2));rw [hm'];clear hm hm';go_wp2_with (first | (refine au rfl (cG (c := aA) (parts := []) rfl rfl) ?_) | (refine az rfl (bv (c := aA) rfl rfl rfl ?_) ?_; (with_reducible exact HR2.out)) | fail);refine bodyPost_ret (cE rfl _ _ _ rfl (World.rangeAt_setCells_same _ _ _ _ (by rw [aI]; exact HR2))) rfl ⟨by rw [HPB.out, HPE.out]; rfl, below_setCells HB2 (Nat.le_succ _) _⟩
 ·have hev' : evB n = false := by simpa using hev
  have HPB := ae (nV (n := n) (x := x) (fun h => hev h.1));have HPE := ae (nL (n := n) (x := x) (fun h => hev h.1));rw [hev'];clear hev hev';go_wp2_with (first | (refine au rfl (cG (c := aA) (parts := []) rfl rfl) ?_) | (refine az rfl (bv (c := aA) rfl rfl rfl ?_) ?_; (with_reducible exact HR.out)) | fail);refine bodyPost_ret (cE rfl _ _ _ rfl (World.rangeAt_setCells_same _ _ _ _ (by rw [aI]; exact HR))) rfl ⟨by rw [HPB.out, HPE.out]; rfl, below_setCells HB (Nat.le_succ _) _⟩
section
variable {P : Program} {ops : Array Oper} {C : World -> Prop} {Q : Act -> Prop} {a : Act} {o : Oper} {rest l : List Oper} {v : Value}
theorem jU : ∀ (rs : List Oper) (a : Act), unw ops rs a = true -> wpQuiet P ops C Q rest (bu rs a) -> wpQuiet P ops C Q (rs ++ rest) a
 |[], _, _, h => h
 |r :: rs, a, hu, h => by
  simp only [unw, Bool.and_eq_true, Bool.not_eq_true'] at hu;exact wv hu.1 (jU rs _ hu.2 h)
theorem mU (n : Nat) (hw : Region.wanted o (yielded ops a.tmps) = true) (h : ∀ w, C w -> (execOp a.eval o).run P w = .ok (.value v) w) (hu : unw ops (l.take n) (a.put o.dst v) = true) (hr : wpQuiet P ops C Q (l.drop n) (bu (l.take n) (a.put o.dst v))) : wpQuiet P ops C Q (o :: l) a :=
 bO hw h (by have := jU (P := P) (C := C) (Q := Q) (l.take n) _ hu hr; rwa [List.take_append_drop] at this)
end
theorem oL {ρ : Operand -> Value} {o : Oper} {x : Operand} {w : World} {g c : Nat} (ho : o.op = .sliceToArrayPointer 162 x) (hx : ρ x = .slice (some ⟨g, 0, none⟩) 44 c) : (execOp ρ o).run prog w = .ok (.value (.pointer (some ⟨g, 0, none⟩))) w := by
 unfold execOp;simp [ho, hx, Instr.arrayAt, run_underlying underlying162]
section
variable (b : Blk) (w : World)
structure SgW (w w3 : World) (b : Blk) (g s : Nat) (l : List UInt8) (y : Sup) : Prop where
 row : cg w3 g 5 l
 sup : bU w3 s y
 res : w3.there (w.heap.size + 1) 0 23
 bel : Below w.heap.size w w3
 lt : w.heap.size + 1 < w3.heap.size
theorem SgW.keep {w w3 w4 : World} {b : Blk} {g s : Nat} {l : List UInt8} {y : Sup} (h : SgW w w3 b g s l y) (hb : Below w3.heap.size w3 w4) : SgW w w4 b g s l y :=
 ⟨h.row.below h.row.lt hb, h.sup.below (aX h.sup) hb, bL h.res h.lt hb, h.bel.trans (hb.mono h.bel.size), aq h.lt hb.size⟩
end
theorem pU (b : Blk) (w : World) (T : Tab w) (h : cZ b.toList ≠ 0) : Calls prog 117 #[blk b] w fun e w' => e = .returned (.tuple #[.int .u64 (0 : Nat), sup bg, .int .i64 (cZ b.toList : Nat)]) /\ Below w.heap.size w w' := by
 obtain ⟨n, hn⟩ : ∃ n, dy b.toList = n := ⟨_, rfl⟩;obtain ⟨l, hl⟩ : ∃ l, cJ b.toList = l := ⟨_, rfl⟩;have h1 := (Below.refl w.heap.size w).alloc ai (.cells (cel b).toArray 29);have h2 := h1.alloc h1.size (.cells (aS bg).toArray 37);have HA : Hid (((w.alloc (.cells (cel b).toArray 29)).alloc (.cells (aS bg).toArray 37)).rangeAt w.heap.size 0 (cel b)) := ae (World.rangeAt_alloc (dt w (cel b) 29) _);have hsn := bU.new (w.alloc (.cells (cel b).toArray 29)) bg;rw [World.size_alloc] at hsn;have HR := ae (a8 (o := 0) (n := 23) hsn (by rw [aG]; exact ai));have HZ := ae (aX hsn);have HB := ae h2;have HT := ae (T.below h2);have HN := ae hn;have HL := ae hl;clear h1 h2 hsn T;obtain ⟨E, hE⟩ : ∃ E, cZ b.toList = E := ⟨_, rfl⟩;rw [hE] at h;have HE := ae hE;have hne : ((E : Int) != 0) = true := by simp; omega
 clear hE hn hl;go_enter func117, ntmps117;go_wp2_with (first | (refine au rfl (bV rfl rfl) ?_) | (refine au rfl (bk rfl) ?_) | (refine au rfl (bm (c := b) rfl rfl ?_) ?_; (with_reducible exact HA.out)) | fail)
 try simp only [World.size_alloc]
 generalize (w.alloc (.cells (cel b).toArray 29)).alloc (.cells (aS bg).toArray 37) = w0 at *;refine (gM b _ w0 (ae rfl) HT).mono ?_;rintro e w1 ⟨v, rfl, hv, hb⟩;rw [HN.out];rw [HE.out];have HR1 := ae (bL HR HZ hb);have HB1 := ae (HB.out.trans (hb.mono HB.out.size));clear hv hb HA HR HB;go_wp2_with (first | (refine au rfl (er rfl) ?_) | (refine az rfl (cp (c := bg) rfl rfl rfl ?_) ?_; (with_reducible exact HR1.out)) | fail);refine bodyPost_ret (ex (t := 37) (cs := aS bg) rfl _ _ _ rfl ?h1 underlying37 rfl ?h2) rfl ⟨by rw [HE.out]; rfl, ?h3⟩
 case h1 => exact World.rangeAt_setCells_same _ _ _ _ (by rw [aG]; exact HR1)
 case h2 => rw [aG]; exact eQ
 case h3 => exact below_setCells HB1 (Nat.le_succ _) _
theorem tM (b : Blk) (w : World) (T : Tab w) (h0 : cZ b.toList = 0) (hev : evB (dy b.toList) = false) : Calls prog 117 #[blk b] w fun e w' => e = .returned (.tuple #[.int .u64 (0 : Nat), sup bg, .int .i64 (5 : Nat)]) /\ Below w.heap.size w w' := by
 obtain ⟨n, hn⟩ : ∃ n, dy b.toList = n := ⟨_, rfl⟩;obtain ⟨l, hl⟩ : ∃ l, cJ b.toList = l := ⟨_, rfl⟩;have h1 := (Below.refl w.heap.size w).alloc ai (.cells (cel b).toArray 29);have h2 := h1.alloc h1.size (.cells (aS bg).toArray 37);have HA : Hid (((w.alloc (.cells (cel b).toArray 29)).alloc (.cells (aS bg).toArray 37)).rangeAt w.heap.size 0 (cel b)) := ae (World.rangeAt_alloc (dt w (cel b) 29) _);have hsn := bU.new (w.alloc (.cells (cel b).toArray 29)) bg;rw [World.size_alloc] at hsn;have HR := ae (a8 (o := 0) (n := 23) hsn (by rw [aG]; exact ai));have HZ := ae (aX hsn);have HB := ae h2;have HT := ae (T.below h2);have HN := ae hn;have HL := ae hl;clear h1 h2 hsn T;rw [hn] at hev;have HEV := ae hev;clear hev;clear hn hl;go_enter func117, ntmps117;go_wp2_with (first | (refine au rfl (bV rfl rfl) ?_) | (refine au rfl (bk rfl) ?_) | (refine au rfl (bm (c := b) rfl rfl ?_) ?_; (with_reducible exact HA.out)) | fail)
 try simp only [World.size_alloc]
 generalize (w.alloc (.cells (cel b).toArray 29)).alloc (.cells (aS bg).toArray 37) = w0 at *;refine (gM b _ w0 (ae rfl) HT).mono ?_;rintro e w1 ⟨v, rfl, hv, hb⟩;rw [HN.out];rw [h0];have hll : l.length = 44 := by rw [<- HL.out]; exact gK h0
 have HLL := ae hll;rw [HL.out] at hv;obtain ⟨g, hve, hrow⟩ : ∃ g, v = .slice (some ⟨g, 0, none⟩) 44 44 /\ cg w1 g 5 l := by
  rcases hv with ⟨_, rfl⟩ | ⟨g, e, _, hr, _⟩
  ·simp at hll
  ·rw [hll] at e; exact ⟨g, e, hr⟩
 subst hve;have HR1 := ae (bL HR HZ hb);have HB1 := ae (HB.out.trans (hb.mono HB.out.size));have HZ1 : Hid (w.heap.size + 1 < w1.heap.size) := ae (aq HZ hb.size);have HRW := ae hrow;clear hv hb HA HR HB HZ hll h0 hrow;go_wp2_with fail;refine (rp g l w1 HLL HRW).mono ?_;rintro e w2 ⟨rfl, hb⟩;have hb3 := hb.alloc hb.size (.cells (aS (bW l)).toArray 37);have HW3 : Hid (SgW w (w2.alloc (.cells (aS (bW l)).toArray 37)) b g w2.heap.size l (bW l)) := ae ⟨HRW.out.below HRW.out.lt hb3, bU.new w2 _, bL HR1 HZ1 hb3, HB1.out.trans (hb3.mono HB1.out.size), aq HZ1 hb3.size⟩;have HI : Hid ((bW l).id < 18446744073709551616) := ae (fm (by rw [HLL.out]; omega));clear hb hb3 HRW HR1 HB1 HZ1;obtain ⟨y, hy⟩ : ∃ y, bW l = y := ⟨_, rfl⟩;have HY := ae hy;rw [hy] at HW3 HI;rw [hy];clear hy;have HFL := ae (cw y);go_upto_region 5 with (first | (refine au rfl (bk rfl) ?_) | (refine az rfl (cm rfl rfl rfl) ?_) | fail);generalize w2.alloc (.cells (aS y).toArray 37) = w3 at *;have HS3 := ae HW3.out.sup;have HR3 := ae HW3.out.row;generalize w2.heap.size = s at *;refine ch (B := w3.heap.size) (by kernel_rfl) ?_;refine e9 1 ?_;refine cN rfl (fun _ => aB call118 rfl (evc abd evn)) (cz ai fun w' hw => jf n w' HEV) ?_;simp only [aa];refine e9 1 ?_;refine mU 3 rfl (fun _ hw => aO rfl abd) (by kernel_rfl) ?_;simp only [bu, ac, aa];refine e9 1 ?_;refine mU 6 rfl (fun _ hw => aO rfl abd) (by kernel_rfl) ?_;simp only [bu, ac, aa];refine e9 1 ?_;refine wpQuiet_nil ?_;intro w4 hw;have HW4 := ae (HW3.out.keep hw);have HR4 := ae HW4.out.res;have HB4 := ae HW4.out.bel;clear HW3 HS3 HR3 hw;go_wp2_with (first | (refine au rfl (er rfl) ?_) | (refine az rfl (cp (c := bg) rfl rfl rfl ?_) ?_; (with_reducible exact HR4.out)) | fail);refine bodyPost_ret (ex (t := 37) (cs := aS bg) rfl _ _ _ rfl ?h1 underlying37 rfl ?h2) rfl ⟨rfl, ?h3⟩
 case h1 => exact World.rangeAt_setCells_same _ _ _ _ (by rw [aG]; exact HR4)
 case h2 => rw [aG]; exact eQ
 case h3 => exact below_setCells HB4 (Nat.le_succ _) _
theorem sy (b : Blk) (w : World) (T : Tab w) (h0 : cZ b.toList = 0) (hev : evB (dy b.toList) = true) (hm : ef (bW (cJ b.toList)) = false) : Calls prog 117 #[blk b] w fun e w' => e = .returned (.tuple #[.int .u64 (0 : Nat), sup bg, .int .i64 (5 : Nat)]) /\ Below w.heap.size w w' := by
 obtain ⟨n, hn⟩ : ∃ n, dy b.toList = n := ⟨_, rfl⟩;obtain ⟨l, hl⟩ : ∃ l, cJ b.toList = l := ⟨_, rfl⟩;have h1 := (Below.refl w.heap.size w).alloc ai (.cells (cel b).toArray 29);have h2 := h1.alloc h1.size (.cells (aS bg).toArray 37);have HA : Hid (((w.alloc (.cells (cel b).toArray 29)).alloc (.cells (aS bg).toArray 37)).rangeAt w.heap.size 0 (cel b)) := ae (World.rangeAt_alloc (dt w (cel b) 29) _);have hsn := bU.new (w.alloc (.cells (cel b).toArray 29)) bg;rw [World.size_alloc] at hsn;have HR := ae (a8 (o := 0) (n := 23) hsn (by rw [aG]; exact ai));have HZ := ae (aX hsn);have HB := ae h2;have HT := ae (T.below h2);have HN := ae hn;have HL := ae hl;clear h1 h2 hsn T;rw [hn] at hev;rw [hl] at hm;have HEV := ae hev;have HM0 := ae hm;clear hev hm;clear hn hl;go_enter func117, ntmps117;go_wp2_with (first | (refine au rfl (bV rfl rfl) ?_) | (refine au rfl (bk rfl) ?_) | (refine au rfl (bm (c := b) rfl rfl ?_) ?_; (with_reducible exact HA.out)) | fail)
 try simp only [World.size_alloc]
 generalize (w.alloc (.cells (cel b).toArray 29)).alloc (.cells (aS bg).toArray 37) = w0 at *;refine (gM b _ w0 (ae rfl) HT).mono ?_;rintro e w1 ⟨v, rfl, hv, hb⟩;rw [HN.out];rw [h0];have hll : l.length = 44 := by rw [<- HL.out]; exact gK h0
 have HLL := ae hll;rw [HL.out] at hv;obtain ⟨g, hve, hrow⟩ : ∃ g, v = .slice (some ⟨g, 0, none⟩) 44 44 /\ cg w1 g 5 l := by
  rcases hv with ⟨_, rfl⟩ | ⟨g, e, _, hr, _⟩
  ·simp at hll
  ·rw [hll] at e; exact ⟨g, e, hr⟩
 subst hve;have HR1 := ae (bL HR HZ hb);have HB1 := ae (HB.out.trans (hb.mono HB.out.size));have HZ1 : Hid (w.heap.size + 1 < w1.heap.size) := ae (aq HZ hb.size);have HRW := ae hrow;clear hv hb HA HR HB HZ hll h0 hrow;go_wp2_with fail;refine (rp g l w1 HLL HRW).mono ?_;rintro e w2 ⟨rfl, hb⟩;have hb3 := hb.alloc hb.size (.cells (aS (bW l)).toArray 37);have HW3 : Hid (SgW w (w2.alloc (.cells (aS (bW l)).toArray 37)) b g w2.heap.size l (bW l)) := ae ⟨HRW.out.below HRW.out.lt hb3, bU.new w2 _, bL HR1 HZ1 hb3, HB1.out.trans (hb3.mono HB1.out.size), aq HZ1 hb3.size⟩;have HI : Hid ((bW l).id < 18446744073709551616) := ae (fm (by rw [HLL.out]; omega));clear hb hb3 HRW HR1 HB1 HZ1;obtain ⟨y, hy⟩ : ∃ y, bW l = y := ⟨_, rfl⟩;have HY := ae hy;rw [hy] at HW3 HI HM0;have HM := HM0;rw [hy];clear hy;have HFL := ae (cw y);go_upto_region 5 with (first | (refine au rfl (bk rfl) ?_) | (refine az rfl (cm rfl rfl rfl) ?_) | fail);generalize w2.alloc (.cells (aS y).toArray 37) = w3 at *;have HS3 := ae HW3.out.sup;have HR3 := ae HW3.out.row;generalize w2.heap.size = s at *;refine ch (B := w3.heap.size) (by kernel_rfl) ?_;refine e9 1 ?_;refine cN rfl (fun _ => aB call118 rfl (evc abd evn)) (cz ai fun w' hw => jf n w' HEV) ?_;simp only [aa];refine e9 2 ?_;refine abc (fun _ hw => cn (c := y) rfl abd ((HS3.out.below (aX HS3) hw).range)) ?_;refine cN aaY (fun _ => aB call119 rfl (evc abd evn)) (cz ai fun w' hw => nf y w' HM) ?_;simp only [aa];refine e9 2 ?_;refine mU 6 rfl (fun _ hw => aO rfl abd) (by kernel_rfl) ?_;simp only [bu, ac, aa];refine e9 1 ?_;refine wpQuiet_nil ?_;intro w4 hw;have HW4 := ae (HW3.out.keep hw);have HR4 := ae HW4.out.res;have HB4 := ae HW4.out.bel;clear HW3 HS3 HR3 hw;go_wp2_with (first | (refine au rfl (er rfl) ?_) | (refine az rfl (cp (c := bg) rfl rfl rfl ?_) ?_; (with_reducible exact HR4.out)) | fail);refine bodyPost_ret (ex (t := 37) (cs := aS bg) rfl _ _ _ rfl ?h1 underlying37 rfl ?h2) rfl ⟨rfl, ?h3⟩
 case h1 => exact World.rangeAt_setCells_same _ _ _ _ (by rw [aG]; exact HR4)
 case h2 => rw [aG]; exact eQ
 case h3 => exact below_setCells HB4 (Nat.le_succ _) _
theorem uc (b : Blk) (w : World) (T : Tab w) (h0 : cZ b.toList = 0) (hev : evB (dy b.toList) = true) (hm : ef (bW (cJ b.toList)) = true) (hd : bZ (bW (cJ b.toList)) ≠ cJ b.toList) : Calls prog 117 #[blk b] w fun e w' => e = .returned (.tuple #[.int .u64 (0 : Nat), sup bg, .int .i64 (5 : Nat)]) /\ Below w.heap.size w w' := by
 obtain ⟨n, hn⟩ : ∃ n, dy b.toList = n := ⟨_, rfl⟩;obtain ⟨l, hl⟩ : ∃ l, cJ b.toList = l := ⟨_, rfl⟩;have h1 := (Below.refl w.heap.size w).alloc ai (.cells (cel b).toArray 29);have h2 := h1.alloc h1.size (.cells (aS bg).toArray 37);have HA : Hid (((w.alloc (.cells (cel b).toArray 29)).alloc (.cells (aS bg).toArray 37)).rangeAt w.heap.size 0 (cel b)) := ae (World.rangeAt_alloc (dt w (cel b) 29) _);have hsn := bU.new (w.alloc (.cells (cel b).toArray 29)) bg;rw [World.size_alloc] at hsn;have HR := ae (a8 (o := 0) (n := 23) hsn (by rw [aG]; exact ai));have HZ := ae (aX hsn);have HB := ae h2;have HT := ae (T.below h2);have HN := ae hn;have HL := ae hl;clear h1 h2 hsn T;rw [hn] at hev;rw [hl] at hm hd;have HEV := ae hev;have HM0 := ae hm;have HD0 : Hid (decide (bZ (bW l) = l) = false) := ae (al hd);clear hev hm hd;clear hn hl;go_enter func117, ntmps117;go_wp2_with (first | (refine au rfl (bV rfl rfl) ?_) | (refine au rfl (bk rfl) ?_) | (refine au rfl (bm (c := b) rfl rfl ?_) ?_; (with_reducible exact HA.out)) | fail)
 try simp only [World.size_alloc]
 generalize (w.alloc (.cells (cel b).toArray 29)).alloc (.cells (aS bg).toArray 37) = w0 at *;refine (gM b _ w0 (ae rfl) HT).mono ?_;rintro e w1 ⟨v, rfl, hv, hb⟩;rw [HN.out];rw [h0];have hll : l.length = 44 := by rw [<- HL.out]; exact gK h0
 have HLL := ae hll;rw [HL.out] at hv;obtain ⟨g, hve, hrow⟩ : ∃ g, v = .slice (some ⟨g, 0, none⟩) 44 44 /\ cg w1 g 5 l := by
  rcases hv with ⟨_, rfl⟩ | ⟨g, e, _, hr, _⟩
  ·simp at hll
  ·rw [hll] at e; exact ⟨g, e, hr⟩
 subst hve;have HR1 := ae (bL HR HZ hb);have HB1 := ae (HB.out.trans (hb.mono HB.out.size));have HZ1 : Hid (w.heap.size + 1 < w1.heap.size) := ae (aq HZ hb.size);have HRW := ae hrow;clear hv hb HA HR HB HZ hll h0 hrow;go_wp2_with fail;refine (rp g l w1 HLL HRW).mono ?_;rintro e w2 ⟨rfl, hb⟩;have hb3 := hb.alloc hb.size (.cells (aS (bW l)).toArray 37);have HW3 : Hid (SgW w (w2.alloc (.cells (aS (bW l)).toArray 37)) b g w2.heap.size l (bW l)) := ae ⟨HRW.out.below HRW.out.lt hb3, bU.new w2 _, bL HR1 HZ1 hb3, HB1.out.trans (hb3.mono HB1.out.size), aq HZ1 hb3.size⟩;have HI : Hid ((bW l).id < 18446744073709551616) := ae (fm (by rw [HLL.out]; omega));clear hb hb3 HRW HR1 HB1 HZ1;obtain ⟨y, hy⟩ : ∃ y, bW l = y := ⟨_, rfl⟩;have HY := ae hy;rw [hy] at HW3 HI HM0 HD0;have HM := HM0;have HD := HD0;rw [hy];clear hy;have HFL := ae (cw y);go_upto_region 5 with (first | (refine au rfl (bk rfl) ?_) | (refine az rfl (cm rfl rfl rfl) ?_) | fail);generalize w2.alloc (.cells (aS y).toArray 37) = w3 at *;have HS3 := ae HW3.out.sup;have HR3 := ae HW3.out.row;generalize w2.heap.size = s at *;refine ch (B := w3.heap.size) (by kernel_rfl) ?_;refine e9 1 ?_;refine cN rfl (fun _ => aB call118 rfl (evc abd evn)) (cz ai fun w' hw => jf n w' HEV) ?_;simp only [aa];refine e9 2 ?_;refine abc (fun _ hw => cn (c := y) rfl abd ((HS3.out.below (aX HS3) hw).range)) ?_;refine cN aaY (fun _ => aB call119 rfl (evc abd evn)) (cz ai fun w' hw => nf y w' HM) ?_;simp only [aa];refine e9 3 ?_;refine abc (fun _ hw => cn (c := y) rfl abd ((HS3.out.below (aX HS3) hw).range)) ?_;refine cN aaY (fun _ => aB call120 rfl (evc abd evn)) (cz ai fun w' hw => vO y w' HI HM) ?_;simp only [aa];refine e9 1 ?_;refine abc (fun _ hw => oL rfl abd) ?_;refine abc (fun _ hw => fB HLL rfl abd (bK (HR3.out.below HR3.out.lt hw))) ?_;refine abc (fun _ hw => mE false HFL HLL rfl abd abd HD) ?_;refine e9 1 ?_;refine wpQuiet_nil ?_;intro w4 hw;have HW4 := ae (HW3.out.keep hw);have HR4 := ae HW4.out.res;have HB4 := ae HW4.out.bel;clear HW3 HS3 HR3 hw;go_wp2_with (first | (refine au rfl (er rfl) ?_) | (refine az rfl (cp (c := bg) rfl rfl rfl ?_) ?_; (with_reducible exact HR4.out)) | fail);refine bodyPost_ret (ex (t := 37) (cs := aS bg) rfl _ _ _ rfl ?h1 underlying37 rfl ?h2) rfl ⟨rfl, ?h3⟩
 case h1 => exact World.rangeAt_setCells_same _ _ _ _ (by rw [aG]; exact HR4)
 case h2 => rw [aG]; exact eQ
 case h3 => exact below_setCells HB4 (Nat.le_succ _) _
theorem tH (b : Blk) (w : World) (T : Tab w) (h0 : cZ b.toList = 0) (hev : evB (dy b.toList) = true) (hm : ef (bW (cJ b.toList)) = true) (hd : bZ (bW (cJ b.toList)) = cJ b.toList) : Calls prog 117 #[blk b] w fun e w' => e = .returned (.tuple #[.int .u64 (dy b.toList : Nat), sup (bW (cJ b.toList)), .int .i64 (0 : Nat)]) /\ Below w.heap.size w w' := by
 obtain ⟨n, hn⟩ : ∃ n, dy b.toList = n := ⟨_, rfl⟩;obtain ⟨l, hl⟩ : ∃ l, cJ b.toList = l := ⟨_, rfl⟩;have h1 := (Below.refl w.heap.size w).alloc ai (.cells (cel b).toArray 29);have h2 := h1.alloc h1.size (.cells (aS bg).toArray 37);have HA : Hid (((w.alloc (.cells (cel b).toArray 29)).alloc (.cells (aS bg).toArray 37)).rangeAt w.heap.size 0 (cel b)) := ae (World.rangeAt_alloc (dt w (cel b) 29) _);have hsn := bU.new (w.alloc (.cells (cel b).toArray 29)) bg;rw [World.size_alloc] at hsn;have HR := ae (a8 (o := 0) (n := 23) hsn (by rw [aG]; exact ai));have HZ := ae (aX hsn);have HB := ae h2;have HT := ae (T.below h2);have HN := ae hn;have HL := ae hl;clear h1 h2 hsn T;rw [hn] at hev;rw [hl] at hm hd;have HEV := ae hev;have HM0 := ae hm;have HD0 : Hid (decide (bZ (bW l) = l) = true) := ae (am hd);clear hev hm hd;clear hn hl;go_enter func117, ntmps117;go_wp2_with (first | (refine au rfl (bV rfl rfl) ?_) | (refine au rfl (bk rfl) ?_) | (refine au rfl (bm (c := b) rfl rfl ?_) ?_; (with_reducible exact HA.out)) | fail)
 try simp only [World.size_alloc]
 generalize (w.alloc (.cells (cel b).toArray 29)).alloc (.cells (aS bg).toArray 37) = w0 at *;refine (gM b _ w0 (ae rfl) HT).mono ?_;rintro e w1 ⟨v, rfl, hv, hb⟩;rw [HN.out];rw [h0];have hll : l.length = 44 := by rw [<- HL.out]; exact gK h0
 have HLL := ae hll;rw [HL.out] at hv;obtain ⟨g, hve, hrow⟩ : ∃ g, v = .slice (some ⟨g, 0, none⟩) 44 44 /\ cg w1 g 5 l := by
  rcases hv with ⟨_, rfl⟩ | ⟨g, e, _, hr, _⟩
  ·simp at hll
  ·rw [hll] at e; exact ⟨g, e, hr⟩
 subst hve;have HR1 := ae (bL HR HZ hb);have HB1 := ae (HB.out.trans (hb.mono HB.out.size));have HZ1 : Hid (w.heap.size + 1 < w1.heap.size) := ae (aq HZ hb.size);have HRW := ae hrow;clear hv hb HA HR HB HZ hll h0 hrow;go_wp2_with fail;refine (rp g l w1 HLL HRW).mono ?_;rintro e w2 ⟨rfl, hb⟩;have hb3 := hb.alloc hb.size (.cells (aS (bW l)).toArray 37);have HW3 : Hid (SgW w (w2.alloc (.cells (aS (bW l)).toArray 37)) b g w2.heap.size l (bW l)) := ae ⟨HRW.out.below HRW.out.lt hb3, bU.new w2 _, bL HR1 HZ1 hb3, HB1.out.trans (hb3.mono HB1.out.size), aq HZ1 hb3.size⟩;have HI : Hid ((bW l).id < 18446744073709551616) := ae (fm (by rw [HLL.out]; omega));clear hb hb3 HRW HR1 HB1 HZ1;obtain ⟨y, hy⟩ : ∃ y, bW l = y := ⟨_, rfl⟩;have HY := ae hy;rw [hy] at HW3 HI HM0 HD0;have HM := HM0;have HD := HD0;rw [hy];clear hy;have HFL := ae (cw y);go_upto_region 5 with (first | (refine au rfl (bk rfl) ?_) | (refine az rfl (cm rfl rfl rfl) ?_) | fail);generalize w2.alloc (.cells (aS y).toArray 37) = w3 at *;have HS3 := ae HW3.out.sup;have HR3 := ae HW3.out.row;generalize w2.heap.size = s at *;refine ch (B := w3.heap.size) (by kernel_rfl) ?_;refine e9 1 ?_;refine cN rfl (fun _ => aB call118 rfl (evc abd evn)) (cz ai fun w' hw => jf n w' HEV) ?_;simp only [aa];refine e9 2 ?_;refine abc (fun _ hw => cn (c := y) rfl abd ((HS3.out.below (aX HS3) hw).range)) ?_;refine cN aaY (fun _ => aB call119 rfl (evc abd evn)) (cz ai fun w' hw => nf y w' HM) ?_;simp only [aa];refine e9 3 ?_;refine abc (fun _ hw => cn (c := y) rfl abd ((HS3.out.below (aX HS3) hw).range)) ?_;refine cN aaY (fun _ => aB call120 rfl (evc abd evn)) (cz ai fun w' hw => vO y w' HI HM) ?_;simp only [aa];refine e9 1 ?_;refine abc (fun _ hw => oL rfl abd) ?_;refine abc (fun _ hw => fB HLL rfl abd (bK (HR3.out.below HR3.out.lt hw))) ?_;refine abc (fun _ hw => mE true HFL HLL rfl abd abd HD) ?_;refine e9 1 ?_;refine wpQuiet_nil ?_;intro w4 hw;have HW4 := ae (HW3.out.keep hw);have HR4 := ae HW4.out.res;have HB4 := ae HW4.out.bel;have HLD := ae HW4.out.sup.range;clear HW3 HS3 HR3 hw;go_wp2_with fail;refine wp_region_still_tail 3 (by kernel_rfl) (by kernel_rfl) ?_;simp only [ac];refine aM rfl (aO rfl abd) ?_;simp only [aa];refine aM rfl (cn (c := y) rfl abd HLD) ?_;simp only [aa];refine aM rfl (dU rfl abd) ?_;simp only [aa];refine wpStill_nil ?_;change wpList _ _ _ _ _ (World.drew _);refine a9 rfl (cp (c := y) rfl (ev rfl) (ev rfl) HR4.out) ?_;simp only [aa];refine aK 1 ?_;go_wp2_with fail;refine bodyPost_ret (ex (t := 37) (cs := aS y) rfl _ _ _ rfl ?h1 underlying37 rfl ?h2) rfl ⟨by rw [HN.out, HL.out, HY.out]; rfl, ?h3⟩
 case h1 => exact World.rangeAt_setCells_same _ _ _ _ (by rw [aG]; exact HR4)
 case h2 => rw [aG]; exact eQ
 case h3 => exact below_setCells (bd HB4) (Nat.le_succ _) _
theorem rk (b : Blk) (w : World) (T : Tab w) : Calls prog 117 #[blk b] w fun e w' => e = .returned (.tuple #[.int .u64 (gsN b : Nat), sup (gsS b), .int .i64 (gsE b : Nat)]) /\ Below w.heap.size w w' := by
 by_cases h0 : cZ b.toList = 0
 ·by_cases hev : evB (dy b.toList) = true
  ·by_cases hm : ef (bW (cJ b.toList)) = true
   ·by_cases hd : bZ (bW (cJ b.toList)) = cJ b.toList
    ·have hE := vG h0 ⟨hev, hm, hd⟩;rw [nk hE, pT hE, hE];exact tH b w T h0 hev hm hd
    ·have hE := ld h0 (fun h => hd h.2.2);rw [iW (by omega), kW (by omega), hE];exact uc b w T h0 hev hm hd
   ·have hE := ld h0 (fun h => hm h.2.1);rw [iW (by omega), kW (by omega), hE];exact sy b w T h0 hev (by simpa using hm)
  ·have hE := ld h0 (fun h => hev h.1);rw [iW (by omega), kW (by omega), hE];exact tM b w T h0 (by simpa using hev)
 ·have hE := oW h0;rw [iW (by omega), kW (by omega), hE];exact pU b w T h0
def w3_ (w : World) (a b : Blk) : World := ((w.alloc (.cells (cel a).toArray 29)).alloc (.cells (cel b).toArray 29)).alloc (.cells (aS bg).toArray 37)
theorem jB (w : World) (a b : Blk) : (w3_ w a b).rangeAt w.heap.size 0 (cel a) /\ (w3_ w a b).rangeAt (w.heap.size + 1) 0 (cel b) /\ (w3_ w a b).there (w.heap.size + 1 + 1) 0 23 /\ Below w.heap.size w (w3_ w a b) /\ w.heap.size + 1 + 1 < (w3_ w a b).heap.size := by
 unfold w3_;have e1 := World.size_alloc (w := w) (o := Obj.cells (cel a).toArray 29);have e2 := World.size_alloc (w := (w.alloc (.cells (cel a).toArray 29))) (o := Obj.cells (cel b).toArray 29);have h3 := bU.new ((w.alloc (.cells (cel a).toArray 29)).alloc (.cells (cel b).toArray 29)) bg;rw [e2, e1] at h3;refine ⟨World.rangeAt_alloc (World.rangeAt_alloc (dt w (cel a) _) _) _, ?_, a8 (o := 0) (n := 23) h3 (by rw [aG]; exact ai), ?_, aX h3⟩
 ·rw [<- e1]; exact World.rangeAt_alloc (dt _ (cel b) _) _
 ·exact (((Below.refl _ w).alloc ai _).alloc (by omega) _).alloc (by omega) _
theorem oo {fn : Func} {p q u : Tmp} {t : TypeId} {cs : List Value} {d : TypeDesc} (h : fn.results = #[.tmp p, .tmp u, .cell q t]) (tmps : Array Value) (w : World) (b : Nat) (hq : tmps.getD q undef = .pointer (some ⟨b, 0, none⟩)) (hr : w.rangeAt b 0 cs) (hu : prog.underlying t = some d) (hd : d.isRow = true) (hz : (prog.info? t).map (·.size) = some cs.length) :
  (results fn tmps).run prog w = .ok (.tuple #[tmps.getD p undef, tmps.getD u undef, .agg cs.toArray]) w := by
 have hl : (loadVar t ⟨b, 0, none⟩).run prog w = .ok (.agg cs.toArray) w := run_loadVar_mid (P := prog) w b 0 t cs d hr hu hd hz;have hq' : tmps[q]?.getD undef = .pointer (some ⟨b, 0, none⟩) := by simpa using hq
 simp [results, h, hq', asAddr, hl]
theorem kF {w : World} {b : Nat} (c : Sup) (h : w.there b 0 23) : (w.setCells b 0 (aS c)).rangeAt b 0 (aS c) := World.rangeAt_setCells_same _ _ _ _ (by rw [aG]; exact h)
def nwW (a b : Blk) : Nat := if gsN a < gsN b then 1 else 0
theorem sO (a b : Blk) (w : World) (T : Tab w) (hlt : gsN a < gsN b) : Calls prog 105 #[blk a, blk b] w fun e w' => e = .returned (.tuple #[.int .i64 1, .int .u64 (gsN b : Nat), sup (gsS b)]) /\ Below w.heap.size w w' := by
 obtain ⟨h1, h2, h3, h4, h5⟩ := jB w a b;unfold w3_ at h1 h2 h3 h4 h5;obtain ⟨x, hx⟩ : ∃ x, gsN a = x := ⟨_, rfl⟩;obtain ⟨y, hy⟩ : ∃ y, gsN b = y := ⟨_, rfl⟩;rw [hx, hy] at hlt;obtain ⟨p, hp⟩ : ∃ p, gsS a = p := ⟨_, rfl⟩;obtain ⟨q, hq⟩ : ∃ q, gsS b = q := ⟨_, rfl⟩;have HX := ae hx;have HY := ae hy;have HP := ae hp;have HQ := ae hq;have HA := ae h1;have HBK := ae h2;have HR := ae h3;have HB := ae h4;have HZ := ae h5;have HT := ae T;clear h1 h2 h3 h4 h5 T hx hy hp hq;go_enter func105, ntmps105;go_wp2_with (first | (refine au rfl (bV rfl rfl) ?_) | (refine au rfl (bk rfl) ?_) | (refine au rfl (bm (c := a) rfl rfl ?_) ?_; (with_reducible exact HA.out)) | fail)
 try simp only [World.size_alloc]
 generalize ((w.alloc (.cells (cel a).toArray 29)).alloc (.cells (cel b).toArray 29)).alloc (.cells (aS bg).toArray 37) = w0 at *;refine (rk a w0 (HT.out.below HB)).mono ?_;rintro e w1 ⟨rfl, hb⟩;have HBK1 := ae (World.rangeAt_setCells_apart (eU HBK (by have := HZ.out; omega) hb) (w.heap.size + 1 + 1) 0 (aS (gsS a)) (.inl (by omega)));have HR1 := ae (bL HR HZ hb);have hb1 := HB.out.trans (hb.mono HB.out.size);have HB1 := ae (below_setCells (b := w.heap.size + 1 + 1) (o := 0) hb1 (by omega) (aS (gsS a)));have HPR := ae (kF (gsS a) HR1);have HR2 := ae (World.there_setCells HR1 (w.heap.size + 1 + 1) 0 (aS (gsS a)));have HZ1 : Hid (w.heap.size + 1 + 1 < (w1.setCells (w.heap.size + 1 + 1) 0 (aS (gsS a))).heap.size) := ae (by rw [size_setCells]; exact aq HZ hb.size);rw [HP.out] at HBK1 HB1 HPR HR2 HZ1;rw [HX.out, HP.out];clear hb hb1 HBK HR HB HA HZ;go_upto_region 2 with (first | (refine az rfl (cp (c := p) rfl rfl rfl ?_) ?_; (with_reducible exact HR1.out)) | fail);generalize w1.setCells (w.heap.size + 1 + 1) 0 (aS p) = w2 at *;go_wp2_with (first | (refine au rfl (bm (c := b) rfl rfl ?_) ?_; (with_reducible exact HBK1.out)) | fail);refine (rk b w2 (HT.out.below HB1)).mono ?_;rintro e w3 ⟨rfl, hb⟩;have hb3 := hb.alloc hb.size (.cells (aS (gsS b)).toArray 37);have HPR3 := ae (eU HPR HZ1 hb3);have HR3 := ae (bL HR2 HZ1 hb3);have HB3 := ae (HB1.out.trans (hb3.mono HB1.out.size));have HQR3 := ae (bU.new w3 (gsS b)).range;rw [HQ.out] at HPR3 HR3 HB3 HQR3;rw [HY.out, HQ.out];clear hb hb3 HBK1 HPR HR2 HB1 HR1 HZ1;have hd : decide ((x : Int) < (y : Int)) = true := by simp; omega
 have hd2 : decide (x < y) = true := by simp; omega
 clear hlt;go_upto_region 4 with (first | (refine au rfl (bk rfl) ?_) | (refine az rfl (cm rfl rfl rfl) ?_) | fail);generalize w3.alloc (.cells (aS q).toArray 37) = w4 at *;go_wp2_with fail;refine wp_region_still_tail 4 (by kernel_rfl) (by kernel_rfl) ?_;simp only [ac];refine aM rfl (aO rfl abd) ?_;simp only [aa];refine aM rfl (cn (c := q) rfl abd HQR3) ?_;simp only [aa];refine aM rfl (dU rfl evk) ?_;simp only [aa];refine aM rfl (dU rfl abd) ?_;simp only [aa];refine wpStill_nil ?_;change wpList _ _ _ _ _ (World.drew _);refine a9 rfl (cp (c := q) rfl (ev rfl) (ev rfl) HR3.out) ?_;simp only [aa];refine ag ?_;go_wp2_with fail;refine bodyPost_ret (oo (t := 37) (cs := aS q) rfl _ _ _ rfl ?h1 underlying37 rfl ?h2) rfl ⟨by rw [HY.out, HQ.out]; rfl, ?h3⟩
 case h1 => exact World.rangeAt_setCells_same _ _ _ _ (by rw [aG]; exact HR3)
 case h2 => rw [aG]; exact eQ
 case h3 => exact below_setCells (bd HB3) (by omega) _
theorem sV (a b : Blk) (w : World) (T : Tab w) (hlt : ¬ gsN a < gsN b) : Calls prog 105 #[blk a, blk b] w fun e w' => e = .returned (.tuple #[.int .i64 0, .int .u64 (gsN a : Nat), sup (gsS a)]) /\ Below w.heap.size w w' := by
 obtain ⟨h1, h2, h3, h4, h5⟩ := jB w a b;unfold w3_ at h1 h2 h3 h4 h5;obtain ⟨x, hx⟩ : ∃ x, gsN a = x := ⟨_, rfl⟩;obtain ⟨y, hy⟩ : ∃ y, gsN b = y := ⟨_, rfl⟩;rw [hx, hy] at hlt;obtain ⟨p, hp⟩ : ∃ p, gsS a = p := ⟨_, rfl⟩;obtain ⟨q, hq⟩ : ∃ q, gsS b = q := ⟨_, rfl⟩;have HX := ae hx;have HY := ae hy;have HP := ae hp;have HQ := ae hq;have HA := ae h1;have HBK := ae h2;have HR := ae h3;have HB := ae h4;have HZ := ae h5;have HT := ae T;clear h1 h2 h3 h4 h5 T hx hy hp hq;go_enter func105, ntmps105;go_wp2_with (first | (refine au rfl (bV rfl rfl) ?_) | (refine au rfl (bk rfl) ?_) | (refine au rfl (bm (c := a) rfl rfl ?_) ?_; (with_reducible exact HA.out)) | fail)
 try simp only [World.size_alloc]
 generalize ((w.alloc (.cells (cel a).toArray 29)).alloc (.cells (cel b).toArray 29)).alloc (.cells (aS bg).toArray 37) = w0 at *;refine (rk a w0 (HT.out.below HB)).mono ?_;rintro e w1 ⟨rfl, hb⟩;have HBK1 := ae (World.rangeAt_setCells_apart (eU HBK (by have := HZ.out; omega) hb) (w.heap.size + 1 + 1) 0 (aS (gsS a)) (.inl (by omega)));have HR1 := ae (bL HR HZ hb);have hb1 := HB.out.trans (hb.mono HB.out.size);have HB1 := ae (below_setCells (b := w.heap.size + 1 + 1) (o := 0) hb1 (by omega) (aS (gsS a)));have HPR := ae (kF (gsS a) HR1);have HR2 := ae (World.there_setCells HR1 (w.heap.size + 1 + 1) 0 (aS (gsS a)));have HZ1 : Hid (w.heap.size + 1 + 1 < (w1.setCells (w.heap.size + 1 + 1) 0 (aS (gsS a))).heap.size) := ae (by rw [size_setCells]; exact aq HZ hb.size);rw [HP.out] at HBK1 HB1 HPR HR2 HZ1;rw [HX.out, HP.out];clear hb hb1 HBK HR HB HA HZ;go_upto_region 2 with (first | (refine az rfl (cp (c := p) rfl rfl rfl ?_) ?_; (with_reducible exact HR1.out)) | fail);generalize w1.setCells (w.heap.size + 1 + 1) 0 (aS p) = w2 at *;go_wp2_with (first | (refine au rfl (bm (c := b) rfl rfl ?_) ?_; (with_reducible exact HBK1.out)) | fail);refine (rk b w2 (HT.out.below HB1)).mono ?_;rintro e w3 ⟨rfl, hb⟩;have hb3 := hb.alloc hb.size (.cells (aS (gsS b)).toArray 37);have HPR3 := ae (eU HPR HZ1 hb3);have HR3 := ae (bL HR2 HZ1 hb3);have HB3 := ae (HB1.out.trans (hb3.mono HB1.out.size));have HQR3 := ae (bU.new w3 (gsS b)).range;rw [HQ.out] at HPR3 HR3 HB3 HQR3;rw [HY.out, HQ.out];clear hb hb3 HBK1 HPR HR2 HB1 HR1 HZ1;have hd : decide ((x : Int) < (y : Int)) = false := by simp; omega
 have hd2 : decide (x < y) = false := by simp; omega
 clear hlt;go_upto_region 5 with (first | (refine au rfl (bk rfl) ?_) | (refine az rfl (cm rfl rfl rfl) ?_) | fail);generalize w3.alloc (.cells (aS q).toArray 37) = w4 at *;go_wp2_with fail;refine wp_region_still_tail 4 (by kernel_rfl) (by kernel_rfl) ?_;simp only [ac];refine aM rfl (aO rfl abd) ?_;simp only [aa];refine aM rfl (cn (c := p) rfl abd HPR3) ?_;simp only [aa];refine aM rfl (dU rfl evk) ?_;simp only [aa];refine aM rfl (dU rfl abd) ?_;simp only [aa];refine wpStill_nil ?_;change wpList _ _ _ _ _ (World.drew _);refine a9 rfl (cp (c := p) rfl (ev rfl) (ev rfl) HR3.out) ?_;simp only [aa];refine ag ?_;go_wp2_with fail;refine bodyPost_ret (oo (t := 37) (cs := aS p) rfl _ _ _ rfl ?h1 underlying37 rfl ?h2) rfl ⟨by rw [HX.out, HP.out]; rfl, ?h3⟩
 case h1 => exact World.rangeAt_setCells_same _ _ _ _ (by rw [aG]; exact HR3)
 case h2 => rw [aG]; exact eQ
 case h3 => exact below_setCells (bd HB3) (by omega) _
theorem rI (a b : Blk) (w : World) (T : Tab w) : Calls prog 105 #[blk a, blk b] w fun e w' => e = .returned (.tuple #[.int .i64 (nwW a b : Nat), .int .u64 (nwN a b : Nat), sup (nwS a b)]) /\ Below w.heap.size w w' := by
 unfold nwW nwN nwS;by_cases hlt : gsN a < gsN b
 ·rw [if_pos hlt, if_pos hlt, if_pos hlt];exact sO a b w T hlt
 ·rw [if_neg hlt, if_neg hlt, if_neg hlt];exact sV a b w T hlt
theorem xT (w : World) (a b : Blk) : ((w.alloc (.cells (cel a).toArray 29)).alloc (.cells (cel b).toArray 29)).rangeAt w.heap.size 0 (cel a) /\ ((w.alloc (.cells (cel a).toArray 29)).alloc (.cells (cel b).toArray 29)).rangeAt (w.heap.size + 1) 0 (cel b) /\ Below w.heap.size w ((w.alloc (.cells (cel a).toArray 29)).alloc (.cells (cel b).toArray 29)) /\ w.heap.size + 1 < ((w.alloc (.cells (cel a).toArray 29)).alloc (.cells (cel b).toArray 29)).heap.size := by
 have e1 := World.size_alloc (w := w) (o := Obj.cells (cel a).toArray 29);refine ⟨World.rangeAt_alloc (dt w (cel a) _) _, ?_, ?_, by simp only [World.size_alloc]; omega⟩
 ·rw [<- e1]; exact dt _ (cel b) _
 ·exact ((Below.refl _ w).alloc ai _).alloc (by omega) _
theorem vU (a b : Blk) : kb a b = if nwN a b ≠ 0 /\ nwW a b = 0 then 1 else 0 := by
 unfold kb nwN nwW;by_cases h : gsN a < gsN b
 ·rw [if_pos h, if_pos h, if_neg (by omega), if_neg (by omega)]
 ·rw [if_neg h, if_neg h];by_cases h0 : gsN a ≠ 0
  ·rw [if_pos ⟨h0, h⟩, if_pos ⟨h0, rfl⟩]
  ·rw [if_neg (by omega), if_neg (by omega)]
theorem wd (a b : Blk) : nwW a b = 0 \/ nwW a b = 1 := by unfold nwW; split <;> omega
theorem zJ (a b : Blk) (w : World) (T : Tab w) : Calls prog 114 #[blk a, blk b] w fun e w' => e = .returned (.int .i64 (kb a b : Nat)) /\ Below w.heap.size w w' := by
 obtain ⟨h1, h2, h4, h5⟩ := xT w a b;have HSL := ae (vU a b);have h2w := wd a b;obtain ⟨n, hn⟩ : ∃ n, nwN a b = n := ⟨_, rfl⟩;obtain ⟨k, hk⟩ : ∃ k, nwW a b = k := ⟨_, rfl⟩;obtain ⟨p, hp⟩ : ∃ p, nwS a b = p := ⟨_, rfl⟩;rw [hn, hk] at HSL;rw [hk] at h2w;have HA := ae h1;have HBK := ae h2;have HB := ae h4;have HT := ae (T.below h4);have HN := ae hn;have HK := ae hk;have HP := ae hp;clear h1 h2 h4 h5 T hn hk hp;go_enter func114, ntmps114;go_wp2_with (first | (refine au rfl (bV rfl rfl) ?_) | (refine au rfl (bm (c := a) rfl rfl ?_) ?_; (with_reducible exact HA.out)) | (refine au rfl (bm (c := b) rfl rfl ?_) ?_; (with_reducible exact HBK.out)) | fail);refine (rI a b _ HT).mono ?_;rintro e w1 ⟨rfl, hb⟩;rw [HN.out, HK.out, HP.out];have hb1 := HB.out.trans (hb.mono HB.out.size);have HB1 := ae (hb1.alloc hb1.size (.cells (aS p).toArray 37));clear hb hb1 HA HBK HB HT;by_cases hn0 : n = 0
 ·subst hn0;rw [if_neg (by omega)] at HSL;go_wp2_with (first | (refine au rfl (bk rfl) ?_) | (refine az rfl (cm rfl rfl rfl) ?_) | fail);go_ret;exact ⟨by rw [HSL.out]; rfl, HB1⟩
 ·have hne : ((n : Int) != 0) = true := by simp; omega
  rcases h2w with rfl | rfl
  ·rw [if_pos ⟨hn0, rfl⟩] at HSL;clear hn0;go_wp2_with (first | (refine au rfl (bk rfl) ?_) | (refine az rfl (cm rfl rfl rfl) ?_) | fail);go_ret;exact ⟨by rw [HSL.out]; rfl, HB1⟩
  ·rw [if_neg (by omega)] at HSL;clear hn0;go_wp2_with (first | (refine au rfl (bk rfl) ?_) | (refine az rfl (cm rfl rfl rfl) ?_) | fail);go_ret;exact ⟨by rw [HSL.out]; rfl, HB1⟩
theorem yA (a b : Blk) : nwE a b = if nwN a b = 0 then 7 else 0 := by
 unfold nwE nwN;by_cases h : gsN a < gsN b
 ·rw [if_pos h, if_neg (by omega), if_neg (by omega)]
 ·rw [if_neg h];by_cases h0 : gsN a = 0
  ·rw [if_pos (by omega), if_pos h0]
  ·rw [if_neg (by omega), if_neg h0]
theorem vc {a b : Blk} (h : nwN a b = 0) : nwS a b = bg := by
 unfold nwN at h;unfold nwS;by_cases hl : gsN a < gsN b
 ·rw [if_pos hl] at h; omega
 ·rw [if_neg hl] at h ⊢;exact kW (lf.1 h)
theorem qH (a b : Blk) (w : World) (T : Tab w) : Calls prog 82 #[blk a, blk b] w fun e w' => e = .returned (.tuple #[.int .u64 (nwN a b : Nat), sup (nwS a b), .int .i64 (nwE a b : Nat)]) /\ Below w.heap.size w w' := by
 obtain ⟨h1, h2, h3, h4, h5⟩ := jB w a b;unfold w3_ at h1 h2 h3 h4 h5;have HE := ae (yA a b);have HNO := fun h => ae (vc (a := a) (b := b) h)
 obtain ⟨n, hn⟩ : ∃ n, nwN a b = n := ⟨_, rfl⟩;obtain ⟨p, hp⟩ : ∃ p, nwS a b = p := ⟨_, rfl⟩;rw [hn] at HE HNO;rw [hp] at HNO;have HA := ae h1;have HBK := ae h2;have HR := ae h3;have HB := ae h4;have HZ := ae h5;have HT := ae (T.below h4);have HN := ae hn;have HP := ae hp;clear h1 h2 h3 h4 h5 T hn hp;go_enter func82, ntmps82;go_wp2_with (first | (refine au rfl (bV rfl rfl) ?_) | (refine au rfl (bk rfl) ?_) | (refine au rfl (bm (c := a) rfl rfl ?_) ?_; (with_reducible exact HA.out)) | (refine au rfl (bm (c := b) rfl rfl ?_) ?_; (with_reducible exact HBK.out)) | fail)
 try simp only [World.size_alloc]
 generalize ((w.alloc (.cells (cel a).toArray 29)).alloc (.cells (cel b).toArray 29)).alloc (.cells (aS bg).toArray 37) = w0 at *;refine (rI a b w0 HT).mono ?_;rintro e w1 ⟨rfl, hb⟩;rw [HN.out, HP.out];have hb2 := hb.alloc hb.size (.cells (aS p).toArray 37);have HR1 := ae (bL HR HZ hb2);have HB1 := ae (HB.out.trans (hb2.mono HB.out.size));have HPR := ae (bU.new w1 p).range;clear hb hb2 HA HBK HR HB HT;by_cases hn0 : n = 0
 ·have HPZ := HNO hn0;subst hn0;rw [if_pos rfl] at HE;go_wp2_with (first | (refine au rfl (bk rfl) ?_) | (refine az rfl (cm rfl rfl rfl) ?_) | (refine au rfl (er rfl) ?_) | (refine az rfl (cp (c := bg) rfl rfl rfl ?_) ?_; (with_reducible exact HR1.out)) | fail);refine bodyPost_ret (ex (t := 37) (cs := aS bg) rfl _ _ _ rfl ?h1 underlying37 rfl ?h2) rfl ⟨by rw [HN.out, HP.out, HPZ.out, HE.out]; rfl, ?h3⟩
  case h1 => exact World.rangeAt_setCells_same _ _ _ _ (by rw [aG]; exact HR1)
  case h2 => rw [aG]; exact eQ
  case h3 => exact below_setCells HB1 (by omega) _
 ·have hne : ((n : Int) == 0) = false := by simp; omega
  rw [if_neg hn0] at HE;clear hn0;go_upto_region 4 with (first | (refine au rfl (bk rfl) ?_) | (refine az rfl (cm rfl rfl rfl) ?_) | fail);generalize w1.alloc (.cells (aS p).toArray 37) = w2 at *;go_wp2_with fail;refine wp_region_still_tail 3 (by kernel_rfl) (by kernel_rfl) ?_;simp only [ac];refine aM rfl (aO rfl abd) ?_;simp only [aa];refine aM rfl (cn (c := p) rfl abd HPR) ?_;simp only [aa];refine aM rfl (dU rfl abd) ?_;simp only [aa];refine wpStill_nil ?_;change wpList _ _ _ _ _ (World.drew _);refine a9 rfl (cp (c := p) rfl (ev rfl) (ev rfl) HR1.out) ?_;simp only [aa];refine aK 1 ?_;go_wp2_with fail;refine bodyPost_ret (ex (t := 37) (cs := aS p) rfl _ _ _ rfl ?h1 underlying37 rfl ?h2) rfl ⟨by rw [HN.out, HP.out, HE.out]; rfl, ?h3⟩
  case h1 => exact World.rangeAt_setCells_same _ _ _ _ (by rw [aG]; exact HR1)
  case h2 => rw [aG]; exact eQ
  case h3 => exact below_setCells (bd HB1) (by omega) _
def same (a b : List UInt8) : Bool := a == b
theorem mR (x : Ros) (m : Int) (w : World) : Calls prog 87 #[ros x, .int .i64 m] w fun e w' => e = .returned (.bool (eX x m)) /\ Below w.heap.size w w' := by
 obtain ⟨h1, h2, h3⟩ := cP w x;have HR := ae h1;have HB := ae h2;have HC := ae h1.cells.1;clear h1 h2 h3;have HF : Hid (eX x m = decide (0 <= m /\ m < x.m)) := ae rfl;go_enter func87, ntmps87;go_upto_region 1 with (first | (refine au rfl (bc rfl rfl) ?_) | fail);generalize w.alloc (.cells (aQ x).toArray 35) = w1 at *;generalize x.m = k at *;by_cases h0 : 0 <= m
 ·have H0 : Hid (decide ((0 : Int) <= m) = true) := ae (am h0);refine bj 1 ?_;refine aa3 (cl true rfl abd evk H0) ?_;refine runs 2 ?_;refine aba (ax rfl abd qy) ?_;refine aba (ax rfl abd sq) ?_;refine aba (aF rfl abd (dw HC)) ?_;by_cases h1 : m < k
  ·have H1 : Hid (decide (m < k) = true) := ae (am h1);have HE : Hid (eX x m = true) := ae (by rw [HF.out, am ⟨h0, h1⟩]);clear h0 h1;refine aba (bF true rfl abd abd H1) ?_;refine aK 2 ?_;go_wp2_with fail;go_ret;exact ⟨bh (by rw [HE.out]), HB⟩
  ·have H1 : Hid (decide (m < k) = false) := ae (al h1);have HE : Hid (eX x m = false) := ae (by rw [HF.out, al (fun e => h1 e.2)]);clear h0 h1;refine aba (bF false rfl abd abd H1) ?_;refine aK 2 ?_;go_wp2_with fail;go_ret;exact ⟨bh (by rw [HE.out]), HB⟩
 ·have H0 : Hid (decide ((0 : Int) <= m) = false) := ae (al h0);have HE : Hid (eX x m = false) := ae (by rw [HF.out, al (fun e => h0 e.1)]);clear h0;refine bj 1 ?_;refine aa3 (cl false rfl abd evk H0) ?_;refine aN 5 rfl (aO rfl abd) (by kernel_rfl) ?_;simp only [bu, ac, aa];refine aK 2 ?_;go_wp2_with fail;go_ret;exact ⟨bh (by rw [HE.out]), HB⟩
theorem xl (x : Ros) (m : Int) (w : World) : Calls prog 111 #[ros x, .int .i64 m] w fun e w' => e = .returned (.bool (sD x m)) /\ Below w.heap.size w w' := by
 obtain ⟨h1, h2, h3⟩ := cP w x;have HR := ae h1;have HB := ae h2;have HC := ae h1.cells.2.1;clear h1 h2 h3;have HF : Hid (sD x m = decide (0 <= m /\ m < x.s)) := ae rfl;go_enter func111, ntmps111;go_upto_region 1 with (first | (refine au rfl (bc rfl rfl) ?_) | fail);generalize w.alloc (.cells (aQ x).toArray 35) = w1 at *;generalize x.s = k at *;by_cases h0 : 0 <= m
 ·have H0 : Hid (decide ((0 : Int) <= m) = true) := ae (am h0);refine bj 1 ?_;refine aa3 (cl true rfl abd evk H0) ?_;refine runs 2 ?_;refine aba (ax rfl abd qy) ?_;refine aba (ax rfl abd yZ) ?_;refine aba (aF rfl abd (dw HC)) ?_;by_cases h1 : m < k
  ·have H1 : Hid (decide (m < k) = true) := ae (am h1);have HE : Hid (sD x m = true) := ae (by rw [HF.out, am ⟨h0, h1⟩]);clear h0 h1;refine aba (bF true rfl abd abd H1) ?_;refine aK 2 ?_;go_wp2_with fail;go_ret;exact ⟨bh (by rw [HE.out]), HB⟩
  ·have H1 : Hid (decide (m < k) = false) := ae (al h1);have HE : Hid (sD x m = false) := ae (by rw [HF.out, al (fun e => h1 e.2)]);clear h0 h1;refine aba (bF false rfl abd abd H1) ?_;refine aK 2 ?_;go_wp2_with fail;go_ret;exact ⟨bh (by rw [HE.out]), HB⟩
 ·have H0 : Hid (decide ((0 : Int) <= m) = false) := ae (al h0);have HE : Hid (sD x m = false) := ae (by rw [HF.out, al (fun e => h0 e.1)]);clear h0;refine bj 1 ?_;refine aa3 (cl false rfl abd evk H0) ?_;refine aN 5 rfl (aO rfl abd) (by kernel_rfl) ?_;simp only [bu, ac, aa];refine aK 2 ?_;go_wp2_with fail;go_ret;exact ⟨bh (by rw [HE.out]), HB⟩
theorem x7 (x : Ros) (c : Int) (w : World) : Calls prog 110 #[ros x, .int .u8 c] w fun e w' => e = .returned (.int .i64 (many x c : Nat)) /\ Below w.heap.size w w' := by
 obtain ⟨h1, h2, h3⟩ := cP w x;have HR := ae h1;have HB := ae h2;clear h1 h2 h3;have HL := ae (gy x.st);have HH := ae (vN x c);go_enter func110, ntmps110;go_wp2_with (first | (refine au rfl (bc rfl rfl) ?_) | (refine au rfl (di HL.out rfl rfl ?_) ?_; (with_reducible exact HR.out.sts)) | fail);generalize w.alloc (.cells (aQ x).toArray 35) = w1 at *;generalize x.st.toList = l at *
 go_loop [5, 10] (fun n i => ∃ j : Nat, j <= 16 /\ i = .int .i64 j /\ n = .int .i64 (jC l c j : Nat)) (fun _ i => 16 - (intOf i).toNat)
 case atStart => exact ⟨0, Nat.zero_le _, rfl, rfl⟩
 case round =>
  obtain ⟨j, hj, rfl, rfl⟩ := hrel;by_cases hlt : j < 16
  ·have hs := ae (eG l c j);have hle := wu l c j;generalize jC l c j = n at *;by_cases h2 : bt l j = c
   ·rw [if_pos h2] at hs;have hd : (bt l j == c) = true := by simpa using h2
    clear h2;go_wp2_with (first | (refine au rfl (du (l := l) (j := j) HL hlt rfl rfl rfl) ?_) | fail)
    go_round
    case rel => exact ⟨j + 1, by omega, by go_num, by rw [hs.out]; go_num⟩
    case measure => simp [intOf]; omega
   ·rw [if_neg h2] at hs;have hd : (bt l j == c) = false := by simpa using h2
    clear h2;go_wp2_with (first | (refine au rfl (du (l := l) (j := j) HL hlt rfl rfl rfl) ?_) | fail)
    go_round
    case rel => exact ⟨j + 1, by omega, by go_num, by rw [hs.out, Nat.add_zero]⟩
    case measure => simp [intOf]; omega
  ·have e : j = 16 := by omega
   subst e;go_wp2;go_ret;exact ⟨by rw [HH.out]; rfl, HB⟩
theorem wX (x : Ros) (w : World) : Calls prog 92 #[ros x] w fun e w' => e = .returned (.bool (oG x)) /\ Below w.heap.size w w' := by
 obtain ⟨h1, h2, h3⟩ := cP w x;have HR := ae h1;have HB := ae h2;have HZ := ae h3;clear h1 h2 h3;have HC : Hid (oG x = if many x 2 = 0 then decide (x.cur = 0) else sD x x.cur) := ae (by rw [<- fq]; rfl);go_enter func92, ntmps92;go_wp2_with (first | (refine au rfl (bc rfl rfl) ?_) | (refine au rfl (bn (c := x) rfl rfl ?_) ?_; (with_reducible exact HR.out.range)) | fail);generalize w.alloc (.cells (aQ x).toArray 35) = w1 at *;refine (x7 x 2 w1).mono ?_;rintro e w2 ⟨rfl, hb⟩;have HR2 := ae (HR.out.below HZ hb);obtain ⟨c0, c1, c2, c3, c4⟩ := HR2.out.cells;have HB2 := ae (HB.out.trans (hb.mono (Nat.le_of_lt HZ)));have HZ2 := ae (aX HR2);clear hb;by_cases h0 : many x 2 = 0
 ·rw [if_pos h0] at HC;rw [h0];go_wp2;go_ret;exact ⟨bh (by rw [HC.out, Bool.eq_iff_iff]; simp), HB2⟩
 ·rw [if_neg h0] at HC;have hd : ((many x 2 : Int) == 0) = false := by simp; omega
  clear h0;generalize many x 2 = n at *;go_wp2_with (first | (refine au rfl (bn (c := x) rfl rfl ?_) ?_; (with_reducible exact HR2.out.range)) | fail);refine (xl x x.cur w2).mono ?_;rintro e w3 ⟨rfl, hb⟩;have HB3 := ae (HB2.out.trans (hb.mono (Nat.le_of_lt HZ2)));clear hb;go_wp2_with fail;go_ret;exact ⟨bh (by rw [HC.out]), HB3⟩
theorem zC {x : Ros} (h1 : ∀ k, k < 16 -> sta x k <= 2) (h2 : ∀ k : Nat, k < 16 -> sta x k ≠ 0 -> eX x (k : Int) = true) : ew x = true :=
 fY.2 ⟨h1, fun k hk hm => Classical.byContradiction fun h0 => by have := nd (h2 k hk h0); omega⟩
theorem xu {x : Ros} {k : Nat} (hk : k < 16) (h : 2 < sta x k) : ew x = false := Bool.eq_false_iff.2 fun hs => by have := (gr hs).1 k hk; omega
theorem xv {x : Ros} {k : Nat} (hk : k < 16) (h0 : sta x k ≠ 0) (h : eX x (k : Int) = false) : ew x = false := Bool.eq_false_iff.2 fun hs => by
 have h1 := of_decide_eq_false h;exact h0 ((gr hs).2 k hk (by omega))
theorem vF (x : Ros) (w : World) : Calls prog 91 #[ros x] w fun e w' => e = .returned (.bool (ew x && decide (cu x <= 1))) /\ Below w.heap.size w w' := by
 obtain ⟨h1, h2, h3⟩ := cP w x;have HR := ae h1;have HB := ae h2;have HZ := ae h3;clear h1 h2 h3;have HL := ae (gy x.st);have HOK : Hid ((∀ k, k < 16 -> bt x.st.toList k <= 2) -> (∀ k : Nat, k < 16 -> bt x.st.toList k ≠ 0 -> eX x (k : Int) = true) -> ew x = true) := ae zC;have HBIG : Hid (∀ k, k < 16 -> 2 < bt x.st.toList k -> ew x = false) := ae fun k => xu
 have HFAR : Hid (∀ k : Nat, k < 16 -> bt x.st.toList k ≠ 0 -> eX x (k : Int) = false -> ew x = false) := ae fun k => xv
 go_enter func91, ntmps91;go_wp2_with (first | (refine au rfl (bc rfl rfl) ?_) | (refine au rfl (di HL.out rfl rfl ?_) ?_; (with_reducible exact HR.out.sts)) | fail);generalize w.alloc (.cells (aQ x).toArray 35) = w1 at *;have hb0 := HB.out;have hr0 := HR.out;clear HB HR HZ
 go_loopw [7] (fun i wr => ∃ j : Nat, j <= 16 /\ i = .int .i64 j /\ Below w.heap.size w wr /\ bw wr w.heap.size x /\ (∀ k, k < j -> bt x.st.toList k <= 2) /\ (∀ k : Nat, k < j -> bt x.st.toList k ≠ 0 -> eX x (k : Int) = true)) (fun i _ => 16 - (intOf i).toNat)
 case atStart => exact ⟨0, Nat.zero_le _, rfl, hb0, hr0, fun k hk => absurd hk (by omega), fun k hk => absurd hk (by omega)⟩
 case round =>
  clear hb0 hr0;obtain ⟨j, hj, rfl, hb, hr, h1, h2⟩ := hrel;have HB := ae hb;have HR := ae hr;have HZ := ae (aX hr);have HA1 := ae h1;have HA2 := ae h2;clear hb hr h1 h2;by_cases hlt : j < 16
  ·have HS : Hid (bt x.st.toList j <= 2 -> ∀ k, k < j + 1 -> bt x.st.toList k <= 2) := ae fun hv k hk => by
    by_cases e : k = j
    ·rw [e]; exact hv
    ·exact HA1.out k (by omega)
   have HT : Hid ((bt x.st.toList j ≠ 0 -> eX x (j : Int) = true) -> ∀ k : Nat, k < j + 1 -> bt x.st.toList k ≠ 0 -> eX x (k : Int) = true) := ae fun hv k hk h0 => by
    by_cases e : k = j
    ·rw [e] at h0 ⊢; exact hv h0
    ·exact HA2.out k (by omega) h0
   have HLO := ae (iI x.st.toList j);have HG := ae (HBIG.out j hlt);have HFR := ae (HFAR.out j hlt);clear HOK HBIG HFAR HA1 HA2;obtain ⟨v, hv⟩ : ∃ v, bt x.st.toList j = v := ⟨_, rfl⟩;rw [hv] at HS HT HLO HG HFR;have HV := ae hv;clear hv;by_cases v0 : v = 0
   ·have HN1 := ae (HS.out (by omega));have HN2 := ae (HT.out (fun h => absurd v0 h));have d0 : (v == 0) = true := by simpa using v0
    clear v0;go_wp2_with (first | (refine au rfl (du (l := x.st.toList) (j := j) HL hlt rfl rfl rfl) ?_; rw [HV.out]) | fail);go_roundw
    case rel => exact ⟨j + 1, by omega, by go_num, HB, HR, HN1, HN2⟩
    case measure => simp [intOf]; omega
   ·by_cases vb : 2 < v
    ·have HF := ae (HG.out vb);have d0 : (v == 0) = false := by simp; omega
     have d1 : (v == 1) = false := by simp; omega
     have d2 : (v == 2) = false := by simp; omega
     clear v0 vb;go_wp2_with (first | (refine au rfl (du (l := x.st.toList) (j := j) HL hlt rfl rfl rfl) ?_; rw [HV.out]) | fail);go_ret;exact ⟨bh (by rw [HF.out]; rfl), HB⟩
    ·have HN1 := ae (HS.out (by omega));have HV0 := ae v0;have d0 : (v == 0) = false := by simpa using v0
     obtain ⟨q, hq⟩ : ∃ q, eX x (j : Int) = q := ⟨_, rfl⟩;have HQ := ae hq;rw [hq] at HT HFR;clear hq;have hv2 : v = 1 \/ v = 2 := by have := HLO.out; omega
     rcases hv2 with e | e
     ·have d1 : (v == 1) = true := by simpa using e
      clear e v0 vb;go_wp2_with (first | (refine au rfl (du (l := x.st.toList) (j := j) HL.out hlt rfl rfl rfl) ?_; rw [HV.out]) | (refine au rfl (bn (c := x) rfl rfl ?_) ?_; (with_reducible exact HR.out.range)) | fail);refine (mR x (j : Int) wr).mono ?_;rintro e w3 ⟨rfl, hb⟩;rw [HQ.out];have HB3 := ae (HB.out.trans (hb.mono (Nat.le_of_lt HZ)));have HR3 := ae (HR.out.below HZ hb);clear hb HR HB HZ;cases q
      ·have HF := ae (HFR.out HV0 rfl);go_wp2_with fail;go_ret;exact ⟨bh (by rw [HF.out]; rfl), HB3⟩
      ·have HN2 := ae (HT.out (fun _ => rfl));go_wp2_with fail;go_roundw
       case rel => exact ⟨j + 1, by omega, by go_num, HB3, HR3, HN1, HN2⟩
       case measure => simp [intOf]; omega
     ·have d1 : (v == 1) = false := by simp; omega
      have d2 : (v == 2) = true := by simpa using e
      clear e v0 vb;go_wp2_with (first | (refine au rfl (du (l := x.st.toList) (j := j) HL.out hlt rfl rfl rfl) ?_; rw [HV.out]) | (refine au rfl (bn (c := x) rfl rfl ?_) ?_; (with_reducible exact HR.out.range)) | fail);refine (mR x (j : Int) wr).mono ?_;rintro e w3 ⟨rfl, hb⟩;rw [HQ.out];have HB3 := ae (HB.out.trans (hb.mono (Nat.le_of_lt HZ)));have HR3 := ae (HR.out.below HZ hb);clear hb HR HB HZ;cases q
      ·have HF := ae (HFR.out HV0 rfl);go_wp2_with fail;go_ret;exact ⟨bh (by rw [HF.out]; rfl), HB3⟩
      ·have HN2 := ae (HT.out (fun _ => rfl));go_wp2_with fail;go_roundw
       case rel => exact ⟨j + 1, by omega, by go_num, HB3, HR3, HN1, HN2⟩
       case measure => simp [intOf]; omega
  ·have e : j = 16 := by omega
   subst e;have HE := ae (HOK.out HA1 HA2);clear HOK HBIG HFAR HA1 HA2 hlt hj;go_wp2_with (first | (refine au rfl (bn (c := x) rfl rfl ?_) ?_; (with_reducible exact HR.out.range)) | fail);refine (x7 x 2 wr).mono ?_;rintro e w3 ⟨rfl, hb⟩;have HB3 := ae (HB.out.trans (hb.mono (Nat.le_of_lt HZ)));clear hb;have hm := ae (fq x);generalize many x 2 = n at *;go_wp2;go_ret;exact ⟨bh (by rw [HE.out, Bool.true_and, hm.out, decide_eq_decide]; omega), HB3⟩
theorem aaL (x : Ros) (w : World) : Calls prog 66 #[ros x] w fun e w' => e = .returned (.bool (aW x)) /\ Below w.heap.size w w' := by
 have HF := ae (lN x);obtain ⟨h1, h2, h3⟩ := cP w x;have HR := ae h1;have HB := ae h2;have HZ := ae h3;clear h1 h2 h3;go_enter func66, ntmps66;go_wp2_with (first | (refine au rfl (bc rfl rfl) ?_) | (refine au rfl (cv (c := x) rfl rfl ?_) ?_; (with_reducible exact HR.out.geo)) | fail);generalize w.alloc (.cells (aQ x).toArray 35) = w1 at *;refine (yj x w1).mono ?_;rintro e w2 ⟨rfl, hb⟩;have HR2 := ae (HR.out.below HZ hb);have HB2 := ae (HB.out.trans (hb.mono (Nat.le_of_lt HZ)));have HZ2 := ae (aX HR2);clear hb HR HB HZ;generalize dM x = g at *;cases g
 ·go_wp2_with fail;go_ret;exact ⟨bh (by rw [HF.out]; rfl), HB2⟩
 ·go_wp2_with (first | (refine av (by rfl) (bn (c := x) rfl rfl ?_) ?_; (with_reducible exact HR2.out.range)) | fail);refine (vF x w2).mono ?_;rintro e w3 ⟨rfl, hb⟩;have HR3 := ae (HR2.out.below HZ2 hb);have HB3 := ae (HB2.out.trans (hb.mono (Nat.le_of_lt HZ2)));have HZ3 := ae (aX HR3);clear hb HR2 HB2 HZ2;generalize (ew x && decide (cu x <= 1)) = p at *;cases p
  ·go_wp2_with fail;go_ret;exact ⟨bh (by rw [HF.out]; rfl), HB3⟩
  ·go_wp2_with (first | (refine av (by rfl) (bn (c := x) rfl rfl ?_) ?_; (with_reducible exact HR3.out.range)) | fail);refine (wX x w3).mono ?_;rintro e w4 ⟨rfl, hb⟩;have HB4 := ae (HB3.out.trans (hb.mono (Nat.le_of_lt HZ3)));clear hb;generalize oG x = q at *;go_wp2_with fail;go_ret;exact ⟨bh (by rw [HF.out]; rfl), HB4⟩
theorem aax (x : Ros) (w : World) : Calls prog 24 #[ros x] w fun e w' => e = .returned (.bool (aW x)) /\ Below w.heap.size w w' := by
 obtain ⟨h1, h2, h3⟩ := cP w x;have HR := ae h1;have HB := ae h2;have HZ := ae h3;clear h1 h2 h3;go_enter func24, ntmps24;go_wp2_with (first | (refine au rfl (bc rfl rfl) ?_) | (refine au rfl (bn (c := x) rfl rfl ?_) ?_; (with_reducible exact HR.out.range)) | fail);generalize w.alloc (.cells (aQ x).toArray 35) = w1 at *;refine (ye x w1).mono ?_;rintro e w2 ⟨rfl, hb⟩;have HB2 := ae (HB.out.trans (hb.mono (Nat.le_of_lt HZ)));clear hb;go_wp2_with fail;go_ret;exact ⟨rfl, HB2⟩
def setW (w : World) (b o : Nat) (v : Value) : World := w.setCell ⟨b, o, none⟩ v
def fI (w : World) (b : Nat) (x : Ros) : World := w.setCells b 0 (aQ x)
section
variable {w w0 : World} {b k o : Nat} {v : Value} {x y : Ros}
theorem pq {B : Nat} (h : Below B w0 w) (hb : B <= b) : Below B w0 (setW w b o v) := below_setCells h hb [v]
theorem t6 (hne : k ≠ b) : (setW w b o v).heap[k]? = w.heap[k]? := heap_setCell_other w ⟨b, o, none⟩ k v hne
theorem mu : (fI w b x).heap.size = w.heap.size := (eJ b _ 0 w).1
theorem gq {B : Nat} (h : Below B w0 w) (hb : B <= b) : Below B w0 (fI w b x) := below_setCells h hb _
theorem oU (hne : k ≠ b) : (fI w b x).heap[k]? = w.heap[k]? := dq b _ 0 w k hne
theorem ix (h : bw w b y) : bw (fI w b x) b x := by
 have h' : w.heap[b]? = some (.cells ([] ++ aQ y ++ []).toArray 35 (0, 0)) := by rw [List.nil_append, List.append_nil]; exact h
 have := heap_put b 35 [] (aQ x) (aQ y) [] w (by rw [aU, aU]) h';rw [List.nil_append, List.append_nil] at this;exact this
theorem vQ (x : Ros) {j : Nat} (hj : j < 16) (u : UInt8) : (aQ x).set (3 + j) (.int .u8 (u.toNat : Int)) = aQ (eW x j u) := by
 rw [fC x, fC (eW x j u), jq];have e1 : dn (eW x j u) = dn x := rfl;rw [e1, List.set_append_right _ _ (by simp [dn]), show 3 + j - (dn x).length = j from by simp [dn], List.set_append_left _ _ (by rw [bf]; simp; omega)];unfold vals;rw [List.map_set]
 rfl
theorem uT (x : Ros) (c : Int) : (aQ x).set 19 (.int .i64 c) = aQ (jE x c) := by
 rw [fC x, fC (jE x c)];have e1 : dn (jE x c) = dn x := rfl;rw [e1, List.set_append_right _ _ (by simp [dn]), show 19 - (dn x).length = 16 from rfl, List.set_append_right _ _ (by rw [bf]; simp), show 16 - (vals x.st.toList).length = 0 from by rw [bf]; simp]
 rfl
theorem bw.setW (h : bw w b x) (hy : (aQ x).set o v = aQ y) : bw (setW w b o v) b y := by
 have := heap_setCell_same w b o _ 35 v h;rw [List.setIfInBounds_toArray, hy] at this;exact this
theorem bw.there (h : bw w b x) {o n : Nat} (hn : o + n <= 21) : w.there b o n := a8 h (by rw [aU]; exact hn)
end
section
variable {ρ : Operand -> Value} {o : Oper} {x y : Operand} {w : World} {b off : Nat} {c d : Ros}
theorem de (ho : o.op = .store 35 x y) (hx : ρ x = .pointer (some ⟨b, 0, none⟩)) (hy : ρ y = ros c) (h : bw w b d) : (execOp ρ o).run prog w = .ok .skip (fI w b c) :=
 el (by rw [aU]; exact l7) (fW c) ho hx hy (by rw [aU]; exact h.there (by omega))
theorem ud (h : w.there b off 1) : ∃ v, w.cell? ⟨b, off, none⟩ = some v /\ w.frozen? ⟨b, off, none⟩ = false := by
 have := h 0 (by omega);rw [Nat.add_zero] at this;obtain ⟨h1, h2⟩ := this;obtain ⟨v, hv⟩ := Option.isSome_iff_exists.1 h1;exact ⟨v, hv, h2⟩
theorem n8 {u : Int} (ho : o.op = .store 5 x y) (hx : ρ x = .pointer (some ⟨b, off, none⟩)) (hy : ρ y = .int .u8 u) (h : w.there b off 1) : (execOp ρ o).run prog w = .ok .skip (setW w b off (.int .u8 u)) := by
 obtain ⟨v, hc, hf⟩ := ud h;exact gt ho hx hy (by simp [go_sem, hc, hf, setW])
theorem uo {u : Int} (ho : o.op = .store 3 x y) (hx : ρ x = .pointer (some ⟨b, off, none⟩)) (hy : ρ y = .int .i64 u) (h : w.there b off 1) : (execOp ρ o).run prog w = .ok .skip (setW w b off (.int .i64 u)) := by
 obtain ⟨v, hc, hf⟩ := ud h;exact gt ho hx hy (by simp [go_sem, hc, hf, setW])
theorem aR (ho : o.op = .load 35 x) (hx : ρ x = .pointer (some ⟨b, 0, none⟩)) (h : bw w b c) : (execOp ρ o).run prog w = .ok (.value (ros c)) w := bn ho hx h.range
theorem sN (w : World) : (Instr.build 35 #[]).run prog w = .ok (ros bI) w := by kernel_rfl
theorem qF (ho : o.op = .build 35 #[]) : (execOp ρ o).run prog w = .ok (.value (ros bI)) w := fN ho (sN w)
theorem lS {ad : Addr} {n : Bool} (h : w.cell? ad = some (.bool n)) : (Instr.loadAt 4 (.pointer (some ad))).run prog w = .ok (.bool n) w := by simp [go_sem, h]
theorem lT {b : Nat} : (Instr.fieldAt 35 (.pointer (some ⟨b, 0, none⟩)) 3).run prog w = .ok (.pointer (some ⟨b, 20, none⟩)) w := by kernel_rfl
theorem iT {fn : Func} {p u : Tmp} (h : fn.results = #[.cell p 35, .tmp u]) (tmps : Array Value) (w : World) (b : Nat) (hp : tmps.getD p undef = .pointer (some ⟨b, 0, none⟩)) (hc : bw w b c) :
  (results fn tmps).run prog w = .ok (.tuple #[ros c, tmps.getD u undef]) w := by
 have hl : (loadVar 35 ⟨b, 0, none⟩).run prog w = .ok (ros c) w := run_loadVar_mid w b 0 35 (aQ c) _ hc.range underlying35 rfl (by rw [aU]; exact l7);have hp' : tmps[p]?.getD undef = .pointer (some ⟨b, 0, none⟩) := by simpa using hp
 simp [results, h, hp', asAddr, hl]
end
structure iE (w0 w : World) (x y : Ros) : Prop where
 bel : Below w0.heap.size w0 w
 at0 : bw w w0.heap.size x
 at1 : bw w (w0.heap.size + 1) y
theorem iE.new (w : World) (x : Ros) : iE w ((w.alloc (.cells (aQ x).toArray 35)).alloc (.cells (aQ bI).toArray 35)) x bI := by
 refine ⟨((Below.refl _ w).alloc ai _).alloc (by simp) _, (bw.new w x).past _, ?_⟩;have := bw.new (w.alloc (.cells (aQ x).toArray 35)) bI;rwa [World.size_alloc] at this
section
variable {w0 w w' : World} {x y z : Ros}
theorem iE.call (h : iE w0 w x y) (hb : Below w.heap.size w w') : iE w0 w' x y :=
 ⟨h.bel.trans (hb.mono h.bel.size), h.at0.below (aX h.at0) hb, h.at1.below (aX h.at1) hb⟩
theorem iE.put (h : iE w0 w x y) (z : Ros) : iE w0 (fI w (w0.heap.size + 1) z) x z :=
 ⟨gq h.bel (by omega), (oU (by omega)).trans h.at0, ix h.at1⟩
theorem iE.set (h : iE w0 w x y) {o : Nat} {v : Value} (hy : (aQ x).set o v = aQ z) : iE w0 (setW w w0.heap.size o v) z y :=
 ⟨pq h.bel ai, h.at0.setW hy, (t6 (by omega)).trans h.at1⟩
end
structure fd (w0 w : World) (x : Ros) : Prop where
 bel : Below w0.heap.size w0 w
 at0 : bw w w0.heap.size x
theorem fd.new (w : World) (x : Ros) : fd w (w.alloc (.cells (aQ x).toArray 35)) x := ⟨(cP w x).2.1, (cP w x).1⟩
theorem fd.call {w0 w w' : World} {x : Ros} (h : fd w0 w x) (hb : Below w.heap.size w w') : fd w0 w' x :=
 ⟨h.bel.trans (hb.mono h.bel.size), h.at0.below (aX h.at0) hb⟩
section
variable {x : Ros} {m : Int} {c : Int} {b : Bool} (w : World)
theorem gL (h : aW x = b) : Calls prog 66 #[ros x] w fun e w' => e = .returned (.bool b) /\ Below w.heap.size w w' := by subst h; exact aaL x w
theorem ed (h : aW x = b) : Calls prog 24 #[ros x] w fun e w' => e = .returned (.bool b) /\ Below w.heap.size w w' := by subst h; exact aax x w
theorem iv (h : eX x m = b) : Calls prog 87 #[ros x, .int .i64 m] w fun e w' => e = .returned (.bool b) /\ Below w.heap.size w w' := by subst h; exact mR x m w
end
def ke (M : aJ) (x : Ros) : Nat -> Bool
 |0 => true
 |k + 1 => ke M x k && !decide (dv M (k : Int) < 2 + x.s)
def jJ (M : aJ) (id ev : Nat) (x : Ros) : Bool := !decide (id = 0) && (!decide (2305843009213693952 < ev) && (aW x && (decide ((M.ds.length : Int) = x.m + 1) && ke M x x.m.toNat)))
theorem rK {M : aJ} {x : Ros} {i : Nat} (h : dv M (i : Int) < 2 + x.s) : ∀ {n : Nat}, i < n -> ke M x n = false
 |0, hi => absurd hi (by omega)
 |n + 1, hi => by
  rw [ke];by_cases e : i = n
  ·subst e; rw [am h]; simp
  ·rw [rK h (n := n) (by omega)]; rfl
theorem mb {M : aJ} {x : Ros} {i : Nat} (h : ke M x i = true) (h' : ¬ dv M (i : Int) < 2 + x.s) : ke M x (i + 1) = true := by rw [ke, h, al h']; rfl
structure CrG (w : World) (G : Nat -> Prop) : Prop where
 t : Tab w
 off : ¬ G 0
structure la where
 R : oN
 J : World -> (Nat -> Prop) -> Nat -> Nat -> HuS -> Prop
 lt : ∀ {w G q p h}, J w G q p h -> ∀ b, G b -> b < w.heap.size
 fin : ∀ {w G q p h}, J w G q p h -> aW h.R = true /\ h.id ≠ 0
 only : ∀ {w w' G F q p h}, J w G q p h -> Only F w w' -> (∀ b, G b -> ¬ F b) -> J w' G q p h
 ben : ∀ {w G q p h}, J w G q p h -> ∃ Gb, R.Bn w Gb q h.M /\ (∀ b, Gb b -> G b) /\ ∀ w' Gb' M', R.Bn w' Gb' q M' -> Only Gb w w' -> Grow w Gb Gb' -> ∃ G', J w' G' q p { h with M := M' } /\ Only G w w' /\ Grow w G G'
 new_ : ∀ {w G q M} (id ev : Nat) (x : Ros), id < 18446744073709551616 -> ev < 18446744073709551616 -> R.Bn w G q M -> Calls prog 27 #[.pointer (some ⟨q, 0, none⟩), .int .u64 (id : Int), .int .u64 (ev : Int), ros x] w fun e w' =>
  Below w.heap.size w w' /\ ((jJ M id ev x = true /\ ∃ p G', e = .returned (.tuple #[.pointer (some ⟨p, 0, none⟩), .int .i64 0]) /\ J w' G' q p ⟨M, id, ev, x⟩ /\ ∀ b, G' b -> G b \/ w.heap.size <= b) \/ (jJ M id ev x = false /\ e = .returned (.tuple #[.pointer none, .int .i64 2])))
 new_nil : ∀ (w : World) (id ev : Nat) (x : Ros), id < 18446744073709551616 -> ev < 18446744073709551616 -> Calls prog 27 #[.pointer none, .int .u64 (id : Int), .int .u64 (ev : Int), ros x] w fun e w' => e = .returned (.tuple #[.pointer none, .int .i64 1]) /\ Below w.heap.size w w'
 save : ∀ {w G q p h}, J w G q p h -> CrG w G -> Room h.M 600 -> h.ev <= 4611686018427387000 -> Calls prog 28 #[.pointer (some ⟨p, 0, none⟩)] w fun e w' => e = .returned (.int .i64 (iU h)) /\ ∃ G', (iU h = 0 -> J w' G' q p (gO h)) /\ Only G w w' /\ Grow w G G' /\ ∃ Gb, R.Bn w' Gb q (gO h).M /\ ∀ b, Gb b -> G' b
 zR : ∀ {w G q p h}, J w G q p h -> Calls prog 32 #[.pointer (some ⟨p, 0, none⟩)] w fun e w' => e = .returned (.int .u64 (h.ev : Int)) /\ Below w.heap.size w w'
 zp : ∀ {w G q p h}, J w G q p h -> Calls prog 29 #[.pointer (some ⟨p, 0, none⟩)] w fun e w' => e = .returned (ros h.R) /\ Below w.heap.size w w'
 No : World -> Value -> Prop
 zc : List Value
 zb : List Value
 no_nil : ∀ w : World, No w (.pointer none)
 bld0 : ∀ w : World, (Instr.build 112 #[]).run prog w = .ok (.agg zc.toArray) w
 bldB : ∀ w : World, (Instr.build 75 #[]).run prog w = .ok (.agg zb.toArray) w
 no_zero : ∀ w : World, No (w.alloc (.cells zc.toArray 112)) (.pointer (some ⟨w.heap.size, 0, none⟩))
 no_below : ∀ {w w' : World} {v : Value}, No w v -> Below w.heap.size w w' -> No w' v
 new_zero : ∀ (w : World) (b : Nat) (id ev : Nat) (x : Ros), w.heap[b]? = some (.cells zb.toArray 75 (0, 0)) -> id < 18446744073709551616 -> ev < 18446744073709551616 -> Calls prog 27 #[.pointer (some ⟨b, 0, none⟩), .int .u64 (id : Int), .int .u64 (ev : Int), ros x] w fun e w' => e = .returned (.tuple #[.pointer none, .int .i64 1]) /\ Below w.heap.size w w'
 no_save : ∀ (w : World) (v : Value) , No w v -> Calls prog 28 #[v] w fun e w' => e = .returned (.int .i64 1) /\ Below w.heap.size w w'
 no_event : ∀ (w : World) (v : Value) , No w v -> Calls prog 32 #[v] w fun e w' => e = .returned (.int .u64 0) /\ Below w.heap.size w w'
theorem la.below (C : la) {w w' : World} {G : Nat -> Prop} {q p : Nat} {h : HuS} (hj : C.J w G q p h) (k : Below w.heap.size w w') : C.J w' G q p h := C.only hj (Only.of_below (fun _ => False) k) fun _ _ e => e
structure j7 (w0 : World) (B : Nat) : Prop where
 le : B <= w0.heap.size
 t : Tab w0
 lo : 0 < B
theorem jX {w : World} {b j : Nat} {v : Value} (h : w.cell? ⟨b, j, none⟩ = some v) : b < w.heap.size := by
 rcases Nat.lt_or_ge b w.heap.size with h' | h'
 ·exact h'
 ·have : w.heap[b]? = none := Array.getElem?_eq_none h';simp [World.cell?, this] at h
theorem j7.start {w : World} (h : Tab w) : j7 w w.heap.size := ⟨ai, h, jX (h 0 (by omega))⟩
theorem j7.tab {w0 w : World} {B : Nat} (h : j7 w0 B) (hb : Below B w0 w) : Tab w := fun i hi => (World.cell?_of_block (w := w0) (hb.block _ h.lo)).trans (h.t i hi)
def HAt (C : la) (w0 : World) (B : Nat) (K : Nat -> Prop) (w : World) (q p : Nat) (h : HuS) : Prop := ∃ G, C.J w G q p h /\ (∀ b, G b -> B <= b) /\ Below B w0 w /\ j7 w0 B /\ ∀ b, K b -> ¬ G b /\ b < w.heap.size
def da (K : Nat -> Prop) (w w' : World) : Prop := ∀ b, K b -> w'.heap[b]? = w.heap[b]?
theorem da.trans {K : Nat -> Prop} {w1 w2 w3 : World} (h : da K w1 w2) (k : da K w2 w3) : da K w1 w3 := fun b e => (k b e).trans (h b e)
theorem da.less {K K' : Nat -> Prop} {w1 w2 : World} (h : da K w1 w2) (hK : ∀ b, K' b -> K b) : da K' w1 w2 := fun b e => h b (hK b e)
theorem da.at_ {K : Nat -> Prop} {w w' : World} {b : Nat} {o : Obj} (k : da K w w') (hb : K b) (ho : w.heap[b]? = some o) : w'.heap[b]? = some o := (k b hb).trans ho
theorem da.rh {K : Nat -> Prop} {w w' : World} {g : Nat} (ho : Only (fun b => b = g) w w') (hK : ∀ b, K b -> b ≠ g /\ b < w.heap.size) : da K w w' := fun b e => ho.block b (hK b e).2 (hK b e).1
section
variable {C : la} {w0 w w' : World} {B q p : Nat} {K K' : Nat -> Prop} {h h' : HuS}
theorem HAt.bel (a : HAt C w0 B K w q p h) : Below B w0 w := by obtain ⟨G, h1, h2, h3, _⟩ := a; exact h3
theorem HAt.guard (a : HAt C w0 B K w q p h) (k : Below w.heap.size w w') (hK : ∀ b, K' b -> K b \/ (w.heap.size <= b /\ b < w'.heap.size)) : HAt C w0 B K' w' q p h := by
 obtain ⟨G, h1, h2, h3, h4, h5⟩ := a;have hs := k.size;refine ⟨G, C.below h1 k, h2, h3.trans (k.mono (ap h4.le h3.size)), h4, fun b hb => ?_⟩;rcases hK b hb with e | ⟨e1, e2⟩
 ·obtain ⟨g1, g2⟩ := h5 b e;exact ⟨g1, by omega⟩
 ·exact ⟨fun hg => by have := C.lt h1 b hg; omega, e2⟩
theorem HAt.below (a : HAt C w0 B K w q p h) (k : Below w.heap.size w w') : HAt C w0 B K w' q p h := a.guard k fun b e => .inl e
theorem HAt.turn {G G' : Nat -> Prop} (h2 : ∀ b, G b -> B <= b) (h3 : Below B w0 w) (h4 : j7 w0 B) (h5 : ∀ b, K b -> ¬ G b /\ b < w.heap.size) (k1 : C.J w' G' q p h') (k2 : Only G w w') (k3 : Grow w G G') : HAt C w0 B K w' q p h' /\ da K w w' := by
 have hs := ap h4.le h3.size;have hs2 := k2.size;refine ⟨⟨G', k1, k3.above h2 hs, h3.trans (k2.below h2 hs), h4, fun b hb => ?_⟩, fun b hb => k2.block b (h5 b hb).2 (h5 b hb).1⟩;obtain ⟨g1, g2⟩ := h5 b hb;refine ⟨fun hg => ?_, by omega⟩;rcases k3 b hg with e | e
 ·exact g1 e
 ·omega
theorem j7.crg {G : Nat -> Prop} (h : j7 w0 B) (hb : Below B w0 w) (hG : ∀ b, G b -> B <= b) : CrG w G := ⟨h.tab hb, fun e => by have := h.lo; have := hG _ e; omega⟩
theorem HAt.save (a : HAt C w0 B K w q p h) (hr : Room h.M 600) (he : h.ev <= 4611686018427387000) (hz : iU h = 0) : Calls prog 28 #[.pointer (some ⟨p, 0, none⟩)] w fun e w' => e = .returned (.int .i64 (iU h)) /\ HAt C w0 B K w' q p (gO h) /\ da K w w' := by
 obtain ⟨G, h1, h2, h3, h4, h5⟩ := a;exact (C.save h1 (h4.crg h3 h2) hr he).mono fun e w' ⟨k0, G', k1, k2, k3, _⟩ => ⟨k0, HAt.turn h2 h3 h4 h5 (k1 hz) k2 k3⟩
theorem HAt.ben {I : FuncId} {vs : Array Value} {v : Value} {M' : aJ} (a : HAt C w0 B K w q p h) (hc : ∀ {w F}, C.R.Bn w F q h.M -> Calls prog I vs w fun e w' => e = .returned v /\ ∃ F', C.R.Bn w' F' q M' /\ Only F w w' /\ Grow w F F') : Calls prog I vs w fun e w' => e = .returned v /\ HAt C w0 B K w' q p { h with M := M' } /\ da K w w' := by
 obtain ⟨G, h1, h2, h3, h4, h5⟩ := a;obtain ⟨Gb, b1, b2, b3⟩ := C.ben h1;refine (hc b1).mono fun e w' ⟨he, F', k1, k2, k3⟩ => ?_
 obtain ⟨G', g1, g2, g3⟩ := b3 w' F' M' k1 k2 k3;exact ⟨he, HAt.turn h2 h3 h4 h5 g1 g2 g3⟩
end
end Go.Proofs.YtehefifamaofkaaGreatDoor
