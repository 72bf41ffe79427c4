import Derived.Test.YtehefifamaofkaaGreatDoorGsae
namespace Go.Proofs.YtehefifamaofkaaGreatDoor
set_option maxHeartbeats 8000000
open Go.Proofs.Tryz
open Go.RowKit
set_option linter.unusedVariables false
set_option maxRecDepth 100000
def Bod (w : World) (B : Nat) (v : Value) (l : List UInt8) : Prop := (v = .slice none 0 0 /\ l = []) \/ ∃ g, v = .slice (some ⟨g, 0, none⟩) l.length l.length /\ B <= g /\ cj w g 5 l /\ l.length <= maxLen
structure wO (B : Nat) (w w' : World) (g p : Nat) (l : List UInt8) : Prop where
 row : cj w' g 29 l
 par : PartsAt w' p g
 bel : Below B w w'
 tab : Tab w'
theorem wO.below {B : Nat} {w w1 w2 : World} {g p : Nat} {l : List UInt8} (h : wO B w w1 g p l) (hb : Below w1.heap.size w1 w2) (hB : B <= w.heap.size) : wO B w w2 g p l :=
 ⟨h.row.below h.row.lt hb, h.par.below (aW h.par) hb, h.bel.trans (hb.mono (ap hB h.bel.size)), h.tab.below hb⟩
theorem gu (w w1 : World) (b : Blk) (hbA : Below w.heap.size w (w.alloc (.cells (cel b).toArray 29))) (hT : Tab (w.alloc (.cells (cel b).toArray 29))) (hb : Below (w.alloc (.cells (cel b).toArray 29)).heap.size (w.alloc (.cells (cel b).toArray 29)) w1) :
  wO w.heap.size w (w1.alloc (.cells (eK w.heap.size) 171)) w.heap.size w1.heap.size b.toList := by
 have hs := hb.size;simp only [World.size_alloc] at hs;have hr : cj w1 w.heap.size 29 b.toList := (cj.blk w b 29).below (by simp only [World.size_alloc]; omega) hb;have hbel : Below w.heap.size w w1 := hbA.trans (hb.mono (by simp only [World.size_alloc]; omega));exact ⟨hr.past _, heap_alloc_new w1 _, hbel.alloc (by omega) _, (hT.below hb).below (aj.alloc ai _)⟩
theorem ld {W w' : World} {g : Nat} {t : TypeId} {l : List UInt8} (h : cj W g t l) (hb : Below W.heap.size W w') (off k : Nat) (hk : off + k <= l.length) (h1 : 1 <= k) (h8 : k <= 8) :
  Calls prog 135 #[.slice (some ⟨g, off, none⟩) k k] w' fun e w'' => e = .returned (.int .u64 (val 8 (piece l off k) : Nat)) /\ Below w'.heap.size w' w'' :=
 (e9 _ k k _ _ w' ((h.below h.lt hb).rd hk) h1 h8).mono fun e w'' ⟨he, hw⟩ => ⟨he, by subst hw; exact aj⟩
theorem oI {W w' : World} {g : Nat} {t : TypeId} {l : List UInt8} (h : cj W g t l) (T : Tab W) (hb : Below W.heap.size W w') (off k : Nat) (hk : off + k <= l.length) (hm : k <= maxLen) :
  Calls prog 133 #[.slice (some ⟨g, off, none⟩) k k] w' fun e w'' => e = .returned (.int .u32 (more 0 (piece l off k) : Nat)) /\ Below w'.heap.size w' w'' :=
 (uD _ k k _ _ w' (T.below hb) ((h.below h.lt hb).rd hk) hm).mono fun e w'' ⟨he, hw⟩ => ⟨he, by subst hw; exact aj⟩
theorem pe {ρ : Operand -> Value} {o : Oper} {x y : Operand} {w : World} {t r : TypeId} {a b : Nat} (c : Bool) (ho : o.op = .binOp .neq t x y r) (hx : ρ x = .int .u64 (a : Int)) (hy : ρ y = .int .u64 (b : Int)) (h : ((a : Int) != (b : Int)) = c) : (execOp ρ o).run prog w = .ok (.value (.bool c)) w := aR c ho hx hy h
theorem rq (l : List UInt8) (n : Nat) (h : l.length = n) : splice (List.replicate n 0) 0 l = l := by
 subst h;simp [splice]
def sa : List UInt8 := List.replicate 44 0
theorem sS {l : List UInt8} (h : l.length = 44) : splice sa 0 l = l := rq l 44 h
def sg : Array Value := (vals (List.replicate 44 0)).toArray
theorem zX (w : World) : (Instr.makeSlice 116 (.int .i64 44) (.int .i64 44)).run prog w = .ok (.slice (some ⟨w.heap.size, 0, none⟩) 44 44) (w.alloc (.cells sg 5)) := by kernel_rfl
theorem tO (b : Blk) (B : Nat) (w : World) (HB : Hid (B = w.heap.size)) (T : Tab w) (h0 : et b.toList = 0) :
  Calls prog 124 #[blk b] w fun e w' => ∃ v, e = .returned (.tuple #[.int .u64 (dD b.toList : Nat), v, .int .i64 (db b.toList : Nat)]) /\ Bod w' B v (cT b.toList) /\ Below B w w' := by
 have hA := cj.blk w b 29;have hbA := (Below.refl w.heap.size w).alloc ai (.cells (cel b).toArray 29);have HTA := ae (T.below hbA);have HA := ae hA;have HBA := ae hbA;have HL := ae (eQ b);have hE := jN (.inl h0);have HE := ae hE;have HN := ae (kO (l := b.toList) (by omega));have HBB := ae (nI (l := b.toList) (by omega));have HX : Hid (val 8 (piece b.toList 0 8) = 0) := ae h0;clear hE h0;clear hA hbA T;go_enter func124, ntmps124;go_wp2_with (first | (refine av rfl (b9 rfl rfl) ?_) | fail);refine (jl w.heap.size _).mono ?_;rintro e w1 ⟨rfl, hb1⟩;have HG := ae (gu w w1 b HBA HTA hb1);clear HTA HA HBA hb1;obtain ⟨g, hg⟩ : ∃ g, w.heap.size = g := ⟨_, rfl⟩;have HGE := ae (Nat.le_of_eq hg.symm);rw [hg] at HG HB;rw [hg];clear hg;obtain ⟨c0, c1, c2, c3, c4⟩ := HG.out.par.cells;go_wp2_with (first | (refine bi rfl (fG g rfl rfl rfl) ?_) | fail);clear c0 c1 c2 c3 c4;generalize w1.heap.size = p at *;generalize w1.alloc (.cells (eK g) 171) = w2 at *;obtain ⟨c0, c1, c2, c3, c4⟩ := HG.out.par.cells;have hr0 := HG.out.row.rd (p := 0) (k := 8) (by rw [HL.out]; omega);refine (e9 _ 8 8 _ _ _ hr0 (by omega) (by omega)).mono ?_;rintro e w3 ⟨rfl, rfl⟩;clear hr0;rw [HX.out];go_wp2_with fail;refine bodyPost_ret (v := .tuple #[.int .u64 0, .slice none 0 0, .int .i64 5]) (by simp [results, Tryz.results124, go_sem]) rfl ⟨_, by rw [HE.out, HN.out]; rfl, .inl ⟨rfl, HBB⟩, by rw [HB.out]; exact HG.out.bel⟩
theorem oM (b : Blk) (B : Nat) (w : World) (HB : Hid (B = w.heap.size)) (T : Tab w) (h0 : et b.toList ≠ 0) (h1 : et b.toList ≠ agO b.toList) :
  Calls prog 124 #[blk b] w fun e w' => ∃ v, e = .returned (.tuple #[.int .u64 (dD b.toList : Nat), v, .int .i64 (db b.toList : Nat)]) /\ Bod w' B v (cT b.toList) /\ Below B w w' := by
 have hA := cj.blk w b 29;have hbA := (Below.refl w.heap.size w).alloc ai (.cells (cel b).toArray 29);have HTA := ae (T.below hbA);have HA := ae hA;have HBA := ae hbA;have HL := ae (eQ b);have hE := jN (.inr h1);have HE := ae hE;have HN := ae (kO (l := b.toList) (by omega));have HBB := ae (nI (l := b.toList) (by omega));obtain ⟨x, hx⟩ : ∃ x, et b.toList = x := ⟨_, rfl⟩;obtain ⟨y, hy⟩ : ∃ y, agO b.toList = y := ⟨_, rfl⟩;rw [hx] at h0 h1;rw [hy] at h1;have hz : ((x : Int) == 0) = false := by simp; omega
 have hn : ((x : Int) != (y : Int)) = true := by simp; omega
 have HX : Hid (val 8 (piece b.toList 0 8) = x) := ae hx;have HY : Hid (val 8 (piece b.toList 56 8) = y) := ae hy;clear hE h0 h1 hx hy;clear hA hbA T;go_enter func124, ntmps124;go_wp2_with (first | (refine av rfl (b9 rfl rfl) ?_) | fail);refine (jl w.heap.size _).mono ?_;rintro e w1 ⟨rfl, hb1⟩;have HG := ae (gu w w1 b HBA HTA hb1);clear HTA HA HBA hb1;obtain ⟨g, hg⟩ : ∃ g, w.heap.size = g := ⟨_, rfl⟩;have HGE := ae (Nat.le_of_eq hg.symm);rw [hg] at HG HB;rw [hg];clear hg;obtain ⟨c0, c1, c2, c3, c4⟩ := HG.out.par.cells;go_wp2_with (first | (refine bi rfl (fG g rfl rfl rfl) ?_) | fail);clear c0 c1 c2 c3 c4;generalize w1.heap.size = p at *;generalize w1.alloc (.cells (eK g) 171) = w2 at *;obtain ⟨c0, c1, c2, c3, c4⟩ := HG.out.par.cells;have hr0 := HG.out.row.rd (p := 0) (k := 8) (by rw [HL.out]; omega);refine (e9 _ 8 8 _ _ _ hr0 (by omega) (by omega)).mono ?_;rintro e w3 ⟨rfl, rfl⟩;clear hr0;rw [HX.out];go_wp2_with fail;have hr3 := HG.out.row.rd (p := 56) (k := 8) (by rw [HL.out]; omega);refine (e9 _ 8 8 _ _ _ hr3 (by omega) (by omega)).mono ?_;rintro e w3 ⟨rfl, rfl⟩;clear hr3;rw [HY.out];go_wp2_with fail;refine bodyPost_ret (v := .tuple #[.int .u64 0, .slice none 0 0, .int .i64 5]) (by simp [results, Tryz.results124, go_sem]) rfl ⟨_, by rw [HE.out, HN.out]; rfl, .inl ⟨rfl, HBB⟩, by rw [HB.out]; exact HG.out.bel⟩
theorem vz (b : Blk) (B : Nat) (w : World) (HB : Hid (B = w.heap.size)) (T : Tab w) (h0 : et b.toList ≠ 0) (h1 : et b.toList = agO b.toList) (h2 : lK b.toList ≠ lE b.toList) :
  Calls prog 124 #[blk b] w fun e w' => ∃ v, e = .returned (.tuple #[.int .u64 (dD b.toList : Nat), v, .int .i64 (db b.toList : Nat)]) /\ Bod w' B v (cT b.toList) /\ Below B w w' := by
 have hA := cj.blk w b 29;have hbA := (Below.refl w.heap.size w).alloc ai (.cells (cel b).toArray 29);have HTA := ae (T.below hbA);have HA := ae hA;have HBA := ae hbA;have HL := ae (eQ b);have hE := un h0 h1 h2;have HE := ae hE;have HN := ae (kO (l := b.toList) (by omega));have HBB := ae (nI (l := b.toList) (by omega));obtain ⟨x, hx⟩ : ∃ x, et b.toList = x := ⟨_, rfl⟩;rw [hx] at h0;have HX : Hid (val 8 (piece b.toList 0 8) = x) := ae hx;have HY : Hid (val 8 (piece b.toList 56 8) = x) := ae (by rw [<- hx]; exact h1.symm);have HS4 := ae (sq (eQ b));have HCL := ae (r6 b.toList);have hz : ((x : Int) == 0) = false := by simp; omega
 have hn : ((x : Int) != (x : Int)) = false := by simp
 have hc : ((lK b.toList : Nat) : Int) != ((lE b.toList : Nat) : Int) := by simp; omega
 clear hE h0 h1 hx h2;clear hA hbA T;go_enter func124, ntmps124;go_wp2_with (first | (refine av rfl (b9 rfl rfl) ?_) | fail);refine (jl w.heap.size _).mono ?_;rintro e w1 ⟨rfl, hb1⟩;have HG := ae (gu w w1 b HBA HTA hb1);clear HTA HA HBA hb1;obtain ⟨g, hg⟩ : ∃ g, w.heap.size = g := ⟨_, rfl⟩;have HGE := ae (Nat.le_of_eq hg.symm);rw [hg] at HG HB;rw [hg];clear hg;obtain ⟨c0, c1, c2, c3, c4⟩ := HG.out.par.cells;go_wp2_with (first | (refine bi rfl (fG g rfl rfl rfl) ?_) | fail);clear c0 c1 c2 c3 c4;generalize w1.heap.size = p at *;generalize w1.alloc (.cells (eK g) 171) = w2 at *;obtain ⟨c0, c1, c2, c3, c4⟩ := HG.out.par.cells;have hr0 := HG.out.row.rd (p := 0) (k := 8) (by rw [HL.out]; omega);refine (e9 _ 8 8 _ _ _ hr0 (by omega) (by omega)).mono ?_;rintro e w3 ⟨rfl, rfl⟩;clear hr0;rw [HX.out];go_wp2_with fail;have hr3 := HG.out.row.rd (p := 56) (k := 8) (by rw [HL.out]; omega);refine (e9 _ 8 8 _ _ _ hr3 (by omega) (by omega)).mono ?_;rintro e w3 ⟨rfl, rfl⟩;clear hr3;rw [HY.out];go_wp2_with fail;clear c0 c1 c2 c3 c4;have hle : w2.heap.size <= w2.heap.size := ai;refine bQ (B := w2.heap.size) (by kernel_rfl) ?_;refine abO (fun _ hw => ax rfl abQ zu) ?_;refine abO (fun _ hw => aE rfl abQ (ldS (HG.out.par.below (aW HG.out.par) hw).cells.2.2.1)) ?_;refine cD rfl (fun _ => aA call135 rfl (evc abQ evn)) (cn hle fun _ hw => ld HG.out.row hw 52 4 (by rw [HL.out]; omega) (by omega) (by omega)) ?_;simp only [aa];refine abO (fun _ hw => ax rfl abQ zL) ?_;refine abO (fun _ hw => aE rfl abQ (ldS (HG.out.par.below (aW HG.out.par) hw).cells.2.2.2.2)) ?_;refine cD rfl (fun _ => aA call133 rfl (evc abQ evn)) (cn hle fun _ hw => oI HG.out.row HG.out.tab hw 0 52 (by rw [HL.out]; omega) (by unfold maxLen; omega)) ?_;simp only [aa];refine abO (fun _ hw => ka rfl abQ HCL) ?_;refine abO (fun _ hw => pe true rfl abQ abQ hc) ?_;refine wpQuiet_nil ?_;intro w3 hb3;have HG3 := ae (HG.out.below hb3 HGE);clear hb3 HG;go_wp2_with fail;refine bodyPost_ret (v := .tuple #[.int .u64 0, .slice none 0 0, .int .i64 6]) (by simp [results, Tryz.results124, go_sem]) rfl ⟨_, by rw [HE.out, HN.out]; rfl, .inl ⟨rfl, HBB⟩, by rw [HB.out]; exact HG3.out.bel⟩
theorem wY (b : Blk) (B : Nat) (w : World) (HB : Hid (B = w.heap.size)) (T : Tab w) (h0 : et b.toList ≠ 0) (h1 : et b.toList = agO b.toList) (h2 : lK b.toList = lE b.toList) :
  Calls prog 124 #[blk b] w fun e w' => ∃ v, e = .returned (.tuple #[.int .u64 (dD b.toList : Nat), v, .int .i64 (db b.toList : Nat)]) /\ Bod w' B v (cT b.toList) /\ Below B w w' := by
 have hA := cj.blk w b 29;have hbA := (Below.refl w.heap.size w).alloc ai (.cells (cel b).toArray 29);have HTA := ae (T.below hbA);have HA := ae hA;have HBA := ae hbA;have HL := ae (eQ b);have hE := r7 h0 h1 h2;have HE := ae hE;have HN := ae (kH hE);have HBB := ae (kC hE);obtain ⟨x, hx⟩ : ∃ x, et b.toList = x := ⟨_, rfl⟩;rw [hx] at h0;have HX : Hid (val 8 (piece b.toList 0 8) = x) := ae hx;have HY : Hid (val 8 (piece b.toList 56 8) = x) := ae (by rw [<- hx]; exact h1.symm);have HS4 := ae (sq (eQ b));have HCL := ae (r6 b.toList);have hz : ((x : Int) == 0) = false := by simp; omega
 have hn : ((x : Int) != (x : Int)) = false := by simp
 have hc : (((lK b.toList : Nat) : Int) != ((lE b.toList : Nat) : Int)) = false := by rw [h2]; simp
 have HXX := ae hx;clear hE h0 h1 hx h2;clear hA hbA T;go_enter func124, ntmps124;go_wp2_with (first | (refine av rfl (b9 rfl rfl) ?_) | fail);refine (jl w.heap.size _).mono ?_;rintro e w1 ⟨rfl, hb1⟩;have HG := ae (gu w w1 b HBA HTA hb1);clear HTA HA HBA hb1;obtain ⟨g, hg⟩ : ∃ g, w.heap.size = g := ⟨_, rfl⟩;have HGE := ae (Nat.le_of_eq hg.symm);rw [hg] at HG HB;rw [hg];clear hg;obtain ⟨c0, c1, c2, c3, c4⟩ := HG.out.par.cells;go_wp2_with (first | (refine bi rfl (fG g rfl rfl rfl) ?_) | fail);clear c0 c1 c2 c3 c4;generalize w1.heap.size = p at *;generalize w1.alloc (.cells (eK g) 171) = w2 at *;obtain ⟨c0, c1, c2, c3, c4⟩ := HG.out.par.cells;have hr0 := HG.out.row.rd (p := 0) (k := 8) (by rw [HL.out]; omega);refine (e9 _ 8 8 _ _ _ hr0 (by omega) (by omega)).mono ?_;rintro e w3 ⟨rfl, rfl⟩;clear hr0;rw [HX.out];go_wp2_with fail;have hr3 := HG.out.row.rd (p := 56) (k := 8) (by rw [HL.out]; omega);refine (e9 _ 8 8 _ _ _ hr3 (by omega) (by omega)).mono ?_;rintro e w3 ⟨rfl, rfl⟩;clear hr3;rw [HY.out];go_wp2_with fail;clear c0 c1 c2 c3 c4;have hle : w2.heap.size <= w2.heap.size := ai;refine bQ (B := w2.heap.size) (by kernel_rfl) ?_;refine abO (fun _ hw => ax rfl abQ zu) ?_;refine abO (fun _ hw => aE rfl abQ (ldS (HG.out.par.below (aW HG.out.par) hw).cells.2.2.1)) ?_;refine cD rfl (fun _ => aA call135 rfl (evc abQ evn)) (cn hle fun _ hw => ld HG.out.row hw 52 4 (by rw [HL.out]; omega) (by omega) (by omega)) ?_;simp only [aa];refine abO (fun _ hw => ax rfl abQ zL) ?_;refine abO (fun _ hw => aE rfl abQ (ldS (HG.out.par.below (aW HG.out.par) hw).cells.2.2.2.2)) ?_;refine cD rfl (fun _ => aA call133 rfl (evc abQ evn)) (cn hle fun _ hw => oI HG.out.row HG.out.tab hw 0 52 (by rw [HL.out]; omega) (by unfold maxLen; omega)) ?_;simp only [aa];refine abO (fun _ hw => ka rfl abQ HCL) ?_;refine abO (fun _ hw => pe false rfl abQ abQ hc) ?_;refine wpQuiet_nil ?_;intro w3 hb3;have HG3 := ae (HG.out.below hb3 HGE);clear hb3 HG;have HG4 := ae (HG3.out.below ((Below.refl w3.heap.size w3).alloc ai (.cells sg 5)) HGE);obtain ⟨c0, c1, c2, c3, c4⟩ := HG4.out.par.cells;have HNEW : Hid (cj (w3.alloc (.cells sg 5)) w3.heap.size 5 sa) := ae (cj.new w3 sa _);have HSRC := ae (HG4.out.row.rd (p := 8) (k := 44) (by rw [HL.out]; omega));have HPL : Hid ((piece b.toList 8 44).length = 44) := ae (cH (by rw [HL.out]; omega));have HW3 := ae (ap HGE HG3.out.bel.size);clear HG3;obtain ⟨q, hq⟩ : ∃ q, w3.heap.size = q := ⟨_, rfl⟩;rw [hq] at HNEW HW3;have HQ := ae hq;generalize hw4 : w3.alloc (.cells sg 5) = w4 at *;have HM : Hid (∀ w : World, w = w3 -> (Instr.makeSlice 116 (.int .i64 44) (.int .i64 44)).run prog w = .ok (.slice (some ⟨q, 0, none⟩) 44 44) w4) := ae (fun w e => by subst e; rw [zX, hq, hw4]);have hmk := HM.out w3 rfl;clear hq hw4;go_wp2_with (with_reducible refine dQ rfl _ _ rfl q 0 44 44 44 44 _ _ 5 _ (piece b.toList 8 44) rfl rfl HNEW.out HSRC.out (Nat.le_refl _) ?c1 ?_)
 case c1 => simp [sa]
 intro w5 hr5 hg5;rw [sS HPL.out] at hr5;have HB5 := ae (HG4.out.bel.grown hg5 (ap HGE HG4.out.bel.size) (fun k hk => by injection hk with e; subst e; exact HW3));have HR5 := ae hr5;clear hr5 hg5 c0 c1 c2 c3 c4;go_wp2_with fail;refine bodyPost_ret (v := .tuple #[.int .u64 (x : Int), .slice (some ⟨q, 0, none⟩) 44 44, .int .i64 0]) (by simp [results, Tryz.results124, go_sem]) rfl ⟨_, by rw [HE.out, HN.out, HXX.out]; rfl, .inr ⟨q, ?_, ?_, ?_, ?_⟩, ?_⟩
 ·rw [HBB.out, HPL.out]
 ·rw [HB.out]; exact HW3
 ·rw [HBB.out]; exact HR5
 ·rw [HBB.out, HPL.out]; unfold maxLen; omega
 ·rw [HB.out]; exact HB5
theorem gZ (b : Blk) (B : Nat) (w : World) (HB : Hid (B = w.heap.size)) (T : Tab w) : Calls prog 124 #[blk b] w fun e w' => ∃ v, e = .returned (.tuple #[.int .u64 (dD b.toList : Nat), v, .int .i64 (db b.toList : Nat)]) /\ Bod w' B v (cT b.toList) /\ Below B w w' := by
 by_cases h0 : et b.toList = 0
 ·exact tO b B w HB T h0
 ·by_cases h1 : et b.toList = agO b.toList
  ·by_cases h2 : lK b.toList = lE b.toList
   ·exact wY b B w HB T h0 h1 h2
   ·exact vz b B w HB T h0 h1 h2
  ·exact oM b B w HB T h0 h1
set_option linter.unusedSimpArgs false
theorem qA {w w2 : World} {g p q : Nat} {l : List UInt8} (HR : cj w g 5 l) (hb : Below (w.alloc (.cells (aY bq).toArray 37)).heap.size (w.alloc (.cells (aY bq).toArray 37)) w2)
  (hc : ix w2 p q (.slice (some ⟨g, 0, none⟩) 44 44) 0) (hd : w.heap.size + 1 <= p /\ w.heap.size + 1 <= q /\ p ≠ q /\ p < w2.heap.size /\ q < w2.heap.size) :
  fA w.heap.size w ((w2.alloc (.cells #[iT p q] 167)).alloc (.cells (aY bq).toArray 37)) g l (w2.heap.size + 1) w.heap.size w2.heap.size p q 0 bq := by
 have e0 := World.size_alloc (w := w) (o := Obj.cells (aY bq).toArray 37);have e1 := World.size_alloc (w := w2) (o := Obj.cells #[iT p q] 167);have h1 := aW HR;have h3 := hb.size;rw [e0] at h3;have hro := bZ.new (w2.alloc (.cells #[iT p q] 167)) bq;rw [e1] at hro;have hb1 := (Below.refl w.heap.size w).alloc ai (.cells (aY bq).toArray 37);have hb2 : Below w.heap.size w w2 := hb1.trans (hb.mono hb1.size);refine ⟨((HR.past _).below (by rw [e0]; omega) hb).past _ |>.past _, hro, bw (bw (aC (heap_alloc_new w _) hb) _) _, bw (heap_alloc_new w2 _) _, ⟨bw (bw hc.1 _) _, bw (bw hc.2 _) _⟩, (hb2.alloc (by omega) _).alloc (by rw [e1]; omega) _, ?_, ?_, ?_⟩
 ·omega
 ·omega
 ·refine ⟨?_, ?_, ?_, ?_, ?_, ?_, ?_, ?_, ?_, ?_⟩ <;> omega
theorem rR (g : Nat) (l : List UInt8) (w : World) (hl : l.length = 44) (hr : cj w g 5 l) : Calls prog 125 #[.slice (some ⟨g, 0, none⟩) 44 44] w fun e w' => e = .returned (sup (cd l)) /\ Below w.heap.size w w' := by
 have hmf : ∀ (fn : Fn) (first cap : Array Value) (w : World), (Instr.makeFunc fn first cap).run prog w = .ok (.func fn first cap) w := fun _ _ _ _ => rfl
 have HL := ae hl;have HR := ae hr;obtain ⟨I, hI⟩ : ∃ I : Nat, val 8 (piece l 0 8) = I := ⟨_, rfl⟩;obtain ⟨M, hM⟩ : ∃ M : Nat, val 8 (piece l 8 1) = M := ⟨_, rfl⟩;have bM : M < 256 := by rw [<- hM]; exact cF (b := l) (p := 8) (k := 1) (by omega)
 obtain ⟨T, hT⟩ : ∃ T : Nat, val 8 (piece l 9 2) = T := ⟨_, rfl⟩;have bT : T < 65536 := by rw [<- hT]; exact cF (b := l) (p := 9) (k := 2) (by omega)
 obtain ⟨R, hR⟩ : ∃ R : Nat, val 8 (piece l 11 2) = R := ⟨_, rfl⟩;have bR : R < 65536 := by rw [<- hR]; exact cF (b := l) (p := 11) (k := 2) (by omega)
 obtain ⟨E, hE⟩ : ∃ E : Nat, val 8 (piece l 13 1) = E := ⟨_, rfl⟩;have bE : E < 256 := by rw [<- hE]; exact cF (b := l) (p := 13) (k := 1) (by omega)
 obtain ⟨C, hC⟩ : ∃ C : Nat, val 8 (piece l 18 2) = C := ⟨_, rfl⟩;have bC : C < 65536 := by rw [<- hC]; exact cF (b := l) (p := 18) (k := 2) (by omega)
 obtain ⟨G, hG⟩ : ∃ G : Nat, val 8 (piece l 20 1) = G := ⟨_, rfl⟩;have bG : G < 256 := by rw [<- hG]; exact cF (b := l) (p := 20) (k := 1) (by omega)
 obtain ⟨gb, hgb⟩ : ∃ gb, decide (G = 1) = gb := ⟨_, rfl⟩;have hgg : ((G : Int) == 1) = gb := by rw [<- hgb, Bool.eq_iff_iff]; simp; omega
 obtain ⟨st, hst⟩ : ∃ st, bf 2 16 (val 8 (piece l 14 4)) = st := ⟨_, rfl⟩;have HST := ae hst;have HSL : Hid (st.length = 16) := ae (by rw [<- hst, aF]);have HDEF : Hid (cd l = ⟨I, (E : Nat), ⟨(M : Nat), (T : Nat), (R : Nat), l7 st, (C : Nat), gb⟩⟩) := ae (by unfold cd; rw [hI, hM, hT, hR, hE, hC, hG, hgb, hst]);have HII := ae hI;have HMM := ae hM;have HTT := ae hT;have HRR := ae hR;have HEE := ae hE;have HCC := ae hC;have HGG2 := ae hG;have HGG := ae hgg;clear hI hM hT hR hE hC hG hgb hst hl hr hgg;go_enter func125, ntmps125;go_wp2_with (first | (refine au rfl (bz rfl) ?_) | fail);refine (l6 (.slice (some ⟨g, 0, none⟩) 44 44) _ 44 44 rfl _).mono ?_;rintro e w2 ⟨p, q, rfl, hc, hp0, hq0, hpq, hp1, hq1, hb⟩;have HW0 := ae (qA HR hb hc (by rw [World.size_alloc] at hp0 hq0; exact ⟨hp0, hq0, hpq, hp1, hq1⟩));clear hb hc hp0 hq0 hpq hp1 hq1 HR;unfold iT at HW0 ⊢;go_upto_region 5 with (first | (refine au rfl (bz rfl) ?_) | fail)
 try simp only [World.size_alloc]
 generalize ((w2.alloc (.cells #[Value.func (.func 141) #[] #[.pointer (some ⟨p, 0, none⟩), .pointer (some ⟨q, 0, none⟩)]] 167)).alloc (.cells (aY bq).toArray 37)) = w3 at *
 try simp only [World.size_alloc]
 generalize w2.heap.size = nb at *;obtain ⟨B, hBdef⟩ : ∃ B, w.heap.size = B := ⟨_, rfl⟩;have HBD := ae hBdef;rw [hBdef] at HW0 ⊢;clear hBdef;have HSN : Hid (nb + 1 ≠ nb) := ae (by omega);obtain ⟨s, hs⟩ : ∃ s, nb + 1 = s := ⟨_, rfl⟩;rw [hs] at HW0 ⊢;clear hs;have HB0 : Hid (B <= w.heap.size) := ae (Nat.le_of_eq HBD.out.symm);go_wp2_with fail;refine (lI B w _ g l s B nb p q 0 8 _ HW0 HB0 HL (by omega) (by omega) (by omega)).mono ?_;rintro e w4 ⟨rfl, hW⟩;rw [HII.out];have HV0 := ae hW;have cc := HV0.out.sup.cells.1;have ff := HV0.out.sup.free 0;clear hW;have HW1 : Hid (fA B w (w4.setCell ⟨s, 0, none⟩ (.int .u64 (I : Nat))) g l s B nb p q 8 ⟨I, 0, ⟨0, 0, 0, bF.st, 0, false⟩⟩) := ae (HV0.out.set 0 _ (xd _ _) HB0);clear HV0;go_wp2_with fail;refine (lI B w _ g l s B nb p q 8 1 _ HW1 HB0 HL (by omega) (by omega) (by omega)).mono ?_;rintro e w5 ⟨rfl, hW⟩;rw [HMM.out];have HV1 := ae hW;have cc := HV1.out.sup.cells.2.2.1;have ff := HV1.out.sup.free 2;clear hW HW1;have HW2 : Hid (fA B w (w5.setCell ⟨s, 2, none⟩ (.int .i64 (M : Nat))) g l s B nb p q 9 ⟨I, 0, ⟨(M : Nat), 0, 0, bF.st, 0, false⟩⟩) := ae (HV1.out.set 2 _ (zh _ _) HB0);clear HV1;go_wp2_with fail;refine (lI B w _ g l s B nb p q 9 2 _ HW2 HB0 HL (by omega) (by omega) (by omega)).mono ?_;rintro e w6 ⟨rfl, hW⟩;rw [HTT.out];have HV2 := ae hW;have cc := HV2.out.sup.cells.2.2.2.1;have ff := HV2.out.sup.free 3;clear hW HW2;have HW3 : Hid (fA B w (w6.setCell ⟨s, 3, none⟩ (.int .i64 (T : Nat))) g l s B nb p q 11 ⟨I, 0, ⟨(M : Nat), (T : Nat), 0, bF.st, 0, false⟩⟩) := ae (HV2.out.set 3 _ (zV _ _) HB0);clear HV2;go_wp2_with fail;refine (lI B w _ g l s B nb p q 11 2 _ HW3 HB0 HL (by omega) (by omega) (by omega)).mono ?_;rintro e w7 ⟨rfl, hW⟩;rw [HRR.out];have HV3 := ae hW;have cc := HV3.out.sup.cells.2.2.2.2.1;have ff := HV3.out.sup.free 4;clear hW HW3;have HW4 : Hid (fA B w (w7.setCell ⟨s, 4, none⟩ (.int .i64 (R : Nat))) g l s B nb p q 13 ⟨I, 0, ⟨(M : Nat), (T : Nat), (R : Nat), bF.st, 0, false⟩⟩) := ae (HV3.out.set 4 _ (zP _ _) HB0);clear HV3;go_wp2_with fail;refine (lI B w _ g l s B nb p q 13 1 _ HW4 HB0 HL (by omega) (by omega) (by omega)).mono ?_;rintro e w8 ⟨rfl, hW⟩;rw [HEE.out];have HV4 := ae hW;have cc := HV4.out.sup.cells.2.1;have ff := HV4.out.sup.free 1;clear hW HW4;have HW5 : Hid (fA B w (w8.setCell ⟨s, 1, none⟩ (.int .i64 (E : Nat))) g l s B nb p q 14 ⟨I, (E : Nat), ⟨(M : Nat), (T : Nat), (R : Nat), bF.st, 0, false⟩⟩) := ae (HV4.out.set 1 _ (t6 _ _) HB0);clear HV4;have n0 := (cell1 HW5.out.nxt).1;unfold iT at n0;go_wp2_with fail;refine (xC p q g 0 44 44 14 4 _ HW5.out.cut HW5.out.dif.2.2.2.2.1 (by omega) (by omega) ai (by omega)).mono ?_;rintro e w9 ⟨rfl, hc, hg⟩;have HV5 := ae (HW5.out.step hc hg HB0);clear hc hg n0 HW5 cc ff;have HRD := ae (HV5.out.row.rd (p := 14) (k := 4) (by rw [HL.out]; omega));go_wp2_with fail;refine (tz _ 4 4 _ 2 16 _ (piece l 14 4) w9 (ae rfl) HRD ai (by omega) (by omega) (by omega) (by omega) (by decide)).mono ?_;rintro e w10 ⟨v, rfl, hv, hb⟩;rw [HST.out] at hv;have hvm := hv.made;obtain ⟨A, c, rfl, hrd, _, _⟩ := hvm.open_ HSL;have HV6 := ae (HV5.out.keep hb HB0);have HRD2 := ae hrd;clear hv hvm hrd hb HRD HV5;go_wp2_with (first | (refine au rfl (fw rfl rfl) ?_) | (refine nj rfl _ _ rfl s 5 16 16 c _ A 37 (aY _) st rfl rfl HV6.out.sup HRD2 (by omega) ?_ ?_) | fail)
 ·rw [aH]; omega
 intro w11 hs11 hg11;rw [wM _ HSL.out] at hs11;have HW6 : Hid (fA B w w11 g l s B nb p q 18 ⟨I, (E : Nat), ⟨(M : Nat), (T : Nat), (R : Nat), l7 st, 0, false⟩⟩) := ae (HV6.out.put hs11 hg11 HB0);clear hs11 hg11 HV6 HRD2;go_wp2_with fail;refine (lI B w _ g l s B nb p q 18 2 _ HW6 HB0 HL (by omega) (by omega) (by omega)).mono ?_;rintro e w12 ⟨rfl, hW⟩;rw [HCC.out];have HV6 := ae hW;have cc := HV6.out.sup.cells.2.2.2.2.2.1;have ff := HV6.out.sup.free 21;clear hW HW6;have HW7 : Hid (fA B w (w12.setCell ⟨s, 21, none⟩ (.int .i64 (C : Nat))) g l s B nb p q 20 ⟨I, (E : Nat), ⟨(M : Nat), (T : Nat), (R : Nat), l7 st, (C : Nat), false⟩⟩) := ae (HV6.out.set 21 _ (uF _ _) HB0);clear HV6;go_wp2_with fail;refine (lI B w _ g l s B nb p q 20 1 _ HW7 HB0 HL (by omega) (by omega) (by omega)).mono ?_;rintro e w13 ⟨rfl, hW⟩;rw [HGG2.out];have HV7 := ae hW;clear hW HW7 cc ff;have cc := HV7.out.sup.cells.2.2.2.2.2.2;have ff := HV7.out.sup.free 22;have HW8 : Hid (fA B w (w13.setCell ⟨s, 22, none⟩ (.bool gb)) g l s B nb p q 21 ⟨I, (E : Nat), ⟨(M : Nat), (T : Nat), (R : Nat), l7 st, (C : Nat), gb⟩⟩) := ae (HV7.out.set 22 _ (ud _ _) HB0);rw [<- HDEF.out] at HW8;have hgg := HGG.out;clear HV7;have HLS := ae HW8.out.sup.range;have HTH := ae (bk (o := 0) (n := 23) HW8.out.res (by rw [aH]; exact ai));have HBB := ae HW8.out.bel;go_upto_region 14 with fail;generalize w13.setCell ⟨s, 22, none⟩ (.bool gb) = w14 at *;clear cc ff;go_wp2_with (first | (refine au rfl (cp (c := cd l) rfl rfl ?_) ?_; (with_reducible exact HLS.out)) | (refine az rfl (cy rfl rfl rfl ?_) ?_; (with_reducible exact HTH.out)) | fail);refine bodyPost_ret (dM (t := 37) (cs := aY (cd l)) rfl _ _ B rfl ?h1 underlying37 rfl ?h2) rfl ⟨rfl, ?h3⟩
 case h1 => exact World.rangeAt_setCells_same _ _ _ _ (by rw [aH]; exact HTH)
 case h2 => rw [aH]; exact fj
 case h3 => rw [HBD.out]; exact below_setCells HBB ai _
theorem oe {ρ : Operand -> Value} {o : Oper} {x y : Operand} {w : World} {l : List UInt8} (hl : l.length = 44) (ho : o.op = .store 162 x y) (hx : ρ x = .pointer (some ⟨w.heap.size, 0, none⟩)) (hy : ρ y = arr l) :
  (execOp ρ o).run prog (w.alloc (.cells (vals z44).toArray 162)) = .ok .skip (w.alloc (.cells (vals l).toArray 162)) :=
 f8 (by rw [bj, hl]; exact j0) (by rw [bj, bj, hl, qO]) (gh l) ho hx hy
theorem jt (n : Nat) (w : World) {b : Bool} (h : evB n = b) : Calls prog 118 #[.int .u64 n] w fun e w' => e = .returned (.bool b) /\ Below w.heap.size w w' := by
 subst h;exact (wh n w).mono fun e w' ⟨he, hw⟩ => ⟨he, hw ▸ aj⟩
theorem nF (x : Sup) (w : World) {b : Bool} (h : ew x = b) : Calls prog 119 #[sup x] w fun e w' => e = .returned (.bool b) /\ Below w.heap.size w w' := by
 subst h;exact yO x w
theorem aaD (n : Nat) (x : Sup) (w : World) (T : Tab w) (hn : n < 18446744073709551616) (hid : x.id < 18446744073709551616) :
  Calls prog 113 #[.int .u64 n, sup x] w fun e w' => e = .returned (.tuple #[blk (fI n x), .int .i64 (kb n x : Nat)]) /\ Below w.heap.size w w' := by
 obtain ⟨h1, h2, h3⟩ := mb w x;have HS := ae (h1.past (.cells (cel aB).toArray 29));have HB := ae (h2.alloc h2.size (.cells (cel aB).toArray 29));have HT := ae T;have HN := ae hn;have HI := ae hid;have HR : Hid (((w.alloc (.cells (aY x).toArray 37)).alloc (.cells (cel aB).toArray 29)).there (w.heap.size + 1) 0 64) := ae (by
  have := eI (w.alloc (.cells (aY x).toArray 37)) aB 29;rwa [World.size_alloc] at this)
 have HZ : Hid (w.heap.size + 1 < ((w.alloc (.cells (aY x).toArray 37)).alloc (.cells (cel aB).toArray 29)).heap.size) := ae (by simp only [World.size_alloc]; omega);clear h1 h2 h3 T hn hid;go_enter func113, ntmps113;go_wp2_with (first | (refine au rfl (gi rfl rfl) ?_) | (refine au rfl (bL rfl) ?_) | fail)
 try simp only [World.size_alloc]
 generalize (w.alloc (.cells (aY x).toArray 37)).alloc (.cells (cel aB).toArray 29) = w1 at *;refine (wh n w1).mono ?_;rintro e w' ⟨rfl, rfl⟩;by_cases hev : evB n = true
 ·rw [hev];have HEV := ae hev;clear hev;go_wp2_with (first | (refine av (by rfl) (cp (c := x) rfl rfl ?_) ?_; (with_reducible exact HS.out.range)) | fail);refine (yO x w1).mono ?_;rintro e w2 ⟨rfl, hb⟩;have HS2 := ae (HS.out.below (aW HS) hb);have HB2 := ae (HB.out.trans (hb.mono HB.out.size));have HR2 := ae (bO HR HZ hb);have HZ2 : Hid (w.heap.size + 1 < w2.heap.size) := ae (by have := hb.size; have := HZ.out; omega);clear hb HS HB HR HZ;by_cases hm : ew x = true
  ·rw [hm];have HM := ae hm;clear hm;go_wp2_with (first | (refine au rfl (cp (c := x) rfl rfl ?_) ?_; (with_reducible exact HS2.out.range)) | fail);refine (wx x w2 HI HM).mono ?_;rintro e w3 ⟨rfl, hb⟩;have hb3 := HB2.out.trans (hb.mono HB2.out.size);have HB3 := ae (hb3.alloc hb3.size (.cells (vals (ce x)).toArray 162));have HR3 := ae (bO HR2 HZ2 (hb.alloc hb.size (.cells (vals (ce x)).toArray 162)));have hrd := (cj.new w3 (ce x) 162).rd (p := 0) (k := 44) (by rw [cE]; omega);rw [jD (cE x)] at hrd;have HRD := ae hrd;have HFL := ae (cE x);have HZ3 : Hid (w.heap.size + 1 < (w3.alloc (.cells (vals (ce x)).toArray 162)).heap.size) := ae (by have := hb.size; have := HZ2.out; simp only [World.size_alloc]; omega);clear hb hb3 hrd HS2 HB2 HR2 HZ2;go_wp2_with (first | (refine au rfl (jh rfl) ?_) | (refine az rfl (oe (l := ce x) HFL.out rfl rfl rfl) ?_) | (refine au rfl (lL rfl rfl) ?_) | fail);generalize hw4 : w3.alloc (.cells (vals (ce x)).toArray 162) = w4 at *;refine (xJ n 44 44 _ _ (ce x) w4 (HT.out.below HB3) HN HRD ai (by unfold maxLen; omega)).mono ?_;rintro e w5 ⟨rfl, hb⟩;rw [mR, iC, fW x HEV.out];have HR5 := ae (bO HR3 HZ3 hb);have HB5 := ae (HB3.out.trans (hb.mono HB3.out.size));have HPB := ae (lN HEV HM);have HPE := ae (jy HEV HM);clear hb hw4 HRD HR3 HZ3 HB3;generalize eW n (dI x) = pb at *;go_wp2_with (first | (refine az rfl (bD (c := pb) rfl rfl rfl ?_) ?_; (with_reducible exact HR5.out)) | fail);refine bodyPost_ret (cN rfl _ _ _ rfl (World.rangeAt_setCells_same _ _ _ _ (by rw [aJ]; exact HR5))) rfl ⟨by rw [HPB.out, HPE.out]; rfl, below_setCells HB5 (Nat.le_succ _) _⟩
  ·have hm' : ew x = false := by simpa using hm
   have HPB := ae (ov (n := n) (x := x) (fun h => hm h.2));have HPE := ae (od (n := n) (x := x) (fun h => hm h.2));rw [hm'];clear hm hm';go_wp2_with (first | (refine au rfl (cP (c := aB) (parts := []) rfl rfl) ?_) | (refine az rfl (bD (c := aB) rfl rfl rfl ?_) ?_; (with_reducible exact HR2.out)) | fail);refine bodyPost_ret (cN rfl _ _ _ rfl (World.rangeAt_setCells_same _ _ _ _ (by rw [aJ]; exact HR2))) rfl ⟨by rw [HPB.out, HPE.out]; rfl, below_setCells HB2 (Nat.le_succ _) _⟩
 ·have hev' : evB n = false := by simpa using hev
  have HPB := ae (ov (n := n) (x := x) (fun h => hev h.1));have HPE := ae (od (n := n) (x := x) (fun h => hev h.1));rw [hev'];clear hev hev';go_wp2_with (first | (refine au rfl (cP (c := aB) (parts := []) rfl rfl) ?_) | (refine az rfl (bD (c := aB) rfl rfl rfl ?_) ?_; (with_reducible exact HR.out)) | fail);refine bodyPost_ret (cN rfl _ _ _ rfl (World.rangeAt_setCells_same _ _ _ _ (by rw [aJ]; exact HR))) rfl ⟨by rw [HPB.out, HPE.out]; rfl, below_setCells HB (Nat.le_succ _) _⟩
section
variable {P : Program} {ops : Array Oper} {C : World -> Prop} {Q : Act -> Prop} {a : Act} {o : Oper} {rest l : List Oper} {v : Value}
theorem kj : ∀ (rs : List Oper) (a : Act), unw ops rs a = true -> wpQuiet P ops C Q rest (a9 rs a) -> wpQuiet P ops C Q (rs ++ rest) a
 |[], _, _, h => h
 |r :: rs, a, hu, h => by
  simp only [unw, Bool.and_eq_true, Bool.not_eq_true'] at hu;exact xc hu.1 (kj rs _ hu.2 h)
theorem nq (n : Nat) (hw : Region.wanted o (yielded ops a.tmps) = true) (h : ∀ w, C w -> (execOp a.eval o).run P w = .ok (.value v) w) (hu : unw ops (l.take n) (a.put o.dst v) = true) (hr : wpQuiet P ops C Q (l.drop n) (a9 (l.take n) (a.put o.dst v))) : wpQuiet P ops C Q (o :: l) a :=
 bv hw h (by have := kj (P := P) (C := C) (Q := Q) (l.take n) _ hu hr; rwa [List.take_append_drop] at this)
end
theorem pi {ρ : Operand -> Value} {o : Oper} {x : Operand} {w : World} {g c : Nat} (ho : o.op = .sliceToArrayPointer 162 x) (hx : ρ x = .slice (some ⟨g, 0, none⟩) 44 c) : (execOp ρ o).run prog w = .ok (.value (.pointer (some ⟨g, 0, none⟩))) w := by
 unfold execOp;simp [ho, hx, Instr.arrayAt, run_underlying underlying162]
section
variable (b : Blk) (w : World)
structure SgW (w w3 : World) (b : Blk) (g s : Nat) (l : List UInt8) (y : Sup) : Prop where
 row : cj w3 g 5 l
 sup : bZ w3 s y
 res : w3.there (w.heap.size + 1) 0 23
 bel : Below w.heap.size w w3
 lt : w.heap.size + 1 < w3.heap.size
theorem SgW.keep {w w3 w4 : World} {b : Blk} {g s : Nat} {l : List UInt8} {y : Sup} (h : SgW w w3 b g s l y) (hb : Below w3.heap.size w3 w4) : SgW w w4 b g s l y :=
 ⟨h.row.below h.row.lt hb, h.sup.below (aW h.sup) hb, bO h.res h.lt hb, h.bel.trans (hb.mono h.bel.size), aq h.lt hb.size⟩
end
theorem qz (b : Blk) (w : World) (T : Tab w) (h : db b.toList ≠ 0) : Calls prog 117 #[blk b] w fun e w' => e = .returned (.tuple #[.int .u64 (0 : Nat), sup bq, .int .i64 (db b.toList : Nat)]) /\ Below w.heap.size w w' := by
 obtain ⟨n, hn⟩ : ∃ n, dD b.toList = n := ⟨_, rfl⟩;obtain ⟨l, hl⟩ : ∃ l, cT b.toList = l := ⟨_, rfl⟩;have h1 := (Below.refl w.heap.size w).alloc ai (.cells (cel b).toArray 29);have h2 := h1.alloc h1.size (.cells (aY bq).toArray 37);have HA : Hid (((w.alloc (.cells (cel b).toArray 29)).alloc (.cells (aY bq).toArray 37)).rangeAt w.heap.size 0 (cel b)) := ae (World.rangeAt_alloc (dx w (cel b) 29) _);have hsn := bZ.new (w.alloc (.cells (cel b).toArray 29)) bq;rw [World.size_alloc] at hsn;have HR := ae (bk (o := 0) (n := 23) hsn (by rw [aH]; exact ai));have HZ := ae (aW hsn);have HB := ae h2;have HT := ae (T.below h2);have HN := ae hn;have HL := ae hl;clear h1 h2 hsn T;obtain ⟨E, hE⟩ : ∃ E, db b.toList = E := ⟨_, rfl⟩;rw [hE] at h;have HE := ae hE;have hne : ((E : Int) != 0) = true := by simp; omega
 clear hE hn hl;go_enter func117, ntmps117;go_wp2_with (first | (refine au rfl (b9 rfl rfl) ?_) | (refine au rfl (bz rfl) ?_) | (refine au rfl (br (c := b) rfl rfl ?_) ?_; (with_reducible exact HA.out)) | fail)
 try simp only [World.size_alloc]
 generalize (w.alloc (.cells (cel b).toArray 29)).alloc (.cells (aY bq).toArray 37) = w0 at *;refine (gZ b _ w0 (ae rfl) HT).mono ?_;rintro e w1 ⟨v, rfl, hv, hb⟩;rw [HN.out];rw [HE.out];have HR1 := ae (bO HR HZ hb);have HB1 := ae (HB.out.trans (hb.mono HB.out.size));clear hv hb HA HR HB;go_wp2_with (first | (refine au rfl (eN rfl) ?_) | (refine az rfl (cy (c := bq) rfl rfl rfl ?_) ?_; (with_reducible exact HR1.out)) | fail);refine bodyPost_ret (eU (t := 37) (cs := aY bq) rfl _ _ _ rfl ?h1 underlying37 rfl ?h2) rfl ⟨by rw [HE.out]; rfl, ?h3⟩
 case h1 => exact World.rangeAt_setCells_same _ _ _ _ (by rw [aH]; exact HR1)
 case h2 => rw [aH]; exact fj
 case h3 => exact below_setCells HB1 (Nat.le_succ _) _
theorem uf (b : Blk) (w : World) (T : Tab w) (h0 : db b.toList = 0) (hev : evB (dD b.toList) = false) : Calls prog 117 #[blk b] w fun e w' => e = .returned (.tuple #[.int .u64 (0 : Nat), sup bq, .int .i64 (5 : Nat)]) /\ Below w.heap.size w w' := by
 obtain ⟨n, hn⟩ : ∃ n, dD b.toList = n := ⟨_, rfl⟩;obtain ⟨l, hl⟩ : ∃ l, cT b.toList = l := ⟨_, rfl⟩;have h1 := (Below.refl w.heap.size w).alloc ai (.cells (cel b).toArray 29);have h2 := h1.alloc h1.size (.cells (aY bq).toArray 37);have HA : Hid (((w.alloc (.cells (cel b).toArray 29)).alloc (.cells (aY bq).toArray 37)).rangeAt w.heap.size 0 (cel b)) := ae (World.rangeAt_alloc (dx w (cel b) 29) _);have hsn := bZ.new (w.alloc (.cells (cel b).toArray 29)) bq;rw [World.size_alloc] at hsn;have HR := ae (bk (o := 0) (n := 23) hsn (by rw [aH]; exact ai));have HZ := ae (aW hsn);have HB := ae h2;have HT := ae (T.below h2);have HN := ae hn;have HL := ae hl;clear h1 h2 hsn T;rw [hn] at hev;have HEV := ae hev;clear hev;clear hn hl;go_enter func117, ntmps117;go_wp2_with (first | (refine au rfl (b9 rfl rfl) ?_) | (refine au rfl (bz rfl) ?_) | (refine au rfl (br (c := b) rfl rfl ?_) ?_; (with_reducible exact HA.out)) | fail)
 try simp only [World.size_alloc]
 generalize (w.alloc (.cells (cel b).toArray 29)).alloc (.cells (aY bq).toArray 37) = w0 at *;refine (gZ b _ w0 (ae rfl) HT).mono ?_;rintro e w1 ⟨v, rfl, hv, hb⟩;rw [HN.out];rw [h0];have hll : l.length = 44 := by rw [<- HL.out]; exact gW h0
 have HLL := ae hll;rw [HL.out] at hv;obtain ⟨g, hve, hrow⟩ : ∃ g, v = .slice (some ⟨g, 0, none⟩) 44 44 /\ cj w1 g 5 l := by
  rcases hv with ⟨_, rfl⟩ | ⟨g, e, _, hr, _⟩
  ·simp at hll
  ·rw [hll] at e; exact ⟨g, e, hr⟩
 subst hve;have HR1 := ae (bO HR HZ hb);have HB1 := ae (HB.out.trans (hb.mono HB.out.size));have HZ1 : Hid (w.heap.size + 1 < w1.heap.size) := ae (aq HZ hb.size);have HRW := ae hrow;clear hv hb HA HR HB HZ hll h0 hrow;go_wp2_with fail;refine (rR g l w1 HLL HRW).mono ?_;rintro e w2 ⟨rfl, hb⟩;have hb3 := hb.alloc hb.size (.cells (aY (cd l)).toArray 37);have HW3 : Hid (SgW w (w2.alloc (.cells (aY (cd l)).toArray 37)) b g w2.heap.size l (cd l)) := ae ⟨HRW.out.below HRW.out.lt hb3, bZ.new w2 _, bO HR1 HZ1 hb3, HB1.out.trans (hb3.mono HB1.out.size), aq HZ1 hb3.size⟩;have HI : Hid ((cd l).id < 18446744073709551616) := ae (fy (by rw [HLL.out]; omega));clear hb hb3 HRW HR1 HB1 HZ1;obtain ⟨y, hy⟩ : ∃ y, cd l = y := ⟨_, rfl⟩;have HY := ae hy;rw [hy] at HW3 HI;rw [hy];clear hy;have HFL := ae (cE y);go_upto_region 5 with (first | (refine au rfl (bz rfl) ?_) | (refine az rfl (cx rfl rfl rfl) ?_) | fail);generalize w2.alloc (.cells (aY y).toArray 37) = w3 at *;have HS3 := ae HW3.out.sup;have HR3 := ae HW3.out.row;generalize w2.heap.size = s at *;refine bQ (B := w3.heap.size) (by kernel_rfl) ?_;refine ec 1 ?_;refine cD rfl (fun _ => aA call118 rfl (evc abQ evn)) (cn ai fun w' hw => jt n w' HEV) ?_;simp only [aa];refine ec 1 ?_;refine nq 3 rfl (fun _ hw => aK rfl abQ) (by kernel_rfl) ?_;simp only [a9, ac, aa];refine ec 1 ?_;refine nq 6 rfl (fun _ hw => aK rfl abQ) (by kernel_rfl) ?_;simp only [a9, ac, aa];refine ec 1 ?_;refine wpQuiet_nil ?_;intro w4 hw;have HW4 := ae (HW3.out.keep hw);have HR4 := ae HW4.out.res;have HB4 := ae HW4.out.bel;clear HW3 HS3 HR3 hw;go_wp2_with (first | (refine au rfl (eN rfl) ?_) | (refine az rfl (cy (c := bq) rfl rfl rfl ?_) ?_; (with_reducible exact HR4.out)) | fail);refine bodyPost_ret (eU (t := 37) (cs := aY bq) rfl _ _ _ rfl ?h1 underlying37 rfl ?h2) rfl ⟨rfl, ?h3⟩
 case h1 => exact World.rangeAt_setCells_same _ _ _ _ (by rw [aH]; exact HR4)
 case h2 => rw [aH]; exact fj
 case h3 => exact below_setCells HB4 (Nat.le_succ _) _
theorem sZ (b : Blk) (w : World) (T : Tab w) (h0 : db b.toList = 0) (hev : evB (dD b.toList) = true) (hm : ew (cd (cT b.toList)) = false) : Calls prog 117 #[blk b] w fun e w' => e = .returned (.tuple #[.int .u64 (0 : Nat), sup bq, .int .i64 (5 : Nat)]) /\ Below w.heap.size w w' := by
 obtain ⟨n, hn⟩ : ∃ n, dD b.toList = n := ⟨_, rfl⟩;obtain ⟨l, hl⟩ : ∃ l, cT b.toList = l := ⟨_, rfl⟩;have h1 := (Below.refl w.heap.size w).alloc ai (.cells (cel b).toArray 29);have h2 := h1.alloc h1.size (.cells (aY bq).toArray 37);have HA : Hid (((w.alloc (.cells (cel b).toArray 29)).alloc (.cells (aY bq).toArray 37)).rangeAt w.heap.size 0 (cel b)) := ae (World.rangeAt_alloc (dx w (cel b) 29) _);have hsn := bZ.new (w.alloc (.cells (cel b).toArray 29)) bq;rw [World.size_alloc] at hsn;have HR := ae (bk (o := 0) (n := 23) hsn (by rw [aH]; exact ai));have HZ := ae (aW hsn);have HB := ae h2;have HT := ae (T.below h2);have HN := ae hn;have HL := ae hl;clear h1 h2 hsn T;rw [hn] at hev;rw [hl] at hm;have HEV := ae hev;have HM0 := ae hm;clear hev hm;clear hn hl;go_enter func117, ntmps117;go_wp2_with (first | (refine au rfl (b9 rfl rfl) ?_) | (refine au rfl (bz rfl) ?_) | (refine au rfl (br (c := b) rfl rfl ?_) ?_; (with_reducible exact HA.out)) | fail)
 try simp only [World.size_alloc]
 generalize (w.alloc (.cells (cel b).toArray 29)).alloc (.cells (aY bq).toArray 37) = w0 at *;refine (gZ b _ w0 (ae rfl) HT).mono ?_;rintro e w1 ⟨v, rfl, hv, hb⟩;rw [HN.out];rw [h0];have hll : l.length = 44 := by rw [<- HL.out]; exact gW h0
 have HLL := ae hll;rw [HL.out] at hv;obtain ⟨g, hve, hrow⟩ : ∃ g, v = .slice (some ⟨g, 0, none⟩) 44 44 /\ cj w1 g 5 l := by
  rcases hv with ⟨_, rfl⟩ | ⟨g, e, _, hr, _⟩
  ·simp at hll
  ·rw [hll] at e; exact ⟨g, e, hr⟩
 subst hve;have HR1 := ae (bO HR HZ hb);have HB1 := ae (HB.out.trans (hb.mono HB.out.size));have HZ1 : Hid (w.heap.size + 1 < w1.heap.size) := ae (aq HZ hb.size);have HRW := ae hrow;clear hv hb HA HR HB HZ hll h0 hrow;go_wp2_with fail;refine (rR g l w1 HLL HRW).mono ?_;rintro e w2 ⟨rfl, hb⟩;have hb3 := hb.alloc hb.size (.cells (aY (cd l)).toArray 37);have HW3 : Hid (SgW w (w2.alloc (.cells (aY (cd l)).toArray 37)) b g w2.heap.size l (cd l)) := ae ⟨HRW.out.below HRW.out.lt hb3, bZ.new w2 _, bO HR1 HZ1 hb3, HB1.out.trans (hb3.mono HB1.out.size), aq HZ1 hb3.size⟩;have HI : Hid ((cd l).id < 18446744073709551616) := ae (fy (by rw [HLL.out]; omega));clear hb hb3 HRW HR1 HB1 HZ1;obtain ⟨y, hy⟩ : ∃ y, cd l = y := ⟨_, rfl⟩;have HY := ae hy;rw [hy] at HW3 HI HM0;have HM := HM0;rw [hy];clear hy;have HFL := ae (cE y);go_upto_region 5 with (first | (refine au rfl (bz rfl) ?_) | (refine az rfl (cx rfl rfl rfl) ?_) | fail);generalize w2.alloc (.cells (aY y).toArray 37) = w3 at *;have HS3 := ae HW3.out.sup;have HR3 := ae HW3.out.row;generalize w2.heap.size = s at *;refine bQ (B := w3.heap.size) (by kernel_rfl) ?_;refine ec 1 ?_;refine cD rfl (fun _ => aA call118 rfl (evc abQ evn)) (cn ai fun w' hw => jt n w' HEV) ?_;simp only [aa];refine ec 2 ?_;refine abP (fun _ hw => cp (c := y) rfl abQ ((HS3.out.below (aW HS3) hw).range)) ?_;refine cD abB (fun _ => aA call119 rfl (evc abQ evn)) (cn ai fun w' hw => nF y w' HM) ?_;simp only [aa];refine ec 2 ?_;refine nq 6 rfl (fun _ hw => aK rfl abQ) (by kernel_rfl) ?_;simp only [a9, ac, aa];refine ec 1 ?_;refine wpQuiet_nil ?_;intro w4 hw;have HW4 := ae (HW3.out.keep hw);have HR4 := ae HW4.out.res;have HB4 := ae HW4.out.bel;clear HW3 HS3 HR3 hw;go_wp2_with (first | (refine au rfl (eN rfl) ?_) | (refine az rfl (cy (c := bq) rfl rfl rfl ?_) ?_; (with_reducible exact HR4.out)) | fail);refine bodyPost_ret (eU (t := 37) (cs := aY bq) rfl _ _ _ rfl ?h1 underlying37 rfl ?h2) rfl ⟨rfl, ?h3⟩
 case h1 => exact World.rangeAt_setCells_same _ _ _ _ (by rw [aH]; exact HR4)
 case h2 => rw [aH]; exact fj
 case h3 => exact below_setCells HB4 (Nat.le_succ _) _
theorem uG (b : Blk) (w : World) (T : Tab w) (h0 : db b.toList = 0) (hev : evB (dD b.toList) = true) (hm : ew (cd (cT b.toList)) = true) (hd : ce (cd (cT b.toList)) ≠ cT b.toList) : Calls prog 117 #[blk b] w fun e w' => e = .returned (.tuple #[.int .u64 (0 : Nat), sup bq, .int .i64 (5 : Nat)]) /\ Below w.heap.size w w' := by
 obtain ⟨n, hn⟩ : ∃ n, dD b.toList = n := ⟨_, rfl⟩;obtain ⟨l, hl⟩ : ∃ l, cT b.toList = l := ⟨_, rfl⟩;have h1 := (Below.refl w.heap.size w).alloc ai (.cells (cel b).toArray 29);have h2 := h1.alloc h1.size (.cells (aY bq).toArray 37);have HA : Hid (((w.alloc (.cells (cel b).toArray 29)).alloc (.cells (aY bq).toArray 37)).rangeAt w.heap.size 0 (cel b)) := ae (World.rangeAt_alloc (dx w (cel b) 29) _);have hsn := bZ.new (w.alloc (.cells (cel b).toArray 29)) bq;rw [World.size_alloc] at hsn;have HR := ae (bk (o := 0) (n := 23) hsn (by rw [aH]; exact ai));have HZ := ae (aW hsn);have HB := ae h2;have HT := ae (T.below h2);have HN := ae hn;have HL := ae hl;clear h1 h2 hsn T;rw [hn] at hev;rw [hl] at hm hd;have HEV := ae hev;have HM0 := ae hm;have HD0 : Hid (decide (ce (cd l) = l) = false) := ae (al hd);clear hev hm hd;clear hn hl;go_enter func117, ntmps117;go_wp2_with (first | (refine au rfl (b9 rfl rfl) ?_) | (refine au rfl (bz rfl) ?_) | (refine au rfl (br (c := b) rfl rfl ?_) ?_; (with_reducible exact HA.out)) | fail)
 try simp only [World.size_alloc]
 generalize (w.alloc (.cells (cel b).toArray 29)).alloc (.cells (aY bq).toArray 37) = w0 at *;refine (gZ b _ w0 (ae rfl) HT).mono ?_;rintro e w1 ⟨v, rfl, hv, hb⟩;rw [HN.out];rw [h0];have hll : l.length = 44 := by rw [<- HL.out]; exact gW h0
 have HLL := ae hll;rw [HL.out] at hv;obtain ⟨g, hve, hrow⟩ : ∃ g, v = .slice (some ⟨g, 0, none⟩) 44 44 /\ cj w1 g 5 l := by
  rcases hv with ⟨_, rfl⟩ | ⟨g, e, _, hr, _⟩
  ·simp at hll
  ·rw [hll] at e; exact ⟨g, e, hr⟩
 subst hve;have HR1 := ae (bO HR HZ hb);have HB1 := ae (HB.out.trans (hb.mono HB.out.size));have HZ1 : Hid (w.heap.size + 1 < w1.heap.size) := ae (aq HZ hb.size);have HRW := ae hrow;clear hv hb HA HR HB HZ hll h0 hrow;go_wp2_with fail;refine (rR g l w1 HLL HRW).mono ?_;rintro e w2 ⟨rfl, hb⟩;have hb3 := hb.alloc hb.size (.cells (aY (cd l)).toArray 37);have HW3 : Hid (SgW w (w2.alloc (.cells (aY (cd l)).toArray 37)) b g w2.heap.size l (cd l)) := ae ⟨HRW.out.below HRW.out.lt hb3, bZ.new w2 _, bO HR1 HZ1 hb3, HB1.out.trans (hb3.mono HB1.out.size), aq HZ1 hb3.size⟩;have HI : Hid ((cd l).id < 18446744073709551616) := ae (fy (by rw [HLL.out]; omega));clear hb hb3 HRW HR1 HB1 HZ1;obtain ⟨y, hy⟩ : ∃ y, cd l = y := ⟨_, rfl⟩;have HY := ae hy;rw [hy] at HW3 HI HM0 HD0;have HM := HM0;have HD := HD0;rw [hy];clear hy;have HFL := ae (cE y);go_upto_region 5 with (first | (refine au rfl (bz rfl) ?_) | (refine az rfl (cx rfl rfl rfl) ?_) | fail);generalize w2.alloc (.cells (aY y).toArray 37) = w3 at *;have HS3 := ae HW3.out.sup;have HR3 := ae HW3.out.row;generalize w2.heap.size = s at *;refine bQ (B := w3.heap.size) (by kernel_rfl) ?_;refine ec 1 ?_;refine cD rfl (fun _ => aA call118 rfl (evc abQ evn)) (cn ai fun w' hw => jt n w' HEV) ?_;simp only [aa];refine ec 2 ?_;refine abP (fun _ hw => cp (c := y) rfl abQ ((HS3.out.below (aW HS3) hw).range)) ?_;refine cD abB (fun _ => aA call119 rfl (evc abQ evn)) (cn ai fun w' hw => nF y w' HM) ?_;simp only [aa];refine ec 3 ?_;refine abP (fun _ hw => cp (c := y) rfl abQ ((HS3.out.below (aW HS3) hw).range)) ?_;refine cD abB (fun _ => aA call120 rfl (evc abQ evn)) (cn ai fun w' hw => wx y w' HI HM) ?_;simp only [aa];refine ec 1 ?_;refine abP (fun _ hw => pi rfl abQ) ?_;refine abP (fun _ hw => fN HLL rfl abQ (bN (HR3.out.below HR3.out.lt hw))) ?_;refine abP (fun _ hw => mX false HFL HLL rfl abQ abQ HD) ?_;refine ec 1 ?_;refine wpQuiet_nil ?_;intro w4 hw;have HW4 := ae (HW3.out.keep hw);have HR4 := ae HW4.out.res;have HB4 := ae HW4.out.bel;clear HW3 HS3 HR3 hw;go_wp2_with (first | (refine au rfl (eN rfl) ?_) | (refine az rfl (cy (c := bq) rfl rfl rfl ?_) ?_; (with_reducible exact HR4.out)) | fail);refine bodyPost_ret (eU (t := 37) (cs := aY bq) rfl _ _ _ rfl ?h1 underlying37 rfl ?h2) rfl ⟨rfl, ?h3⟩
 case h1 => exact World.rangeAt_setCells_same _ _ _ _ (by rw [aH]; exact HR4)
 case h2 => rw [aH]; exact fj
 case h3 => exact below_setCells HB4 (Nat.le_succ _) _
theorem ua (b : Blk) (w : World) (T : Tab w) (h0 : db b.toList = 0) (hev : evB (dD b.toList) = true) (hm : ew (cd (cT b.toList)) = true) (hd : ce (cd (cT b.toList)) = cT b.toList) : Calls prog 117 #[blk b] w fun e w' => e = .returned (.tuple #[.int .u64 (dD b.toList : Nat), sup (cd (cT b.toList)), .int .i64 (0 : Nat)]) /\ Below w.heap.size w w' := by
 obtain ⟨n, hn⟩ : ∃ n, dD b.toList = n := ⟨_, rfl⟩;obtain ⟨l, hl⟩ : ∃ l, cT b.toList = l := ⟨_, rfl⟩;have h1 := (Below.refl w.heap.size w).alloc ai (.cells (cel b).toArray 29);have h2 := h1.alloc h1.size (.cells (aY bq).toArray 37);have HA : Hid (((w.alloc (.cells (cel b).toArray 29)).alloc (.cells (aY bq).toArray 37)).rangeAt w.heap.size 0 (cel b)) := ae (World.rangeAt_alloc (dx w (cel b) 29) _);have hsn := bZ.new (w.alloc (.cells (cel b).toArray 29)) bq;rw [World.size_alloc] at hsn;have HR := ae (bk (o := 0) (n := 23) hsn (by rw [aH]; exact ai));have HZ := ae (aW hsn);have HB := ae h2;have HT := ae (T.below h2);have HN := ae hn;have HL := ae hl;clear h1 h2 hsn T;rw [hn] at hev;rw [hl] at hm hd;have HEV := ae hev;have HM0 := ae hm;have HD0 : Hid (decide (ce (cd l) = l) = true) := ae (am hd);clear hev hm hd;clear hn hl;go_enter func117, ntmps117;go_wp2_with (first | (refine au rfl (b9 rfl rfl) ?_) | (refine au rfl (bz rfl) ?_) | (refine au rfl (br (c := b) rfl rfl ?_) ?_; (with_reducible exact HA.out)) | fail)
 try simp only [World.size_alloc]
 generalize (w.alloc (.cells (cel b).toArray 29)).alloc (.cells (aY bq).toArray 37) = w0 at *;refine (gZ b _ w0 (ae rfl) HT).mono ?_;rintro e w1 ⟨v, rfl, hv, hb⟩;rw [HN.out];rw [h0];have hll : l.length = 44 := by rw [<- HL.out]; exact gW h0
 have HLL := ae hll;rw [HL.out] at hv;obtain ⟨g, hve, hrow⟩ : ∃ g, v = .slice (some ⟨g, 0, none⟩) 44 44 /\ cj w1 g 5 l := by
  rcases hv with ⟨_, rfl⟩ | ⟨g, e, _, hr, _⟩
  ·simp at hll
  ·rw [hll] at e; exact ⟨g, e, hr⟩
 subst hve;have HR1 := ae (bO HR HZ hb);have HB1 := ae (HB.out.trans (hb.mono HB.out.size));have HZ1 : Hid (w.heap.size + 1 < w1.heap.size) := ae (aq HZ hb.size);have HRW := ae hrow;clear hv hb HA HR HB HZ hll h0 hrow;go_wp2_with fail;refine (rR g l w1 HLL HRW).mono ?_;rintro e w2 ⟨rfl, hb⟩;have hb3 := hb.alloc hb.size (.cells (aY (cd l)).toArray 37);have HW3 : Hid (SgW w (w2.alloc (.cells (aY (cd l)).toArray 37)) b g w2.heap.size l (cd l)) := ae ⟨HRW.out.below HRW.out.lt hb3, bZ.new w2 _, bO HR1 HZ1 hb3, HB1.out.trans (hb3.mono HB1.out.size), aq HZ1 hb3.size⟩;have HI : Hid ((cd l).id < 18446744073709551616) := ae (fy (by rw [HLL.out]; omega));clear hb hb3 HRW HR1 HB1 HZ1;obtain ⟨y, hy⟩ : ∃ y, cd l = y := ⟨_, rfl⟩;have HY := ae hy;rw [hy] at HW3 HI HM0 HD0;have HM := HM0;have HD := HD0;rw [hy];clear hy;have HFL := ae (cE y);go_upto_region 5 with (first | (refine au rfl (bz rfl) ?_) | (refine az rfl (cx rfl rfl rfl) ?_) | fail);generalize w2.alloc (.cells (aY y).toArray 37) = w3 at *;have HS3 := ae HW3.out.sup;have HR3 := ae HW3.out.row;generalize w2.heap.size = s at *;refine bQ (B := w3.heap.size) (by kernel_rfl) ?_;refine ec 1 ?_;refine cD rfl (fun _ => aA call118 rfl (evc abQ evn)) (cn ai fun w' hw => jt n w' HEV) ?_;simp only [aa];refine ec 2 ?_;refine abP (fun _ hw => cp (c := y) rfl abQ ((HS3.out.below (aW HS3) hw).range)) ?_;refine cD abB (fun _ => aA call119 rfl (evc abQ evn)) (cn ai fun w' hw => nF y w' HM) ?_;simp only [aa];refine ec 3 ?_;refine abP (fun _ hw => cp (c := y) rfl abQ ((HS3.out.below (aW HS3) hw).range)) ?_;refine cD abB (fun _ => aA call120 rfl (evc abQ evn)) (cn ai fun w' hw => wx y w' HI HM) ?_;simp only [aa];refine ec 1 ?_;refine abP (fun _ hw => pi rfl abQ) ?_;refine abP (fun _ hw => fN HLL rfl abQ (bN (HR3.out.below HR3.out.lt hw))) ?_;refine abP (fun _ hw => mX true HFL HLL rfl abQ abQ HD) ?_;refine ec 1 ?_;refine wpQuiet_nil ?_;intro w4 hw;have HW4 := ae (HW3.out.keep hw);have HR4 := ae HW4.out.res;have HB4 := ae HW4.out.bel;have HLD := ae HW4.out.sup.range;clear HW3 HS3 HR3 hw;go_wp2_with fail;refine wp_region_still_tail 3 (by kernel_rfl) (by kernel_rfl) ?_;simp only [ac];refine aQ rfl (aK rfl abQ) ?_;simp only [aa];refine aQ rfl (cp (c := y) rfl abQ HLD) ?_;simp only [aa];refine aQ rfl (ef rfl abQ) ?_;simp only [aa];refine wpStill_nil ?_;change wpList _ _ _ _ _ (World.drew _);refine bi rfl (cy (c := y) rfl (ev rfl) (ev rfl) HR4.out) ?_;simp only [aa];refine aL 1 ?_;go_wp2_with fail;refine bodyPost_ret (eU (t := 37) (cs := aY y) rfl _ _ _ rfl ?h1 underlying37 rfl ?h2) rfl ⟨by rw [HN.out, HL.out, HY.out]; rfl, ?h3⟩
 case h1 => exact World.rangeAt_setCells_same _ _ _ _ (by rw [aH]; exact HR4)
 case h2 => rw [aH]; exact fj
 case h3 => exact below_setCells (bd HB4) (Nat.le_succ _) _
theorem rO (b : Blk) (w : World) (T : Tab w) : Calls prog 117 #[blk b] w fun e w' => e = .returned (.tuple #[.int .u64 (gsN b : Nat), sup (gsS b), .int .i64 (gsE b : Nat)]) /\ Below w.heap.size w w' := by
 by_cases h0 : db b.toList = 0
 ·by_cases hev : evB (dD b.toList) = true
  ·by_cases hm : ew (cd (cT b.toList)) = true
   ·by_cases hd : ce (cd (cT b.toList)) = cT b.toList
    ·have hE := wm h0 ⟨hev, hm, hd⟩;rw [nK hE, qy hE, hE];exact ua b w T h0 hev hm hd
    ·have hE := lB h0 (fun h => hd h.2.2);rw [ja (by omega), lv (by omega), hE];exact uG b w T h0 hev hm hd
   ·have hE := lB h0 (fun h => hm h.2.1);rw [ja (by omega), lv (by omega), hE];exact sZ b w T h0 hev (by simpa using hm)
  ·have hE := lB h0 (fun h => hev h.1);rw [ja (by omega), lv (by omega), hE];exact uf b w T h0 (by simpa using hev)
 ·have hE := pw h0;rw [ja (by omega), lv (by omega), hE];exact qz b w T h0
def w3_ (w : World) (a b : Blk) : World := ((w.alloc (.cells (cel a).toArray 29)).alloc (.cells (cel b).toArray 29)).alloc (.cells (aY bq).toArray 37)
theorem jR (w : World) (a b : Blk) : (w3_ w a b).rangeAt w.heap.size 0 (cel a) /\ (w3_ w a b).rangeAt (w.heap.size + 1) 0 (cel b) /\ (w3_ w a b).there (w.heap.size + 1 + 1) 0 23 /\ Below w.heap.size w (w3_ w a b) /\ w.heap.size + 1 + 1 < (w3_ w a b).heap.size := by
 unfold w3_;have e1 := World.size_alloc (w := w) (o := Obj.cells (cel a).toArray 29);have e2 := World.size_alloc (w := (w.alloc (.cells (cel a).toArray 29))) (o := Obj.cells (cel b).toArray 29);have h3 := bZ.new ((w.alloc (.cells (cel a).toArray 29)).alloc (.cells (cel b).toArray 29)) bq;rw [e2, e1] at h3;refine ⟨World.rangeAt_alloc (World.rangeAt_alloc (dx w (cel a) _) _) _, ?_, bk (o := 0) (n := 23) h3 (by rw [aH]; exact ai), ?_, aW h3⟩
 ·rw [<- e1]; exact World.rangeAt_alloc (dx _ (cel b) _) _
 ·exact (((Below.refl _ w).alloc ai _).alloc (by omega) _).alloc (by omega) _
theorem oO {fn : Func} {p q u : Tmp} {t : TypeId} {cs : List Value} {d : TypeDesc} (h : fn.results = #[.tmp p, .tmp u, .cell q t]) (tmps : Array Value) (w : World) (b : Nat) (hq : tmps.getD q undef = .pointer (some ⟨b, 0, none⟩)) (hr : w.rangeAt b 0 cs) (hu : prog.underlying t = some d) (hd : d.isRow = true) (hz : (prog.info? t).map (·.size) = some cs.length) :
  (results fn tmps).run prog w = .ok (.tuple #[tmps.getD p undef, tmps.getD u undef, .agg cs.toArray]) w := by
 have hl : (loadVar t ⟨b, 0, none⟩).run prog w = .ok (.agg cs.toArray) w := run_loadVar_mid (P := prog) w b 0 t cs d hr hu hd hz;have hq' : tmps[q]?.getD undef = .pointer (some ⟨b, 0, none⟩) := by simpa using hq
 simp [results, h, hq', asAddr, hl]
theorem kX {w : World} {b : Nat} (c : Sup) (h : w.there b 0 23) : (w.setCells b 0 (aY c)).rangeAt b 0 (aY c) := World.rangeAt_setCells_same _ _ _ _ (by rw [aH]; exact h)
def nwW (a b : Blk) : Nat := if gsN a < gsN b then 1 else 0
theorem tx (a b : Blk) (w : World) (T : Tab w) (hlt : gsN a < gsN b) : Calls prog 105 #[blk a, blk b] w fun e w' => e = .returned (.tuple #[.int .i64 1, .int .u64 (gsN b : Nat), sup (gsS b)]) /\ Below w.heap.size w w' := by
 obtain ⟨h1, h2, h3, h4, h5⟩ := jR w a b;unfold w3_ at h1 h2 h3 h4 h5;obtain ⟨x, hx⟩ : ∃ x, gsN a = x := ⟨_, rfl⟩;obtain ⟨y, hy⟩ : ∃ y, gsN b = y := ⟨_, rfl⟩;rw [hx, hy] at hlt;obtain ⟨p, hp⟩ : ∃ p, gsS a = p := ⟨_, rfl⟩;obtain ⟨q, hq⟩ : ∃ q, gsS b = q := ⟨_, rfl⟩;have HX := ae hx;have HY := ae hy;have HP := ae hp;have HQ := ae hq;have HA := ae h1;have HBK := ae h2;have HR := ae h3;have HB := ae h4;have HZ := ae h5;have HT := ae T;clear h1 h2 h3 h4 h5 T hx hy hp hq;go_enter func105, ntmps105;go_wp2_with (first | (refine au rfl (b9 rfl rfl) ?_) | (refine au rfl (bz rfl) ?_) | (refine au rfl (br (c := a) rfl rfl ?_) ?_; (with_reducible exact HA.out)) | fail)
 try simp only [World.size_alloc]
 generalize ((w.alloc (.cells (cel a).toArray 29)).alloc (.cells (cel b).toArray 29)).alloc (.cells (aY bq).toArray 37) = w0 at *;refine (rO a w0 (HT.out.below HB)).mono ?_;rintro e w1 ⟨rfl, hb⟩;have HBK1 := ae (World.rangeAt_setCells_apart (fd HBK (by have := HZ.out; omega) hb) (w.heap.size + 1 + 1) 0 (aY (gsS a)) (.inl (by omega)));have HR1 := ae (bO HR HZ hb);have hb1 := HB.out.trans (hb.mono HB.out.size);have HB1 := ae (below_setCells (b := w.heap.size + 1 + 1) (o := 0) hb1 (by omega) (aY (gsS a)));have HPR := ae (kX (gsS a) HR1);have HR2 := ae (World.there_setCells HR1 (w.heap.size + 1 + 1) 0 (aY (gsS a)));have HZ1 : Hid (w.heap.size + 1 + 1 < (w1.setCells (w.heap.size + 1 + 1) 0 (aY (gsS a))).heap.size) := ae (by rw [size_setCells]; exact aq HZ hb.size);rw [HP.out] at HBK1 HB1 HPR HR2 HZ1;rw [HX.out, HP.out];clear hb hb1 HBK HR HB HA HZ;go_upto_region 2 with (first | (refine az rfl (cy (c := p) rfl rfl rfl ?_) ?_; (with_reducible exact HR1.out)) | fail);generalize w1.setCells (w.heap.size + 1 + 1) 0 (aY p) = w2 at *;go_wp2_with (first | (refine au rfl (br (c := b) rfl rfl ?_) ?_; (with_reducible exact HBK1.out)) | fail);refine (rO b w2 (HT.out.below HB1)).mono ?_;rintro e w3 ⟨rfl, hb⟩;have hb3 := hb.alloc hb.size (.cells (aY (gsS b)).toArray 37);have HPR3 := ae (fd HPR HZ1 hb3);have HR3 := ae (bO HR2 HZ1 hb3);have HB3 := ae (HB1.out.trans (hb3.mono HB1.out.size));have HQR3 := ae (bZ.new w3 (gsS b)).range;rw [HQ.out] at HPR3 HR3 HB3 HQR3;rw [HY.out, HQ.out];clear hb hb3 HBK1 HPR HR2 HB1 HR1 HZ1;have hd : decide ((x : Int) < (y : Int)) = true := by simp; omega
 have hd2 : decide (x < y) = true := by simp; omega
 clear hlt;go_upto_region 4 with (first | (refine au rfl (bz rfl) ?_) | (refine az rfl (cx rfl rfl rfl) ?_) | fail);generalize w3.alloc (.cells (aY q).toArray 37) = w4 at *;go_wp2_with fail;refine wp_region_still_tail 4 (by kernel_rfl) (by kernel_rfl) ?_;simp only [ac];refine aQ rfl (aK rfl abQ) ?_;simp only [aa];refine aQ rfl (cp (c := q) rfl abQ HQR3) ?_;simp only [aa];refine aQ rfl (ef rfl evk) ?_;simp only [aa];refine aQ rfl (ef rfl abQ) ?_;simp only [aa];refine wpStill_nil ?_;change wpList _ _ _ _ _ (World.drew _);refine bi rfl (cy (c := q) rfl (ev rfl) (ev rfl) HR3.out) ?_;simp only [aa];refine ag ?_;go_wp2_with fail;refine bodyPost_ret (oO (t := 37) (cs := aY q) rfl _ _ _ rfl ?h1 underlying37 rfl ?h2) rfl ⟨by rw [HY.out, HQ.out]; rfl, ?h3⟩
 case h1 => exact World.rangeAt_setCells_same _ _ _ _ (by rw [aH]; exact HR3)
 case h2 => rw [aH]; exact fj
 case h3 => exact below_setCells (bd HB3) (by omega) _
theorem tE (a b : Blk) (w : World) (T : Tab w) (hlt : ¬ gsN a < gsN b) : Calls prog 105 #[blk a, blk b] w fun e w' => e = .returned (.tuple #[.int .i64 0, .int .u64 (gsN a : Nat), sup (gsS a)]) /\ Below w.heap.size w w' := by
 obtain ⟨h1, h2, h3, h4, h5⟩ := jR w a b;unfold w3_ at h1 h2 h3 h4 h5;obtain ⟨x, hx⟩ : ∃ x, gsN a = x := ⟨_, rfl⟩;obtain ⟨y, hy⟩ : ∃ y, gsN b = y := ⟨_, rfl⟩;rw [hx, hy] at hlt;obtain ⟨p, hp⟩ : ∃ p, gsS a = p := ⟨_, rfl⟩;obtain ⟨q, hq⟩ : ∃ q, gsS b = q := ⟨_, rfl⟩;have HX := ae hx;have HY := ae hy;have HP := ae hp;have HQ := ae hq;have HA := ae h1;have HBK := ae h2;have HR := ae h3;have HB := ae h4;have HZ := ae h5;have HT := ae T;clear h1 h2 h3 h4 h5 T hx hy hp hq;go_enter func105, ntmps105;go_wp2_with (first | (refine au rfl (b9 rfl rfl) ?_) | (refine au rfl (bz rfl) ?_) | (refine au rfl (br (c := a) rfl rfl ?_) ?_; (with_reducible exact HA.out)) | fail)
 try simp only [World.size_alloc]
 generalize ((w.alloc (.cells (cel a).toArray 29)).alloc (.cells (cel b).toArray 29)).alloc (.cells (aY bq).toArray 37) = w0 at *;refine (rO a w0 (HT.out.below HB)).mono ?_;rintro e w1 ⟨rfl, hb⟩;have HBK1 := ae (World.rangeAt_setCells_apart (fd HBK (by have := HZ.out; omega) hb) (w.heap.size + 1 + 1) 0 (aY (gsS a)) (.inl (by omega)));have HR1 := ae (bO HR HZ hb);have hb1 := HB.out.trans (hb.mono HB.out.size);have HB1 := ae (below_setCells (b := w.heap.size + 1 + 1) (o := 0) hb1 (by omega) (aY (gsS a)));have HPR := ae (kX (gsS a) HR1);have HR2 := ae (World.there_setCells HR1 (w.heap.size + 1 + 1) 0 (aY (gsS a)));have HZ1 : Hid (w.heap.size + 1 + 1 < (w1.setCells (w.heap.size + 1 + 1) 0 (aY (gsS a))).heap.size) := ae (by rw [size_setCells]; exact aq HZ hb.size);rw [HP.out] at HBK1 HB1 HPR HR2 HZ1;rw [HX.out, HP.out];clear hb hb1 HBK HR HB HA HZ;go_upto_region 2 with (first | (refine az rfl (cy (c := p) rfl rfl rfl ?_) ?_; (with_reducible exact HR1.out)) | fail);generalize w1.setCells (w.heap.size + 1 + 1) 0 (aY p) = w2 at *;go_wp2_with (first | (refine au rfl (br (c := b) rfl rfl ?_) ?_; (with_reducible exact HBK1.out)) | fail);refine (rO b w2 (HT.out.below HB1)).mono ?_;rintro e w3 ⟨rfl, hb⟩;have hb3 := hb.alloc hb.size (.cells (aY (gsS b)).toArray 37);have HPR3 := ae (fd HPR HZ1 hb3);have HR3 := ae (bO HR2 HZ1 hb3);have HB3 := ae (HB1.out.trans (hb3.mono HB1.out.size));have HQR3 := ae (bZ.new w3 (gsS b)).range;rw [HQ.out] at HPR3 HR3 HB3 HQR3;rw [HY.out, HQ.out];clear hb hb3 HBK1 HPR HR2 HB1 HR1 HZ1;have hd : decide ((x : Int) < (y : Int)) = false := by simp; omega
 have hd2 : decide (x < y) = false := by simp; omega
 clear hlt;go_upto_region 5 with (first | (refine au rfl (bz rfl) ?_) | (refine az rfl (cx rfl rfl rfl) ?_) | fail);generalize w3.alloc (.cells (aY q).toArray 37) = w4 at *;go_wp2_with fail;refine wp_region_still_tail 4 (by kernel_rfl) (by kernel_rfl) ?_;simp only [ac];refine aQ rfl (aK rfl abQ) ?_;simp only [aa];refine aQ rfl (cp (c := p) rfl abQ HPR3) ?_;simp only [aa];refine aQ rfl (ef rfl evk) ?_;simp only [aa];refine aQ rfl (ef rfl abQ) ?_;simp only [aa];refine wpStill_nil ?_;change wpList _ _ _ _ _ (World.drew _);refine bi rfl (cy (c := p) rfl (ev rfl) (ev rfl) HR3.out) ?_;simp only [aa];refine ag ?_;go_wp2_with fail;refine bodyPost_ret (oO (t := 37) (cs := aY p) rfl _ _ _ rfl ?h1 underlying37 rfl ?h2) rfl ⟨by rw [HX.out, HP.out]; rfl, ?h3⟩
 case h1 => exact World.rangeAt_setCells_same _ _ _ _ (by rw [aH]; exact HR3)
 case h2 => rw [aH]; exact fj
 case h3 => exact below_setCells (bd HB3) (by omega) _
theorem sh (a b : Blk) (w : World) (T : Tab w) : Calls prog 105 #[blk a, blk b] w fun e w' => e = .returned (.tuple #[.int .i64 (nwW a b : Nat), .int .u64 (nwN a b : Nat), sup (nwS a b)]) /\ Below w.heap.size w w' := by
 unfold nwW nwN nwS;by_cases hlt : gsN a < gsN b
 ·rw [if_pos hlt, if_pos hlt, if_pos hlt];exact tx a b w T hlt
 ·rw [if_neg hlt, if_neg hlt, if_neg hlt];exact tE a b w T hlt
theorem yB (w : World) (a b : Blk) : ((w.alloc (.cells (cel a).toArray 29)).alloc (.cells (cel b).toArray 29)).rangeAt w.heap.size 0 (cel a) /\ ((w.alloc (.cells (cel a).toArray 29)).alloc (.cells (cel b).toArray 29)).rangeAt (w.heap.size + 1) 0 (cel b) /\ Below w.heap.size w ((w.alloc (.cells (cel a).toArray 29)).alloc (.cells (cel b).toArray 29)) /\ w.heap.size + 1 < ((w.alloc (.cells (cel a).toArray 29)).alloc (.cells (cel b).toArray 29)).heap.size := by
 have e1 := World.size_alloc (w := w) (o := Obj.cells (cel a).toArray 29);refine ⟨World.rangeAt_alloc (dx w (cel a) _) _, ?_, ?_, by simp only [World.size_alloc]; omega⟩
 ·rw [<- e1]; exact dx _ (cel b) _
 ·exact ((Below.refl _ w).alloc ai _).alloc (by omega) _
theorem wF (a b : Blk) : kw a b = if nwN a b ≠ 0 /\ nwW a b = 0 then 1 else 0 := by
 unfold kw nwN nwW;by_cases h : gsN a < gsN b
 ·rw [if_pos h, if_pos h, if_neg (by omega), if_neg (by omega)]
 ·rw [if_neg h, if_neg h];by_cases h0 : gsN a ≠ 0
  ·rw [if_pos ⟨h0, h⟩, if_pos ⟨h0, rfl⟩]
  ·rw [if_neg (by omega), if_neg (by omega)]
theorem wN (a b : Blk) : nwW a b = 0 \/ nwW a b = 1 := by unfold nwW; split <;> omega
theorem aap (a b : Blk) (w : World) (T : Tab w) : Calls prog 114 #[blk a, blk b] w fun e w' => e = .returned (.int .i64 (kw a b : Nat)) /\ Below w.heap.size w w' := by
 obtain ⟨h1, h2, h4, h5⟩ := yB w a b;have HSL := ae (wF a b);have h2w := wN a b;obtain ⟨n, hn⟩ : ∃ n, nwN a b = n := ⟨_, rfl⟩;obtain ⟨k, hk⟩ : ∃ k, nwW a b = k := ⟨_, rfl⟩;obtain ⟨p, hp⟩ : ∃ p, nwS a b = p := ⟨_, rfl⟩;rw [hn, hk] at HSL;rw [hk] at h2w;have HA := ae h1;have HBK := ae h2;have HB := ae h4;have HT := ae (T.below h4);have HN := ae hn;have HK := ae hk;have HP := ae hp;clear h1 h2 h4 h5 T hn hk hp;go_enter func114, ntmps114;go_wp2_with (first | (refine au rfl (b9 rfl rfl) ?_) | (refine au rfl (br (c := a) rfl rfl ?_) ?_; (with_reducible exact HA.out)) | (refine au rfl (br (c := b) rfl rfl ?_) ?_; (with_reducible exact HBK.out)) | fail);refine (sh a b _ HT).mono ?_;rintro e w1 ⟨rfl, hb⟩;rw [HN.out, HK.out, HP.out];have hb1 := HB.out.trans (hb.mono HB.out.size);have HB1 := ae (hb1.alloc hb1.size (.cells (aY p).toArray 37));clear hb hb1 HA HBK HB HT;by_cases hn0 : n = 0
 ·subst hn0;rw [if_neg (by omega)] at HSL;go_wp2_with (first | (refine au rfl (bz rfl) ?_) | (refine az rfl (cx rfl rfl rfl) ?_) | fail);go_ret;exact ⟨by rw [HSL.out]; rfl, HB1⟩
 ·have hne : ((n : Int) != 0) = true := by simp; omega
  rcases h2w with rfl | rfl
  ·rw [if_pos ⟨hn0, rfl⟩] at HSL;clear hn0;go_wp2_with (first | (refine au rfl (bz rfl) ?_) | (refine az rfl (cx rfl rfl rfl) ?_) | fail);go_ret;exact ⟨by rw [HSL.out]; rfl, HB1⟩
  ·rw [if_neg (by omega)] at HSL;clear hn0;go_wp2_with (first | (refine au rfl (bz rfl) ?_) | (refine az rfl (cx rfl rfl rfl) ?_) | fail);go_ret;exact ⟨by rw [HSL.out]; rfl, HB1⟩
theorem zk (a b : Blk) : nwE a b = if nwN a b = 0 then 7 else 0 := by
 unfold nwE nwN;by_cases h : gsN a < gsN b
 ·rw [if_pos h, if_neg (by omega), if_neg (by omega)]
 ·rw [if_neg h];by_cases h0 : gsN a = 0
  ·rw [if_pos (by omega), if_pos h0]
  ·rw [if_neg (by omega), if_neg h0]
theorem vE {a b : Blk} (h : nwN a b = 0) : nwS a b = bq := by
 unfold nwN at h;unfold nwS;by_cases hl : gsN a < gsN b
 ·rw [if_pos hl] at h; omega
 ·rw [if_neg hl] at h ⊢;exact lv (lC.1 h)
theorem rf (a b : Blk) (w : World) (T : Tab w) : Calls prog 82 #[blk a, blk b] w fun e w' => e = .returned (.tuple #[.int .u64 (nwN a b : Nat), sup (nwS a b), .int .i64 (nwE a b : Nat)]) /\ Below w.heap.size w w' := by
 obtain ⟨h1, h2, h3, h4, h5⟩ := jR w a b;unfold w3_ at h1 h2 h3 h4 h5;have HE := ae (zk a b);have HNO := fun h => ae (vE (a := a) (b := b) h)
 obtain ⟨n, hn⟩ : ∃ n, nwN a b = n := ⟨_, rfl⟩;obtain ⟨p, hp⟩ : ∃ p, nwS a b = p := ⟨_, rfl⟩;rw [hn] at HE HNO;rw [hp] at HNO;have HA := ae h1;have HBK := ae h2;have HR := ae h3;have HB := ae h4;have HZ := ae h5;have HT := ae (T.below h4);have HN := ae hn;have HP := ae hp;clear h1 h2 h3 h4 h5 T hn hp;go_enter func82, ntmps82;go_wp2_with (first | (refine au rfl (b9 rfl rfl) ?_) | (refine au rfl (bz rfl) ?_) | (refine au rfl (br (c := a) rfl rfl ?_) ?_; (with_reducible exact HA.out)) | (refine au rfl (br (c := b) rfl rfl ?_) ?_; (with_reducible exact HBK.out)) | fail)
 try simp only [World.size_alloc]
 generalize ((w.alloc (.cells (cel a).toArray 29)).alloc (.cells (cel b).toArray 29)).alloc (.cells (aY bq).toArray 37) = w0 at *;refine (sh a b w0 HT).mono ?_;rintro e w1 ⟨rfl, hb⟩;rw [HN.out, HP.out];have hb2 := hb.alloc hb.size (.cells (aY p).toArray 37);have HR1 := ae (bO HR HZ hb2);have HB1 := ae (HB.out.trans (hb2.mono HB.out.size));have HPR := ae (bZ.new w1 p).range;clear hb hb2 HA HBK HR HB HT;by_cases hn0 : n = 0
 ·have HPZ := HNO hn0;subst hn0;rw [if_pos rfl] at HE;go_wp2_with (first | (refine au rfl (bz rfl) ?_) | (refine az rfl (cx rfl rfl rfl) ?_) | (refine au rfl (eN rfl) ?_) | (refine az rfl (cy (c := bq) rfl rfl rfl ?_) ?_; (with_reducible exact HR1.out)) | fail);refine bodyPost_ret (eU (t := 37) (cs := aY bq) rfl _ _ _ rfl ?h1 underlying37 rfl ?h2) rfl ⟨by rw [HN.out, HP.out, HPZ.out, HE.out]; rfl, ?h3⟩
  case h1 => exact World.rangeAt_setCells_same _ _ _ _ (by rw [aH]; exact HR1)
  case h2 => rw [aH]; exact fj
  case h3 => exact below_setCells HB1 (by omega) _
 ·have hne : ((n : Int) == 0) = false := by simp; omega
  rw [if_neg hn0] at HE;clear hn0;go_upto_region 4 with (first | (refine au rfl (bz rfl) ?_) | (refine az rfl (cx rfl rfl rfl) ?_) | fail);generalize w1.alloc (.cells (aY p).toArray 37) = w2 at *;go_wp2_with fail;refine wp_region_still_tail 3 (by kernel_rfl) (by kernel_rfl) ?_;simp only [ac];refine aQ rfl (aK rfl abQ) ?_;simp only [aa];refine aQ rfl (cp (c := p) rfl abQ HPR) ?_;simp only [aa];refine aQ rfl (ef rfl abQ) ?_;simp only [aa];refine wpStill_nil ?_;change wpList _ _ _ _ _ (World.drew _);refine bi rfl (cy (c := p) rfl (ev rfl) (ev rfl) HR1.out) ?_;simp only [aa];refine aL 1 ?_;go_wp2_with fail;refine bodyPost_ret (eU (t := 37) (cs := aY p) rfl _ _ _ rfl ?h1 underlying37 rfl ?h2) rfl ⟨by rw [HN.out, HP.out, HE.out]; rfl, ?h3⟩
  case h1 => exact World.rangeAt_setCells_same _ _ _ _ (by rw [aH]; exact HR1)
  case h2 => rw [aH]; exact fj
  case h3 => exact below_setCells (bd HB1) (by omega) _
def same (a b : List UInt8) : Bool := a == b
theorem uw (A B : Option Addr) (n m c d N : Nat) (a b : List UInt8) (w : World) (ha : Rd w N A n a) (hb : Rd w N B m b) (hN : N <= w.heap.size) (hn : n <= maxLen) :
  Calls prog 71 #[.slice A n c, .slice B m d] w fun e w' => e = .returned (.bool (same a b)) /\ Below w.heap.size w w' := by
 unfold maxLen at hn;by_cases hnm : n = m
 ·subst hnm;go_enter func71, ntmps71;go_wp2
  go_loopw [5] (fun i wr => ∃ k : Nat, k <= n /\ i = .int .i64 k /\ (∀ j, j < k -> bt a j = bt b j) /\ Below w.heap.size w wr) (fun i _ => n - (intOf i).toNat)
  case atStart => exact ⟨0, Nat.zero_le _, rfl, fun j hj => absurd hj (by omega), aj⟩
  case round =>
   obtain ⟨k, hk, rfl, hj, hbl⟩ := hrel;by_cases hlt : k < n
   ·obtain ⟨bA, oA, rfl, hA, cA⟩ := (ha.below (hbl.mono hN)).2 k hlt;obtain ⟨bB, oB, rfl, hB, cB⟩ := (hb.below (hbl.mono hN)).2 k hlt;have hidj := ae hj;clear hj;go_wp2
    go_quiet (fail)
    go_wp2
    ·have hd : (bt a k != bt b k) = true := by assumption
     go_ret;refine ⟨?_, bdn hbl _⟩;have : same a b = false := by
      simp only [same, beq_eq_false_iff_ne];rintro rfl;simp at hd
     rw [this]; rfl
    ·have hd : (bt a k != bt b k) = false := by assumption
     go_roundw
     case rel =>
      refine ⟨k + 1, by omega, by go_num, ?_, bdn hbl _⟩;intro j hj;by_cases h : j = k
      ·subst h; simpa using hd
      ·exact hidj.out j (by omega)
     case measure => simp [intOf]; omega
   ·go_wp2;go_ret;refine ⟨?_, hbl⟩;have : same a b = true := by
     simp only [same, beq_iff_eq];exact fE (by rw [ha.1, hb.1]) fun j h => hj j (by have := ha.1; omega)
    rw [this]; rfl
 ·have hne : ((n : Int) != (m : Int)) = true := by simp; omega
  go_enter func71, ntmps71;go_wp2;go_ret;refine ⟨?_, aj⟩;have : same a b = false := by
   have h1 := ha.1;have h2 := hb.1;simp only [same, beq_eq_false_iff_ne];rintro rfl;omega
  rw [this]; rfl
section
variable {ρ : Operand -> Value} {o : Oper} {x y : Operand} {w : World} {r : TypeId}
theorem vK {ad : Addr} {k : Bool} (h : w.cell? ad = some (.bool k)) : (Instr.loadAt 4 (.pointer (some ad))).run prog w = .ok (.bool k) w := by simp [go_sem, h]
theorem jk {a b : Bool} (c : Bool) (ho : o.op = .binOp .neq 4 x y r) (hx : ρ x = .bool a) (hy : ρ y = .bool b) (h : (a != b) = c) : (execOp ρ o).run prog w = .ok (.value (.bool c)) w := by
 have he := run_equalIn_bool' (P := prog) w 9999 4 a b underlying4;have h' : (!(a == b)) = c := h;unfold execOp;simp [ho, hx, hy, eqGuard, binOp, Op.equal, Op.maxDepth, he]
 simpa using h'
theorem yJ {b : Nat} : (Instr.fieldAt 35 (.pointer (some ⟨b, 0, none⟩)) 3).run prog w = .ok (.pointer (some ⟨b, 20, none⟩)) w := by kernel_rfl
theorem aaP {b : Nat} : (Instr.fieldAt 32 (.pointer (some ⟨b, 0, none⟩)) 2).run prog w = .ok (.pointer (some ⟨b, 2, none⟩)) w := by kernel_rfl
end
theorem uo (x y : Ros) (w : World) : Calls prog 33 #[ros x, ros y] w fun e w' => e = .returned (.bool (decide (x = y))) /\ Below w.heap.size w w' := by
 obtain ⟨h1, h2, h3⟩ := cK w x;have HX := ae (h1.past (.cells (aO y).toArray 35));have HY : Hid (bm ((w.alloc (.cells (aO x).toArray 35)).alloc (.cells (aO y).toArray 35)) (w.heap.size + 1) y) := ae (by
  have := bm.new (w.alloc (.cells (aO x).toArray 35)) y;rwa [World.size_alloc] at this)
 have HB := ae (h2.alloc h2.size (.cells (aO y).toArray 35));clear h1 h2 h3;go_enter func33, ntmps33;go_upto_region 1 with (first | (refine au rfl (aV rfl rfl) ?_) | fail)
 try simp only [World.size_alloc]
 generalize (w.alloc (.cells (aO x).toArray 35)).alloc (.cells (aO y).toArray 35) = w1 at *;have HXm := ae HX.out.cells.1;have HXs := ae HX.out.cells.2.1;have HXr := ae HX.out.cells.2.2.1;have HXc := ae HX.out.cells.2.2.2.1;have HXg := ae HX.out.cells.2.2.2.2;have HYm := ae HY.out.cells.1;have HYs := ae HY.out.cells.2.1;have HYr := ae HY.out.cells.2.2.1;have HYc := ae HY.out.cells.2.2.2.1;have HYg := ae HY.out.cells.2.2.2.2;refine af ?_;refine abG (ax rfl abQ jq) ?_;refine abG (ax rfl abQ ns) ?_;refine abG (aE rfl abQ (cJ HXm)) ?_;refine abG (ax rfl abQ jq) ?_;refine abG (ax rfl abQ ns) ?_;refine abG (aE rfl abQ (cJ HYm)) ?_;by_cases qm : x.m = y.m
 ·have HDm : Hid ((x.m != y.m) = false) := ae (by rw [qm]; simp);refine abG (aR false rfl abQ abQ HDm) ?_;refine runs 1 ?_;refine abN (ax rfl abQ jq) ?_;refine abN (ax rfl abQ uT) ?_;refine abN (aE rfl abQ (cJ HXs)) ?_;refine abN (ax rfl abQ jq) ?_;refine abN (ax rfl abQ uT) ?_;refine abN (aE rfl abQ (cJ HYs)) ?_;by_cases qs : x.s = y.s
  ·have HDs : Hid ((x.s != y.s) = false) := ae (by rw [qs]; simp);refine abN (aR false rfl abQ abQ HDs) ?_;refine runs 2 ?_;refine abN (ax rfl abQ jq) ?_;refine abN (ax rfl abQ aaP) ?_;refine abN (aE rfl abQ (cJ HXr)) ?_;refine abN (ax rfl abQ jq) ?_;refine abN (ax rfl abQ aaP) ?_;refine abN (aE rfl abQ (cJ HYr)) ?_;by_cases qr : x.r = y.r
   ·have HDr : Hid ((x.r != y.r) = false) := ae (by rw [qr]; simp);refine abN (aR false rfl abQ abQ HDr) ?_;refine runs 2 ?_;refine abN (ax rfl abQ rn) ?_;refine abN (aE rfl abQ (cJ HXc)) ?_;refine abN (ax rfl abQ rn) ?_;refine abN (aE rfl abQ (cJ HYc)) ?_;by_cases qc : x.cur = y.cur
    ·have HDc : Hid ((x.cur != y.cur) = false) := ae (by rw [qc]; simp);refine abN (aR false rfl abQ abQ HDc) ?_;refine runs 2 ?_;refine abN (ax rfl abQ yJ) ?_;refine abN (aE rfl abQ (vK HXg)) ?_;refine abN (ax rfl abQ yJ) ?_;refine abN (aE rfl abQ (vK HYg)) ?_;by_cases qg : x.gone = y.gone
     ·have HDg : Hid ((x.gone != y.gone) = false) := ae (by rw [qg]; simp);refine abN (jk false rfl abQ abQ HDg) ?_;refine aL 1 ?_;go_wp2_with fail;refine bQ (B := w1.heap.size) (by kernel_rfl) ?_;refine abO (fun _ hw => ax rfl abQ gC) ?_;refine abO (fun _ hw => fw rfl abQ) ?_;refine abO (fun _ hw => ax rfl abQ gC) ?_;refine abO (fun _ hw => fw rfl abQ) ?_;refine cD rfl (fun _ => aA call71 rfl (evc abQ (evc abQ evn))) (cn ai fun w' hw => uw _ _ 16 16 16 16 _ x.st.toList y.st.toList w' (HX.out.below (aW HX) hw).aag (HY.out.below (aW HY) hw).aag ai (by unfold maxLen; omega)) ?_;simp only [aa];refine ec 1 ?_;refine wpQuiet_nil ?_;intro w2 hw;have HB2 := ae (HB.out.trans (hw.mono HB.out.size));clear hw;have HEQ : Hid (same x.st.toList y.st.toList = decide (x = y)) := ae (by
       by_cases h : x.st.toList = y.st.toList
       ·rw [h, am (xV ⟨qm, qs, qr⟩ h qc qg)]; simp [same]
       ·rw [al (fun e : x = y => h (by rw [e]))]; exact ar h)
      go_wp2_with fail;go_ret;exact ⟨by rw [<- HEQ.out]; rfl, HB2⟩
     ·have HDg : Hid ((x.gone != y.gone) = true) := ae (by simpa using qg);have HNE : Hid (decide (x = y) = false) := ae (al (fun e : x = y => qg (by rw [e])));refine abN (jk true rfl abQ abQ HDg) ?_;refine aL 1 ?_;go_wp2_with fail;go_ret;exact ⟨by rw [HNE.out]; rfl, HB⟩
    ·have HDc : Hid ((x.cur != y.cur) = true) := ae (by simpa using qc);have HNE : Hid (decide (x = y) = false) := ae (al (fun e : x = y => qc (by rw [e])));refine abN (aR true rfl abQ abQ HDc) ?_;refine runs 1 ?_;refine aG 5 rfl (aK rfl abQ) (by kernel_rfl) ?_;simp only [a9, ac, aa];refine aL 1 ?_;go_wp2_with fail;go_ret;exact ⟨by rw [HNE.out]; rfl, HB⟩
   ·have HDr : Hid ((x.r != y.r) = true) := ae (by simpa using qr);have HNE : Hid (decide (x = y) = false) := ae (al (fun e : x = y => qr (by rw [e])));refine abN (aR true rfl abQ abQ HDr) ?_;refine runs 1 ?_;refine aG 5 rfl (aK rfl abQ) (by kernel_rfl) ?_;simp only [a9, ac, aa];refine runs 1 ?_;refine aG 5 rfl (aK rfl abQ) (by kernel_rfl) ?_;simp only [a9, ac, aa];refine aL 1 ?_;go_wp2_with fail;go_ret;exact ⟨by rw [HNE.out]; rfl, HB⟩
  ·have HDs : Hid ((x.s != y.s) = true) := ae (by simpa using qs);have HNE : Hid (decide (x = y) = false) := ae (al (fun e : x = y => qs (by rw [e])));refine abN (aR true rfl abQ abQ HDs) ?_;refine runs 1 ?_;refine aG 7 rfl (aK rfl abQ) (by kernel_rfl) ?_;simp only [a9, ac, aa];refine runs 1 ?_;refine aG 5 rfl (aK rfl abQ) (by kernel_rfl) ?_;simp only [a9, ac, aa];refine runs 1 ?_;refine aG 5 rfl (aK rfl abQ) (by kernel_rfl) ?_;simp only [a9, ac, aa];refine aL 1 ?_;go_wp2_with fail;go_ret;exact ⟨by rw [HNE.out]; rfl, HB⟩
 ·have HDm : Hid ((x.m != y.m) = true) := ae (by simpa using qm);have HNE : Hid (decide (x = y) = false) := ae (al (fun e : x = y => qm (by rw [e])));refine abG (aR true rfl abQ abQ HDm) ?_;refine aG 7 rfl (aK rfl abQ) (by kernel_rfl) ?_;simp only [a9, ac, aa];refine runs 1 ?_;refine aG 7 rfl (aK rfl abQ) (by kernel_rfl) ?_;simp only [a9, ac, aa];refine runs 1 ?_;refine aG 5 rfl (aK rfl abQ) (by kernel_rfl) ?_;simp only [a9, ac, aa];refine runs 1 ?_;refine aG 5 rfl (aK rfl abQ) (by kernel_rfl) ?_;simp only [a9, ac, aa];refine aL 1 ?_;go_wp2_with fail;go_ret;exact ⟨by rw [HNE.out]; rfl, HB⟩
theorem nk (x : Ros) (m : Int) (w : World) : Calls prog 87 #[ros x, .int .i64 m] w fun e w' => e = .returned (.bool (dB x m)) /\ Below w.heap.size w w' := by
 obtain ⟨h1, h2, h3⟩ := cK w x;have HR := ae h1;have HB := ae h2;have HC := ae h1.cells.1;clear h1 h2 h3;have HF : Hid (dB x m = decide (0 <= m /\ m < x.m)) := ae rfl;go_enter func87, ntmps87;go_upto_region 1 with (first | (refine au rfl (aV rfl rfl) ?_) | fail);generalize w.alloc (.cells (aO x).toArray 35) = w1 at *;generalize x.m = k at *;by_cases h0 : 0 <= m
 ·have H0 : Hid (decide ((0 : Int) <= m) = true) := ae (am h0);refine aZ 1 ?_;refine abG (ci true rfl abQ evk H0) ?_;refine runs 2 ?_;refine abN (ax rfl abQ jq) ?_;refine abN (ax rfl abQ ns) ?_;refine abN (aE rfl abQ (cJ HC)) ?_;by_cases h1 : m < k
  ·have H1 : Hid (decide (m < k) = true) := ae (am h1);have HE : Hid (dB x m = true) := ae (by rw [HF.out, am ⟨h0, h1⟩]);clear h0 h1;refine abN (bu true rfl abQ abQ H1) ?_;refine aL 2 ?_;go_wp2_with fail;go_ret;exact ⟨bg (by rw [HE.out]), HB⟩
  ·have H1 : Hid (decide (m < k) = false) := ae (al h1);have HE : Hid (dB x m = false) := ae (by rw [HF.out, al (fun e => h1 e.2)]);clear h0 h1;refine abN (bu false rfl abQ abQ H1) ?_;refine aL 2 ?_;go_wp2_with fail;go_ret;exact ⟨bg (by rw [HE.out]), HB⟩
 ·have H0 : Hid (decide ((0 : Int) <= m) = false) := ae (al h0);have HE : Hid (dB x m = false) := ae (by rw [HF.out, al (fun e => h0 e.1)]);clear h0;refine aZ 1 ?_;refine abG (ci false rfl abQ evk H0) ?_;refine aG 5 rfl (aK rfl abQ) (by kernel_rfl) ?_;simp only [a9, ac, aa];refine aL 2 ?_;go_wp2_with fail;go_ret;exact ⟨bg (by rw [HE.out]), HB⟩
theorem xS (x : Ros) (m : Int) (w : World) : Calls prog 111 #[ros x, .int .i64 m] w fun e w' => e = .returned (.bool (tj x m)) /\ Below w.heap.size w w' := by
 obtain ⟨h1, h2, h3⟩ := cK w x;have HR := ae h1;have HB := ae h2;have HC := ae h1.cells.2.1;clear h1 h2 h3;have HF : Hid (tj x m = decide (0 <= m /\ m < x.s)) := ae rfl;go_enter func111, ntmps111;go_upto_region 1 with (first | (refine au rfl (aV rfl rfl) ?_) | fail);generalize w.alloc (.cells (aO x).toArray 35) = w1 at *;generalize x.s = k at *;by_cases h0 : 0 <= m
 ·have H0 : Hid (decide ((0 : Int) <= m) = true) := ae (am h0);refine aZ 1 ?_;refine abG (ci true rfl abQ evk H0) ?_;refine runs 2 ?_;refine abN (ax rfl abQ jq) ?_;refine abN (ax rfl abQ uT) ?_;refine abN (aE rfl abQ (cJ HC)) ?_;by_cases h1 : m < k
  ·have H1 : Hid (decide (m < k) = true) := ae (am h1);have HE : Hid (tj x m = true) := ae (by rw [HF.out, am ⟨h0, h1⟩]);clear h0 h1;refine abN (bu true rfl abQ abQ H1) ?_;refine aL 2 ?_;go_wp2_with fail;go_ret;exact ⟨bg (by rw [HE.out]), HB⟩
  ·have H1 : Hid (decide (m < k) = false) := ae (al h1);have HE : Hid (tj x m = false) := ae (by rw [HF.out, al (fun e => h1 e.2)]);clear h0 h1;refine abN (bu false rfl abQ abQ H1) ?_;refine aL 2 ?_;go_wp2_with fail;go_ret;exact ⟨bg (by rw [HE.out]), HB⟩
 ·have H0 : Hid (decide ((0 : Int) <= m) = false) := ae (al h0);have HE : Hid (tj x m = false) := ae (by rw [HF.out, al (fun e => h0 e.1)]);clear h0;refine aZ 1 ?_;refine abG (ci false rfl abQ evk H0) ?_;refine aG 5 rfl (aK rfl abQ) (by kernel_rfl) ?_;simp only [a9, ac, aa];refine aL 2 ?_;go_wp2_with fail;go_ret;exact ⟨bg (by rw [HE.out]), HB⟩
theorem xo (x : Ros) (m : Int) (w : World) : Calls prog 70 #[ros x, .int .i64 m] w fun e w' => e = .returned (.bool (dB x m)) /\ Below w.heap.size w w' := by
 obtain ⟨h1, h2, h3⟩ := cK w x;have HR := ae h1;have HB := ae h2;have HC := ae h1.cells.1;clear h1 h2 h3;have HF : Hid (dB x m = decide (0 <= m /\ m < x.m)) := ae rfl;go_enter func70, ntmps70;go_upto_region 1 with (first | (refine au rfl (aV rfl rfl) ?_) | fail);generalize w.alloc (.cells (aO x).toArray 35) = w1 at *;generalize x.m = k at *;by_cases h0 : 0 <= m
 ·have H0 : Hid (decide ((0 : Int) <= m) = true) := ae (am h0);refine aZ 1 ?_;refine abG (ci true rfl abQ evk H0) ?_;refine runs 2 ?_;refine abN (ax rfl abQ jq) ?_;refine abN (ax rfl abQ ns) ?_;refine abN (aE rfl abQ (cJ HC)) ?_;by_cases h1 : m < k
  ·have H1 : Hid (decide (m < k) = true) := ae (am h1);have HE : Hid (dB x m = true) := ae (by rw [HF.out, am ⟨h0, h1⟩]);clear h0 h1;refine abN (bu true rfl abQ abQ H1) ?_;refine aL 2 ?_;go_wp2_with fail;go_ret;exact ⟨bg (by rw [HE.out]), HB⟩
  ·have H1 : Hid (decide (m < k) = false) := ae (al h1);have HE : Hid (dB x m = false) := ae (by rw [HF.out, al (fun e => h1 e.2)]);clear h0 h1;refine abN (bu false rfl abQ abQ H1) ?_;refine aL 2 ?_;go_wp2_with fail;go_ret;exact ⟨bg (by rw [HE.out]), HB⟩
 ·have H0 : Hid (decide ((0 : Int) <= m) = false) := ae (al h0);have HE : Hid (dB x m = false) := ae (by rw [HF.out, al (fun e => h0 e.1)]);clear h0;refine aZ 1 ?_;refine abG (ci false rfl abQ evk H0) ?_;refine aG 5 rfl (aK rfl abQ) (by kernel_rfl) ?_;simp only [a9, ac, aa];refine aL 2 ?_;go_wp2_with fail;go_ret;exact ⟨bg (by rw [HE.out]), HB⟩
theorem yL (x : Ros) (c : Int) (w : World) : Calls prog 110 #[ros x, .int .u8 c] w fun e w' => e = .returned (.int .i64 (many x c : Nat)) /\ Below w.heap.size w w' := by
 obtain ⟨h1, h2, h3⟩ := cK w x;have HR := ae h1;have HB := ae h2;clear h1 h2 h3;have HL := ae (gJ x.st);have HH := ae (ww x c);go_enter func110, ntmps110;go_wp2_with (first | (refine au rfl (aV rfl rfl) ?_) | (refine au rfl (dm HL.out rfl rfl ?_) ?_; (with_reducible exact HR.out.sts)) | fail);generalize w.alloc (.cells (aO x).toArray 35) = w1 at *;generalize x.st.toList = l at *
 go_loop [5, 10] (fun n i => ∃ j : Nat, j <= 16 /\ i = .int .i64 j /\ n = .int .i64 (jS l c j : Nat)) (fun _ i => 16 - (intOf i).toNat)
 case atStart => exact ⟨0, Nat.zero_le _, rfl, rfl⟩
 case round =>
  obtain ⟨j, hj, rfl, rfl⟩ := hrel;by_cases hlt : j < 16
  ·have hs := ae (eO l c j);have hle := wZ l c j;generalize jS l c j = n at *;by_cases h2 : bt l j = c
   ·rw [if_pos h2] at hs;have hd : (bt l j == c) = true := by simpa using h2
    clear h2;go_wp2_with (first | (refine au rfl (dy (l := l) (j := j) HL hlt rfl rfl rfl) ?_) | fail)
    go_round
    case rel => exact ⟨j + 1, by omega, by go_num, by rw [hs.out]; go_num⟩
    case measure => simp [intOf]; omega
   ·rw [if_neg h2] at hs;have hd : (bt l j == c) = false := by simpa using h2
    clear h2;go_wp2_with (first | (refine au rfl (dy (l := l) (j := j) HL hlt rfl rfl rfl) ?_) | fail)
    go_round
    case rel => exact ⟨j + 1, by omega, by go_num, by rw [hs.out, Nat.add_zero]⟩
    case measure => simp [intOf]; omega
  ·have e : j = 16 := by omega
   subst e;go_wp2;go_ret;exact ⟨by rw [HH.out]; rfl, HB⟩
theorem xF (x : Ros) (w : World) : Calls prog 92 #[ros x] w fun e w' => e = .returned (.bool (pa x)) /\ Below w.heap.size w w' := by
 obtain ⟨h1, h2, h3⟩ := cK w x;have HR := ae h1;have HB := ae h2;have HZ := ae h3;clear h1 h2 h3;have HC : Hid (pa x = if many x 2 = 0 then decide (x.cur = 0) else tj x x.cur) := ae (by rw [<- fC]; rfl);go_enter func92, ntmps92;go_wp2_with (first | (refine au rfl (aV rfl rfl) ?_) | (refine au rfl (bh (c := x) rfl rfl ?_) ?_; (with_reducible exact HR.out.range)) | fail);generalize w.alloc (.cells (aO x).toArray 35) = w1 at *;refine (yL x 2 w1).mono ?_;rintro e w2 ⟨rfl, hb⟩;have HR2 := ae (HR.out.below HZ hb);obtain ⟨c0, c1, c2, c3, c4⟩ := HR2.out.cells;have HB2 := ae (HB.out.trans (hb.mono (Nat.le_of_lt HZ)));have HZ2 := ae (aW HR2);clear hb;by_cases h0 : many x 2 = 0
 ·rw [if_pos h0] at HC;rw [h0];go_wp2;go_ret;exact ⟨bg (by rw [HC.out, Bool.eq_iff_iff]; simp), HB2⟩
 ·rw [if_neg h0] at HC;have hd : ((many x 2 : Int) == 0) = false := by simp; omega
  clear h0;generalize many x 2 = n at *;go_wp2_with (first | (refine au rfl (bh (c := x) rfl rfl ?_) ?_; (with_reducible exact HR2.out.range)) | fail);refine (xS x x.cur w2).mono ?_;rintro e w3 ⟨rfl, hb⟩;have HB3 := ae (HB2.out.trans (hb.mono (Nat.le_of_lt HZ2)));clear hb;go_wp2_with fail;go_ret;exact ⟨bg (by rw [HC.out]), HB3⟩
theorem aai {x : Ros} (h1 : ∀ k, k < 16 -> sta x k <= 2) (h2 : ∀ k : Nat, k < 16 -> sta x k ≠ 0 -> dB x (k : Int) = true) : eB x = true :=
 gj.2 ⟨h1, fun k hk hm => Classical.byContradiction fun h0 => by have := kN (h2 k hk h0); omega⟩
theorem x9 {x : Ros} {k : Nat} (hk : k < 16) (h : 2 < sta x k) : eB x = false := Bool.eq_false_iff.2 fun hs => by have := (fM hs).1 k hk; omega
theorem ya {x : Ros} {k : Nat} (hk : k < 16) (h0 : sta x k ≠ 0) (h : dB x (k : Int) = false) : eB x = false := Bool.eq_false_iff.2 fun hs => by
 have h1 := of_decide_eq_false h;exact h0 ((fM hs).2 k hk (by omega))
theorem wl (x : Ros) (w : World) : Calls prog 91 #[ros x] w fun e w' => e = .returned (.bool (eB x && decide (cw x <= 1))) /\ Below w.heap.size w w' := by
 obtain ⟨h1, h2, h3⟩ := cK w x;have HR := ae h1;have HB := ae h2;have HZ := ae h3;clear h1 h2 h3;have HL := ae (gJ x.st);have HOK : Hid ((∀ k, k < 16 -> bt x.st.toList k <= 2) -> (∀ k : Nat, k < 16 -> bt x.st.toList k ≠ 0 -> dB x (k : Int) = true) -> eB x = true) := ae aai;have HBIG : Hid (∀ k, k < 16 -> 2 < bt x.st.toList k -> eB x = false) := ae fun k => x9
 have HFAR : Hid (∀ k : Nat, k < 16 -> bt x.st.toList k ≠ 0 -> dB x (k : Int) = false -> eB x = false) := ae fun k => ya
 go_enter func91, ntmps91;go_wp2_with (first | (refine au rfl (aV rfl rfl) ?_) | (refine au rfl (dm HL.out rfl rfl ?_) ?_; (with_reducible exact HR.out.sts)) | fail);generalize w.alloc (.cells (aO x).toArray 35) = w1 at *;have hb0 := HB.out;have hr0 := HR.out;clear HB HR HZ
 go_loopw [7] (fun i wr => ∃ j : Nat, j <= 16 /\ i = .int .i64 j /\ Below w.heap.size w wr /\ bm wr w.heap.size x /\ (∀ k, k < j -> bt x.st.toList k <= 2) /\ (∀ k : Nat, k < j -> bt x.st.toList k ≠ 0 -> dB x (k : Int) = true)) (fun i _ => 16 - (intOf i).toNat)
 case atStart => exact ⟨0, Nat.zero_le _, rfl, hb0, hr0, fun k hk => absurd hk (by omega), fun k hk => absurd hk (by omega)⟩
 case round =>
  clear hb0 hr0;obtain ⟨j, hj, rfl, hb, hr, h1, h2⟩ := hrel;have HB := ae hb;have HR := ae hr;have HZ := ae (aW hr);have HA1 := ae h1;have HA2 := ae h2;clear hb hr h1 h2;by_cases hlt : j < 16
  ·have HS : Hid (bt x.st.toList j <= 2 -> ∀ k, k < j + 1 -> bt x.st.toList k <= 2) := ae fun hv k hk => by
    by_cases e : k = j
    ·rw [e]; exact hv
    ·exact HA1.out k (by omega)
   have HT : Hid ((bt x.st.toList j ≠ 0 -> dB x (j : Int) = true) -> ∀ k : Nat, k < j + 1 -> bt x.st.toList k ≠ 0 -> dB x (k : Int) = true) := ae fun hv k hk h0 => by
    by_cases e : k = j
    ·rw [e] at h0 ⊢; exact hv h0
    ·exact HA2.out k (by omega) h0
   have HLO := ae (iY x.st.toList j);have HG := ae (HBIG.out j hlt);have HFR := ae (HFAR.out j hlt);clear HOK HBIG HFAR HA1 HA2;obtain ⟨v, hv⟩ : ∃ v, bt x.st.toList j = v := ⟨_, rfl⟩;rw [hv] at HS HT HLO HG HFR;have HV := ae hv;clear hv;by_cases v0 : v = 0
   ·have HN1 := ae (HS.out (by omega));have HN2 := ae (HT.out (fun h => absurd v0 h));have d0 : (v == 0) = true := by simpa using v0
    clear v0;go_wp2_with (first | (refine au rfl (dy (l := x.st.toList) (j := j) HL hlt rfl rfl rfl) ?_; rw [HV.out]) | fail);go_roundw
    case rel => exact ⟨j + 1, by omega, by go_num, HB, HR, HN1, HN2⟩
    case measure => simp [intOf]; omega
   ·by_cases vb : 2 < v
    ·have HF := ae (HG.out vb);have d0 : (v == 0) = false := by simp; omega
     have d1 : (v == 1) = false := by simp; omega
     have d2 : (v == 2) = false := by simp; omega
     clear v0 vb;go_wp2_with (first | (refine au rfl (dy (l := x.st.toList) (j := j) HL hlt rfl rfl rfl) ?_; rw [HV.out]) | fail);go_ret;exact ⟨bg (by rw [HF.out]; rfl), HB⟩
    ·have HN1 := ae (HS.out (by omega));have HV0 := ae v0;have d0 : (v == 0) = false := by simpa using v0
     obtain ⟨q, hq⟩ : ∃ q, dB x (j : Int) = q := ⟨_, rfl⟩;have HQ := ae hq;rw [hq] at HT HFR;clear hq;have hv2 : v = 1 \/ v = 2 := by have := HLO.out; omega
     rcases hv2 with e | e
     ·have d1 : (v == 1) = true := by simpa using e
      clear e v0 vb;go_wp2_with (first | (refine au rfl (dy (l := x.st.toList) (j := j) HL.out hlt rfl rfl rfl) ?_; rw [HV.out]) | (refine au rfl (bh (c := x) rfl rfl ?_) ?_; (with_reducible exact HR.out.range)) | fail);refine (nk x (j : Int) wr).mono ?_;rintro e w3 ⟨rfl, hb⟩;rw [HQ.out];have HB3 := ae (HB.out.trans (hb.mono (Nat.le_of_lt HZ)));have HR3 := ae (HR.out.below HZ hb);clear hb HR HB HZ;cases q
      ·have HF := ae (HFR.out HV0 rfl);go_wp2_with fail;go_ret;exact ⟨bg (by rw [HF.out]; rfl), HB3⟩
      ·have HN2 := ae (HT.out (fun _ => rfl));go_wp2_with fail;go_roundw
       case rel => exact ⟨j + 1, by omega, by go_num, HB3, HR3, HN1, HN2⟩
       case measure => simp [intOf]; omega
     ·have d1 : (v == 1) = false := by simp; omega
      have d2 : (v == 2) = true := by simpa using e
      clear e v0 vb;go_wp2_with (first | (refine au rfl (dy (l := x.st.toList) (j := j) HL.out hlt rfl rfl rfl) ?_; rw [HV.out]) | (refine au rfl (bh (c := x) rfl rfl ?_) ?_; (with_reducible exact HR.out.range)) | fail);refine (nk x (j : Int) wr).mono ?_;rintro e w3 ⟨rfl, hb⟩;rw [HQ.out];have HB3 := ae (HB.out.trans (hb.mono (Nat.le_of_lt HZ)));have HR3 := ae (HR.out.below HZ hb);clear hb HR HB HZ;cases q
      ·have HF := ae (HFR.out HV0 rfl);go_wp2_with fail;go_ret;exact ⟨bg (by rw [HF.out]; rfl), HB3⟩
      ·have HN2 := ae (HT.out (fun _ => rfl));go_wp2_with fail;go_roundw
       case rel => exact ⟨j + 1, by omega, by go_num, HB3, HR3, HN1, HN2⟩
       case measure => simp [intOf]; omega
  ·have e : j = 16 := by omega
   subst e;have HE := ae (HOK.out HA1 HA2);clear HOK HBIG HFAR HA1 HA2 hlt hj;go_wp2_with (first | (refine au rfl (bh (c := x) rfl rfl ?_) ?_; (with_reducible exact HR.out.range)) | fail);refine (yL x 2 wr).mono ?_;rintro e w3 ⟨rfl, hb⟩;have HB3 := ae (HB.out.trans (hb.mono (Nat.le_of_lt HZ)));clear hb;have hm := ae (fC x);generalize many x 2 = n at *;go_wp2;go_ret;exact ⟨bg (by rw [HE.out, Bool.true_and, hm.out, decide_eq_decide]; omega), HB3⟩
theorem abo (x : Ros) (w : World) : Calls prog 66 #[ros x] w fun e w' => e = .returned (.bool (aU x)) /\ Below w.heap.size w w' := by
 have HF := ae (mg x);obtain ⟨h1, h2, h3⟩ := cK w x;have HR := ae h1;have HB := ae h2;have HZ := ae h3;clear h1 h2 h3;go_enter func66, ntmps66;go_wp2_with (first | (refine au rfl (aV rfl rfl) ?_) | (refine au rfl (cz (c := x) rfl rfl ?_) ?_; (with_reducible exact HR.out.geo)) | fail);generalize w.alloc (.cells (aO x).toArray 35) = w1 at *;refine (yZ x w1).mono ?_;rintro e w2 ⟨rfl, hb⟩;have HR2 := ae (HR.out.below HZ hb);have HB2 := ae (HB.out.trans (hb.mono (Nat.le_of_lt HZ)));have HZ2 := ae (aW HR2);clear hb HR HB HZ;generalize dV x = g at *;cases g
 ·go_wp2_with fail;go_ret;exact ⟨bg (by rw [HF.out]; rfl), HB2⟩
 ·go_wp2_with (first | (refine av (by rfl) (bh (c := x) rfl rfl ?_) ?_; (with_reducible exact HR2.out.range)) | fail);refine (wl x w2).mono ?_;rintro e w3 ⟨rfl, hb⟩;have HR3 := ae (HR2.out.below HZ2 hb);have HB3 := ae (HB2.out.trans (hb.mono (Nat.le_of_lt HZ2)));have HZ3 := ae (aW HR3);clear hb HR2 HB2 HZ2;generalize (eB x && decide (cw x <= 1)) = p at *;cases p
  ·go_wp2_with fail;go_ret;exact ⟨bg (by rw [HF.out]; rfl), HB3⟩
  ·go_wp2_with (first | (refine av (by rfl) (bh (c := x) rfl rfl ?_) ?_; (with_reducible exact HR3.out.range)) | fail);refine (xF x w3).mono ?_;rintro e w4 ⟨rfl, hb⟩;have HB4 := ae (HB3.out.trans (hb.mono (Nat.le_of_lt HZ3)));clear hb;generalize pa x = q at *;go_wp2_with fail;go_ret;exact ⟨bg (by rw [HF.out]; rfl), HB4⟩
theorem aa9 (x : Ros) (w : World) : Calls prog 24 #[ros x] w fun e w' => e = .returned (.bool (aU x)) /\ Below w.heap.size w w' := by
 obtain ⟨h1, h2, h3⟩ := cK w x;have HR := ae h1;have HB := ae h2;have HZ := ae h3;clear h1 h2 h3;go_enter func24, ntmps24;go_wp2_with (first | (refine au rfl (aV rfl rfl) ?_) | (refine au rfl (bh (c := x) rfl rfl ?_) ?_; (with_reducible exact HR.out.range)) | fail);generalize w.alloc (.cells (aO x).toArray 35) = w1 at *;refine (yS x w1).mono ?_;rintro e w2 ⟨rfl, hb⟩;have HB2 := ae (HB.out.trans (hb.mono (Nat.le_of_lt HZ)));clear hb;go_wp2_with fail;go_ret;exact ⟨rfl, HB2⟩
def setW (w : World) (b o : Nat) (v : Value) : World := w.setCell ⟨b, o, none⟩ v
def fe (w : World) (b : Nat) (x : Ros) : World := w.setCells b 0 (aO x)
section
variable {w w0 : World} {b k o : Nat} {v : Value} {x y : Ros}
theorem pP {B : Nat} (h : Below B w0 w) (hb : B <= b) : Below B w0 (setW w b o v) := below_setCells h hb [v]
theorem uB (hne : k ≠ b) : (setW w b o v).heap[k]? = w.heap[k]? := heap_setCell_other w ⟨b, o, none⟩ k v hne
theorem mO : (fe w b x).heap.size = w.heap.size := (eS b _ 0 w).1
theorem gy {B : Nat} (h : Below B w0 w) (hb : B <= b) : Below B w0 (fe w b x) := below_setCells h hb _
theorem pu (hne : k ≠ b) : (fe w b x).heap[k]? = w.heap[k]? := du b _ 0 w k hne
theorem iO (h : bm w b y) : bm (fe w b x) b x := by
 have h' : w.heap[b]? = some (.cells ([] ++ aO y ++ []).toArray 35 (0, 0)) := by rw [List.nil_append, List.append_nil]; exact h
 have := heap_put b 35 [] (aO x) (aO y) [] w (by rw [aT, aT]) h';rw [List.nil_append, List.append_nil] at this;exact this
theorem wC (x : Ros) {j : Nat} (hj : j < 16) (u : UInt8) : (aO x).set (3 + j) (.int .u8 (u.toNat : Int)) = aO (dW x j u) := by
 rw [fO x, fO (dW x j u), jE];have e1 : dr (dW x j u) = dr x := rfl;rw [e1, List.set_append_right _ _ (by simp [dr]), show 3 + j - (dr x).length = j from by simp [dr], List.set_append_left _ _ (by rw [bj]; simp; omega)];unfold vals;rw [List.map_set]
 rfl
theorem pd (x : Ros) (c : Int) : (aO x).set 19 (.int .i64 c) = aO (ij x c) := by
 rw [fO x, fO (ij x c)];have e1 : dr (ij x c) = dr x := rfl;rw [e1, List.set_append_right _ _ (by simp [dr]), show 19 - (dr x).length = 16 from rfl, List.set_append_right _ _ (by rw [bj]; simp), show 16 - (vals x.st.toList).length = 0 from by rw [bj]; simp]
 rfl
theorem bm.setW (h : bm w b x) (hy : (aO x).set o v = aO y) : bm (setW w b o v) b y := by
 have := heap_setCell_same w b o _ 35 v h;rw [List.setIfInBounds_toArray, hy] at this;exact this
theorem bm.there (h : bm w b x) {o n : Nat} (hn : o + n <= 21) : w.there b o n := bk h (by rw [aT]; exact hn)
end
section
variable {ρ : Operand -> Value} {o : Oper} {x y : Operand} {w : World} {b off : Nat} {c d : Ros}
theorem cu (ho : o.op = .store 35 x y) (hx : ρ x = .pointer (some ⟨b, 0, none⟩)) (hy : ρ y = ros c) (h : bm w b d) : (execOp ρ o).run prog w = .ok .skip (fe w b c) :=
 dK (by rw [aT]; exact lh) (fF c) ho hx hy (by rw [aT]; exact h.there (by omega))
theorem uH (h : w.there b off 1) : ∃ v, w.cell? ⟨b, off, none⟩ = some v /\ w.frozen? ⟨b, off, none⟩ = false := by
 have := h 0 (by omega);rw [Nat.add_zero] at this;obtain ⟨h1, h2⟩ := this;obtain ⟨v, hv⟩ := Option.isSome_iff_exists.1 h1;exact ⟨v, hv, h2⟩
theorem jn {u : Int} (ho : o.op = .store 5 x y) (hx : ρ x = .pointer (some ⟨b, off, none⟩)) (hy : ρ y = .int .u8 u) (h : w.there b off 1) : (execOp ρ o).run prog w = .ok .skip (setW w b off (.int .u8 u)) := by
 obtain ⟨v, hc, hf⟩ := uH h;exact gB ho hx hy (by simp [go_sem, hc, hf, setW])
theorem oD {u : Int} (ho : o.op = .store 3 x y) (hx : ρ x = .pointer (some ⟨b, off, none⟩)) (hy : ρ y = .int .i64 u) (h : w.there b off 1) : (execOp ρ o).run prog w = .ok .skip (setW w b off (.int .i64 u)) := by
 obtain ⟨v, hc, hf⟩ := uH h;exact gB ho hx hy (by simp [go_sem, hc, hf, setW])
theorem aN (ho : o.op = .load 35 x) (hx : ρ x = .pointer (some ⟨b, 0, none⟩)) (h : bm w b c) : (execOp ρ o).run prog w = .ok (.value (ros c)) w := bh ho hx h.range
theorem tw (w : World) : (Instr.build 35 #[]).run prog w = .ok (ros bF) w := by kernel_rfl
theorem ra (ho : o.op = .build 35 #[]) : (execOp ρ o).run prog w = .ok (.value (ros bF)) w := iJ ho (tw w)
theorem mo {ad : Addr} {n : Bool} (h : w.cell? ad = some (.bool n)) : (Instr.loadAt 4 (.pointer (some ad))).run prog w = .ok (.bool n) w := by simp [go_sem, h]
theorem mp {b : Nat} : (Instr.fieldAt 35 (.pointer (some ⟨b, 0, none⟩)) 3).run prog w = .ok (.pointer (some ⟨b, 20, none⟩)) w := by kernel_rfl
theorem fg {fn : Func} {p u : Tmp} (h : fn.results = #[.cell p 35, .tmp u]) (tmps : Array Value) (w : World) (b : Nat) (hp : tmps.getD p undef = .pointer (some ⟨b, 0, none⟩)) (hc : bm w b c) :
  (results fn tmps).run prog w = .ok (.tuple #[ros c, tmps.getD u undef]) w := by
 have hl : (loadVar 35 ⟨b, 0, none⟩).run prog w = .ok (ros c) w := run_loadVar_mid w b 0 35 (aO c) _ hc.range underlying35 rfl (by rw [aT]; exact lh);have hp' : tmps[p]?.getD undef = .pointer (some ⟨b, 0, none⟩) := by simpa using hp
 simp [results, h, hp', asAddr, hl]
end
structure fT (w0 w : World) (x y : Ros) : Prop where
 bel : Below w0.heap.size w0 w
 at0 : bm w w0.heap.size x
 at1 : bm w (w0.heap.size + 1) y
theorem fT.new (w : World) (x : Ros) : fT w ((w.alloc (.cells (aO x).toArray 35)).alloc (.cells (aO bF).toArray 35)) x bF := by
 refine ⟨((Below.refl _ w).alloc ai _).alloc (by simp) _, (bm.new w x).past _, ?_⟩;have := bm.new (w.alloc (.cells (aO x).toArray 35)) bF;rwa [World.size_alloc] at this
section
variable {w0 w w' : World} {x y z : Ros}
theorem fT.call (h : fT w0 w x y) (hb : Below w.heap.size w w') : fT w0 w' x y :=
 ⟨h.bel.trans (hb.mono h.bel.size), h.at0.below (aW h.at0) hb, h.at1.below (aW h.at1) hb⟩
theorem fT.put (h : fT w0 w x y) (z : Ros) : fT w0 (fe w (w0.heap.size + 1) z) x z :=
 ⟨gy h.bel (by omega), (pu (by omega)).trans h.at0, iO h.at1⟩
theorem fT.set (h : fT w0 w x y) {o : Nat} {v : Value} (hy : (aO x).set o v = aO z) : fT w0 (setW w w0.heap.size o v) z y :=
 ⟨pP h.bel ai, h.at0.setW hy, (uB (by omega)).trans h.at1⟩
end
structure fp (w0 w : World) (x : Ros) : Prop where
 bel : Below w0.heap.size w0 w
 at0 : bm w w0.heap.size x
theorem fp.new (w : World) (x : Ros) : fp w (w.alloc (.cells (aO x).toArray 35)) x := ⟨(cK w x).2.1, (cK w x).1⟩
theorem fp.call {w0 w w' : World} {x : Ros} (h : fp w0 w x) (hb : Below w.heap.size w w') : fp w0 w' x :=
 ⟨h.bel.trans (hb.mono h.bel.size), h.at0.below (aW h.at0) hb⟩
section
variable {x : Ros} {m : Int} {c : Int} {b : Bool} (w : World)
theorem gY (h : aU x = b) : Calls prog 66 #[ros x] w fun e w' => e = .returned (.bool b) /\ Below w.heap.size w w' := by subst h; exact abo x w
theorem di (h : aU x = b) : Calls prog 24 #[ros x] w fun e w' => e = .returned (.bool b) /\ Below w.heap.size w w' := by subst h; exact aa9 x w
theorem iM (h : dB x m = b) : Calls prog 87 #[ros x, .int .i64 m] w fun e w' => e = .returned (.bool b) /\ Below w.heap.size w w' := by subst h; exact nk x m w
theorem iK (h : dB x m = b) : Calls prog 70 #[ros x, .int .i64 m] w fun e w' => e = .returned (.bool b) /\ Below w.heap.size w w' := by subst h; exact xo x m w
end
def kx (M : aM) (x : Ros) : Nat -> Bool
 |0 => true
 |k + 1 => kx M x k && !decide (dz M (k : Int) < 2 + x.s)
def ju (M : aM) (id ev : Nat) (x : Ros) : Bool := !decide (id = 0) && (!decide (2305843009213693952 < ev) && (aU x && (decide ((M.ds.length : Int) = x.m + 1) && kx M x x.m.toNat)))
theorem sj {M : aM} {x : Ros} {i : Nat} (h : dz M (i : Int) < 2 + x.s) : ∀ {n : Nat}, i < n -> kx M x n = false
 |0, hi => absurd hi (by omega)
 |n + 1, hi => by
  rw [kx];by_cases e : i = n
  ·subst e; rw [am h]; simp
  ·rw [sj h (n := n) (by omega)]; rfl
theorem mB {M : aM} {x : Ros} {i : Nat} (h : kx M x i = true) (h' : ¬ dz M (i : Int) < 2 + x.s) : kx M x (i + 1) = true := by rw [kx, h, al h']; rfl
end Go.Proofs.YtehefifamaofkaaGreatDoor
