import Derived.Test.YtehefifamaofkaaGreatDoorGlab
import Derived.Laws.CopyOwn
import Derived.IntWalk
import Derived.Laws.AppendOwnNone
namespace Go.Proofs.YtehefifamaofkaaGreatDoor
set_option maxHeartbeats 8000000
open Go.Proofs.Tryz
open Go.RowKit
set_option linter.unusedVariables false
set_option maxRecDepth 100000
def Dev.K (D : Dev) : DvK := ⟨D.Dv, D.lt, D.only⟩
def cm (D : Dev) : fM where
 K := D.K
 s := 73
 t := 84
 und := underlying73
 info := by kernel_rfl
 o := 75
 cs := fun v left cf steps => #[v, .int .i64 steps, .int .i64 left, .bool cf]
 ne := by decide
section
variable {D : Dev} {w w' : World} {p : Nat} {v : Value} {Fs : Nat -> Nat -> Prop} {ps : List Nat} {M : aR}
theorem bL.kj (h : bL (cm D) w p v Fs ps M) : w.cell? ⟨p, 0, none⟩ = some v /\ w.cell? ⟨p, 1, none⟩ = some (.int .i64 M.steps) /\ w.cell? ⟨p, 2, none⟩ = some (.int .i64 M.left) /\ w.cell? ⟨p, 3, none⟩ = some (.bool M.cf) := dR h.at_
theorem ou (h : bL (cm D) w p v Fs ps M) :
  Calls prog 25 #[.pointer (some ⟨p, 0, none⟩)] w fun e w' => e = .returned (.int .i64 (M.ds.length : Int)) /\ w = w' := by
 obtain ⟨g, c, rfl, _, _⟩ := h.slice;obtain ⟨c0, c1, c2, c3⟩ := h.kj;go_enter func25, ntmps25;go_wp2;go_ret;exact ⟨rfl, rfl⟩
theorem sa (h : bL (cm D) w p v Fs ps M) :
  Calls prog 50 #[.pointer (some ⟨p, 0, none⟩)] w fun e w' => e = .returned (.bool true) /\ w = w' := by
 have h1 : 0 < M.ds.length := h.one;go_enter func50, ntmps50;go_wp2_with fail;refine (ou h).mono ?_;rintro e w1 ⟨rfl, rfl⟩;go_wp2_with fail;go_ret;exact ⟨rfl, rfl⟩
theorem tk (h : bL (cm D) w p v Fs ps M) :
  Calls prog 78 #[.pointer (some ⟨p, 0, none⟩)] w fun e w' => e = .returned (.bool M.cf) /\ w = w' := by
 obtain ⟨c0, c1, c2, c3⟩ := h.kj;go_enter func78, ntmps78;go_wp2;go_ret;exact ⟨rfl, rfl⟩
theorem iX (h : bL (cm D) w p v Fs ps M) {d : Int} (hd : ¬(0 <= d /\ d < M.ds.length)) :
  Calls prog 46 #[.pointer (some ⟨p, 0, none⟩), .int .i64 d] w fun e w' => e = .returned (.tuple #[.pointer none, .int .i64 2]) /\ w = w' := by
 have hm := ae (sa h);obtain ⟨g, c, rfl, _, _⟩ := h.slice;obtain ⟨c0, c1, c2, c3⟩ := h.kj;clear h;by_cases h0 : d < 0
 ·clear hd;go_enter func46, ntmps46;go_wp2_with fail;refine hm.out.mono ?_;rintro e w1 ⟨rfl, rfl⟩;go_wp2_with fail;go_ret2;exact ⟨rfl, rfl⟩
 ·have h1 : ¬(d < (M.ds.length : Int)) := by omega
  clear hd;go_enter func46, ntmps46;go_wp2_with fail;refine hm.out.mono ?_;rintro e w1 ⟨rfl, rfl⟩;go_wp2_with fail;go_ret2;exact ⟨rfl, rfl⟩
theorem jc (h : bL (cm D) w p v Fs ps M) {k : Nat} (hk : k < M.ds.length) :
  Calls prog 46 #[.pointer (some ⟨p, 0, none⟩), .int .i64 k] w fun e w' => e = .returned (.tuple #[.pointer (some ⟨ps.getD k 0, 0, none⟩), .int .i64 0]) /\ w = w' := by
 have hm := ae (sa h);obtain ⟨g, c, rfl, _, _⟩ := h.slice;obtain ⟨c0, c1, c2, c3⟩ := h.kj;have hc := h.cell hk;generalize ps.getD k 0 = q at *;clear h;go_enter func46, ntmps46;go_wp2_with fail;refine hm.out.mono ?_;rintro e w1 ⟨rfl, rfl⟩;go_wp2_with fail;go_ret2;exact ⟨rfl, rfl⟩
theorem ns (h : bL (cm D) w p v Fs ps M) {d : Int} (hd : dN M d ≠ 0) :
  Calls prog 37 #[.pointer (some ⟨p, 0, none⟩), .int .i64 d] w fun e w' => e = .returned (.tuple #[.pointer none, .int .i64 (dN M d)]) /\ w = w' := by
 have hm := ae (tk h);rcases dz M d with ⟨e, hdk⟩ | ⟨e, hdk, ho⟩ | ⟨e, _⟩
 ·rw [e];have HD := ae hdk;clear e hdk hd h;go_enter func37, ntmps37;go_wp2_with fail;refine hm.out.mono ?_;rintro e w1 ⟨rfl, rfl⟩;rw [HD.out];go_wp2_with fail;go_ret2;exact ⟨rfl, rfl⟩
 ·rw [e];have HD := ae hdk;have HO := ae (iX h ho);clear e hdk hd h ho;go_enter func37, ntmps37;go_wp2_with fail;refine hm.out.mono ?_;rintro e w1 ⟨rfl, rfl⟩;rw [HD.out];go_wp2_with fail;refine HO.out.mono ?_;rintro e w1 ⟨rfl, rfl⟩;go_wp2_with fail;go_ret2;exact ⟨rfl, rfl⟩
 ·exact absurd e hd
theorem i3 (h : bL (cm D) w p v Fs ps M) {k : Nat} (hdk : M.cf = false) (hk : k < M.ds.length) :
  Calls prog 37 #[.pointer (some ⟨p, 0, none⟩), .int .i64 k] w fun e w' => e = .returned (.tuple #[.pointer (some ⟨ps.getD k 0, 0, none⟩), .int .i64 0]) /\ w = w' := by
 have hm := ae (tk h);have HD := ae hdk;have HO := ae (jc h hk);clear hdk h;generalize ps.getD k 0 = q at *;go_enter func37, ntmps37;go_wp2_with fail;refine hm.out.mono ?_;rintro e w1 ⟨rfl, rfl⟩;rw [HD.out];go_wp2_with fail;refine HO.out.mono ?_;rintro e w1 ⟨rfl, rfl⟩;go_wp2_with fail;go_ret2;exact ⟨rfl, rfl⟩
end
section
variable {D : Dev} {w w' : World} {p : Nat} {v : Value} {Fs : Nat -> Nat -> Prop} {ps : List Nat} {M : aR}
theorem wq (d : Int) (h : bL (cm D) w p v Fs ps M) :
  Calls prog 94 #[.pointer (some ⟨p, 0, none⟩), .int .i64 d] w fun e w' => e = .returned (.int .i64 (dG M d)) /\ Below w.heap.size w w' := by
 rcases kS M d with ⟨e, ho⟩ | ⟨e, k, rfl, hk⟩
 ·have HS : Hid (dG M d = 0) := ae (by unfold dG; rw [if_neg (by omega)]);have HO := ae (iX h ho);clear e h ho;go_enter func94, ntmps94;go_wp2_with fail;refine HO.out.mono ?_;rintro e w1 ⟨rfl, rfl⟩;go_wp2_with fail;refine (wG (.inl rfl)).mono ?_;rintro e w2 ⟨rfl, hb⟩;go_wp2_with fail;go_ret;exact ⟨bP HS.out.symm, hb⟩
 ·obtain ⟨x, hx⟩ : ∃ x, M.ds.getD k cd = x := ⟨_, rfl⟩;have hat := h.devs.at_ k hk;rw [hx] at hat
  have HS : Hid (dG M (k : Int) = (x.S.length : Int)) := ae (by unfold dG; rw [if_pos e, M.iG, hx]);have HO := ae (jc h hk);have HD := ae (D.eh hat);clear e h hat hx;generalize ps.getD k 0 = q at *;go_enter func94, ntmps94;go_wp2_with fail;refine HO.out.mono ?_;rintro e w1 ⟨rfl, rfl⟩;go_wp2_with fail;refine HD.out.mono ?_;rintro e w2 ⟨rfl, hb⟩;go_wp2_with fail;go_ret;exact ⟨bP HS.out.symm, hb⟩
theorem ado (n : Int) (h : bL (cm D) w p v Fs ps M) :
  Calls prog 13 #[.pointer (some ⟨p, 0, none⟩), .int .i64 n] w fun e w' => e = .returned (.int .i64 (jN M n)) /\ bL (cm D) w' p v Fs ps (f8 M n) /\ Only (fun b => b = p) w w' := by
 have hm := ae (sa h);obtain ⟨c0, c1, c2, c3⟩ := h.kj;have f2 := frozen_of_row w p 2 _ _ h.at_;have HH := ae h;cases hdk : M.cf
 ·by_cases hn : n < 0
  ·have HE : Hid (jN M n = 2) := ae (by unfold jN; rw [if_neg (by rw [hdk]; decide), if_pos hn]);have HS : Hid (f8 M n = M) := ae (by unfold f8; rw [HE.out, if_neg (by decide)]);rw [hdk] at c3;clear h hdk;go_enter func13, ntmps13;go_wp2_with fail;refine hm.out.mono ?_;rintro e w1 ⟨rfl, rfl⟩;go_wp2_with fail;go_ret;exact ⟨bP HE.out.symm, by rw [HS.out]; exact HH, Only.refl _ _⟩
  ·have HE : Hid (jN M n = 0) := ae (by unfold jN; rw [if_neg (by rw [hdk]; decide), if_neg hn]);have HS : Hid (f8 M n = ⟨M.ds, n.toNat, M.cf, M.steps⟩) := ae (by unfold f8; rw [HE.out, if_pos rfl]);have HN : Hid (((n.toNat : Nat) : Int) = n) := ae (by omega);have HC : Hid (M.cf = false) := ae hdk;rw [hdk] at c3;clear h hdk;go_enter func13, ntmps13;go_wp2_with fail;refine hm.out.mono ?_;rintro e w1 ⟨rfl, rfl⟩;go_wp2_with fail;go_ret;have ho := dt w p 2 (.int .i64 n);refine ⟨bP HE.out.symm, ?_, ho⟩;rw [HS.out];refine HH.out.obj _ _ _ ho ?_;have := heap_setCell_same w p 2 _ _ (.int .i64 n) HH.out.at_
   simpa [cm, HN.out] using this
 ·have HE : Hid (jN M n = 8) := ae (by unfold jN; rw [if_pos hdk]);have HS : Hid (f8 M n = M) := ae (by unfold f8; rw [HE.out, if_neg (by decide)]);rw [hdk] at c3;clear h hdk;go_enter func13, ntmps13;go_wp2_with fail;refine hm.out.mono ?_;rintro e w1 ⟨rfl, rfl⟩;go_wp2_with fail;go_ret;exact ⟨bP HE.out.symm, by rw [HS.out]; exact HH, Only.refl _ _⟩
theorem abY (d : Int) (h : bL (cm D) w p v Fs ps M) :
  Calls prog 11 #[.pointer (some ⟨p, 0, none⟩), .int .i64 d] w fun e w' => e = .returned (.int .i64 (mc M d)) /\ Left (cm D) w p v Fs ps M.ds.length (gv M d) w' := by
 rcases kS M d with ⟨e, ho⟩ | ⟨e, k, rfl, hk⟩
 ·have HL := ae (Left.same h (M' := gv M d) (by unfold gv; rw [if_neg (by omega)]));have HO := ae (iX h ho);have HE := ae e;clear e h ho;go_enter func11, ntmps11;go_wp2_with fail;refine HO.out.mono ?_;rintro e w1 ⟨rfl, rfl⟩;go_wp2_with fail;go_ret;exact ⟨bP HE.out.symm, HL⟩
 ·obtain ⟨x, hx⟩ : ∃ x, M.ds.getD k cd = x := ⟨_, rfl⟩;have hat := h.devs.at_ k hk;rw [hx] at hat
  have HS : Hid (gv M (k : Int) = M.put k ⟨x.S, [], true⟩) := ae (by unfold gv; rw [if_pos e, <- hx]; rfl);have HO := ae (jc h hk);have HD := ae (D.fail hat);have HE := ae e;have HH := ae h;clear e h hat hx;go_enter func11, ntmps11;go_wp2_with fail;refine HO.out.mono ?_;rintro e w1 ⟨rfl, rfl⟩;go_wp2_with fail;refine HD.out.mono ?_;rintro e w2 ⟨rfl, F', h1, h2, h3⟩;go_wp2_with fail;go_ret;exact ⟨bP HE.out.symm, Left.turn HH hk h2 h3 (d := ⟨x.S, [], true⟩) h1 HS⟩
theorem mO (f : Value) (h : bL (cm D) w p v Fs ps M) (hl : M.left = 1) :
  Calls prog 39 #[.pointer (some ⟨p, 0, none⟩), f] w fun e w' => e = .returned (.int .i64 8) /\ bL (cm D) w' p v Fs ps M.night /\ Only (fun b => b = p) w w' := by
 obtain ⟨c0, c1, c2, c3⟩ := h.kj;have f3 := frozen_of_row w p 3 _ _ h.at_;rw [hl] at c2;have HH := ae h;have HL := ae hl;clear h hl;go_enter func39, ntmps39;go_wp2_with fail;go_ret;have ho := dt w p 3 (.bool true);refine ⟨rfl, HH.out.obj _ _ _ ho ?_, ho⟩;have := heap_setCell_same w p 3 _ _ (.bool true) HH.out.at_
 simpa [cm] using this
theorem yb (h : bL (cm D) w p v Fs ps M) (h2 : 1 < M.left) : bL (cm D) ((w.setCell ⟨p, 2, none⟩ (.int .i64 ((M.left : Int) - 1))).setCell ⟨p, 1, none⟩ (.int .i64 ((M.steps : Int) + 1))) p v Fs ps M.done /\ Only (fun b => b = p) w ((w.setCell ⟨p, 2, none⟩ (.int .i64 ((M.left : Int) - 1))).setCell ⟨p, 1, none⟩ (.int .i64 ((M.steps : Int) + 1))) := by
 have ho := (dt w p 2 (.int .i64 ((M.left : Int) - 1))).setCell (p := ⟨p, 1, none⟩) (.inl rfl) (.int .i64 ((M.steps : Int) + 1));refine ⟨h.obj _ _ _ ho ?_, ho⟩;have h3 := heap_setCell_same _ p 1 _ _ (.int .i64 ((M.steps : Int) + 1)) (heap_setCell_same w p 2 _ _ (.int .i64 ((M.left : Int) - 1)) h.at_);have e : ((M.left - 1 : Nat) : Int) = (M.left : Int) - 1 := by omega
 simpa [cm, e] using h3
theorem wE (h : bL (cm D) w p v Fs ps M) (h2 : M.left = 0) : bL (cm D) (w.setCell ⟨p, 1, none⟩ (.int .i64 ((M.steps : Int) + 1))) p v Fs ps M.done /\ Only (fun b => b = p) w (w.setCell ⟨p, 1, none⟩ (.int .i64 ((M.steps : Int) + 1))) := by
 have ho := dt w p 1 (.int .i64 ((M.steps : Int) + 1));refine ⟨h.obj _ _ _ ho ?_, ho⟩;have h3 := heap_setCell_same w p 1 _ _ (.int .i64 ((M.steps : Int) + 1)) h.at_
 simpa [cm, h2] using h3
theorem oq (fid : FuncId) (bs cs : Array Value) (h : bL (cm D) w p v Fs ps M) (hl : M.left ≠ 1) (hs : M.steps < 1000000) (hll : M.left < 9223372036854775808) (hf : ∀ (args : Array Value) (w : World), (callFunc fid args).run prog w = .ok (.enter fid args) w) (Q : Int -> World -> Prop)
  (hdo : ∀ w1, bL (cm D) w1 p v Fs ps M.done -> Only (fun b => b = p) w w1 -> Calls prog fid (bs ++ cs) w1 fun e w2 => ∃ x, e = .returned (.int .i64 x) /\ Q x w2) :
  Calls prog 39 #[.pointer (some ⟨p, 0, none⟩), .func (.func fid) bs cs] w fun e w2 => ∃ x, e = .returned (.int .i64 x) /\ Q x w2 := by
 obtain ⟨c0, c1, c2, c3⟩ := h.kj;have f2 := frozen_of_row w p 2 _ _ h.at_;have f1 := frozen_of_row w p 1 _ _ h.at_;have HH := ae h;clear h;have hl1 : ((M.left : Int) == 1) = false := by simpa using (by omega : ¬ (M.left : Int) = 1)
 by_cases h2 : 1 < M.left
 ·have HT := ae (yb HH h2);go_enter func39, ntmps39;go_wp2_with fail;refine (hdo _ HT.out.1 HT.out.2).mono ?_;rintro e w3 ⟨x, rfl, hq⟩;go_wp2_with fail;go_ret;exact ⟨x, rfl, hq⟩
 ·have hl0 : M.left = 0 := by omega
  have HT := ae (wE HH hl0);rw [hl0] at c2;clear hl1 hl hll h2 hl0;go_enter func39, ntmps39;go_wp2_with fail;refine (hdo _ HT.out.1 HT.out.2).mono ?_;rintro e w3 ⟨x, rfl, hq⟩;go_wp2_with fail;go_ret;exact ⟨x, rfl, hq⟩
end
section
variable {D : Dev} {w w' : World} {p : Nat} {v : Value} {Fs : Nat -> Nat -> Prop} {ps : List Nat} {M : aR}
theorem acO (d n : Int) (h : bL (cm D) w p v Fs ps M) :
  Calls prog 81 #[.pointer (some ⟨p, 0, none⟩), .int .i64 d, .int .i64 n] w fun e w' => e = .returned (.tuple #[blk (dY M d n), .int .i64 (ct M d n)]) /\ Below w.heap.size w w' := by
 have hA := (Below.refl w.heap.size w).alloc ai (.cells (cel aF).toArray 29);have h1 := h.below hA;have HT := ae (ec w aF 29);have HA := ae hA;by_cases hl : dN M d = 0
 ·rcases dz M d with ⟨e, _⟩ | ⟨e, _⟩ | ⟨e, hdk, k, rfl, hk⟩
  ·omega
  ·omega
  obtain ⟨x, hx⟩ : ∃ x, M.ds.getD k cd = x := ⟨_, rfl⟩;have hat := h1.devs.at_ k hk;rw [hx] at hat
  have HB : Hid (dY M (k : Int) n = eU x.S x.L x.g n) := ae (by unfold dY; rw [if_pos e, <- hx]; rfl);have HE : Hid (ct M (k : Int) n = cT x.S x.g n) := ae (by unfold ct; rw [if_pos e, <- hx]; rfl);have HO := ae (i3 h1 hdk hk);have HD := ae (D.read n hat);have HSZ := ae (World.size_alloc w (.cells (cel aF).toArray 29));clear e h h1 hat hx hdk hA hl;rw [HB.out, HE.out];clear HB HE;generalize eU x.S x.L x.g n = y at *;generalize cT x.S x.g n = z at *;generalize ps.getD k 0 = q at *;go_enter func81, ntmps81;go_wp2_with (first | (refine av rfl (bw rfl) ?_) | fail);refine HO.out.mono ?_;rintro e w1 ⟨rfl, rfl⟩;go_wp2_with fail;refine HD.out.mono ?_;rintro e w2 ⟨rfl, hb⟩;have HT2 := ae (bg HT (by rw [HSZ.out]; omega) hb);have HB2 := ae (HA.out.trans (hb.mono (by rw [HSZ.out]; omega)));clear hb;go_wp2_with (first | (refine bj rfl (bD rfl rfl rfl HT2.out) ?_) | fail);exact bodyPost_ret (cI rfl _ _ _ rfl (World.rangeAt_setCells_same _ _ _ _ (by rw [aL]; exact HT2))) rfl ⟨rfl, below_setCells HB2 ai _⟩
 ·have HB : Hid (dY M d n = aF) := ae (by unfold dY; rw [if_neg hl]);have HE : Hid (ct M d n = dN M d) := ae (by unfold ct; rw [if_neg hl]);have HO := ae (ns h1 hl);clear h h1 hA;rw [HB.out, HE.out];rcases dz M d with ⟨e, _⟩ | ⟨e, _⟩ | ⟨e, _⟩
  rotate_right 1
  ·exact absurd e hl
  all_goals
   rw [e] at HO ⊢;clear e hl;go_enter func81, ntmps81;go_wp2_with (first | (refine av rfl (bw rfl) ?_) | fail);refine HO.out.mono ?_;rintro e w1 ⟨rfl, rfl⟩;go_wp2_with (first | (refine av rfl (cQ (c := aF) (parts := []) rfl rfl) ?_) | (refine bj rfl (bD rfl rfl rfl HT.out) ?_));exact bodyPost_ret (cI rfl _ _ _ rfl (World.rangeAt_setCells_same _ _ _ _ (by rw [aL]; exact HT))) rfl ⟨rfl, below_setCells HA ai _⟩
theorem r9 (d : Int) (h : bL (cm D) w p v Fs ps M) (hl : fK M d ≠ 0) :
  Calls prog 15 #[.pointer (some ⟨p, 0, none⟩), .int .i64 d] w fun e w' => e = .returned (.int .i64 (hZ M d)) /\ Left (cm D) w p v Fs ps M.ds.length (fk M d) w' := by
 have HE : Hid (hZ M d = fK M d) := ae (by unfold hZ; rw [if_neg hl]);have HL : Hid (∀ w', Below w.heap.size w w' -> Left (cm D) w p v Fs ps M.ds.length (fk M d) w') := ae (fun w' hb => by
  have e : fk M d = M := by unfold fk; rw [if_neg hl]
  rw [e];exact ⟨Fs, ps, h.below hb, Only.of_below _ hb, Grow.same _ _⟩)
 by_cases h0 : dN M d = 0
 ·rcases dz M d with ⟨e, _⟩ | ⟨e, _⟩ | ⟨e, hdk, k, rfl, hk⟩
  ·omega
  ·omega
  obtain ⟨x, hx⟩ : ∃ x, M.ds.getD k cd = x := ⟨_, rfl⟩;have hat := h.devs.at_ k hk;rw [hx] at hat
  have hg : x.g = true := by
   cases hg : x.g
   ·exfalso; apply hl; unfold fK; rw [if_pos e, show M.dev (k : Int) = x from hx, hg, if_neg (by decide)]
   ·rfl
  have H9 : Hid (fK M (k : Int) = 9) := ae (by unfold fK; rw [if_pos e, show M.dev (k : Int) = x from hx, hg, if_pos rfl]);have HO := ae (i3 h hdk hk);have HD := ae (D.dead hat);have HG := ae hg;clear e h hat hx hdk hl h0 hg;generalize ps.getD k 0 = q at *;go_enter func15, ntmps15;go_wp2_with fail;refine HO.out.mono ?_;rintro e w1 ⟨rfl, rfl⟩;go_wp2_with fail;refine HD.out.mono ?_;rintro e w2 ⟨rfl, hb⟩;rw [HG.out];have HBB := ae hb;clear hb;go_wp2_with fail;go_ret;exact ⟨bP (by rw [HE.out, H9.out]), HL.out _ HBB⟩
 ·have HA : Hid (fK M d = dN M d) := ae (by unfold fK; rw [if_neg h0]);have HO := ae (ns h h0);clear h hl;rw [HE.out, HA.out];rcases dz M d with ⟨e, _⟩ | ⟨e, _⟩ | ⟨e, _⟩
  rotate_right 1
  ·exact absurd e h0
  all_goals
   rw [e] at HO ⊢;clear e h0;go_enter func15, ntmps15;go_wp2_with fail;refine HO.out.mono ?_;rintro e w1 ⟨rfl, rfl⟩;go_wp2_with fail;go_ret;exact ⟨rfl, HL.out _ aj⟩
theorem aaQ (d : Int) (h : bL (cm D) w p v Fs ps M) (hs : M.steps < 1000000) (hll : M.left < 9223372036854775808) :
  Calls prog 15 #[.pointer (some ⟨p, 0, none⟩), .int .i64 d] w fun e w' => e = .returned (.int .i64 (hZ M d)) /\ Left (cm D) w p v Fs ps M.ds.length (fk M d) w' := by
 by_cases hl : fK M d = 0;rotate_left 1
 ·exact r9 d h hl
 have hlit : dN M d = 0 := by
  unfold fK at hl;by_cases h0 : dN M d = 0
  ·exact h0
  ·rw [if_neg h0] at hl; exact hl
 rcases dz M d with ⟨e, _⟩ | ⟨e, _⟩ | ⟨e, hdk, k, rfl, hk⟩
 ·omega
 ·omega
 obtain ⟨x, hx⟩ : ∃ x, M.ds.getD k cd = x := ⟨_, rfl⟩;have hat := h.devs.at_ k hk;rw [hx] at hat
 have hg : x.g = false := by
  cases hg : x.g
  ·rfl
  ·exfalso; unfold fK at hl; rw [if_pos e, show M.dev (k : Int) = x from hx, hg, if_pos rfl] at hl; omega
 have HEE : Hid (hZ M (k : Int) = M.dI) := ae (by unfold hZ; rw [if_pos hl]);have HO := ae (i3 h hdk hk);have HD := ae (D.dead hat);have HG := ae hg;obtain ⟨q, hq⟩ : ∃ q, ps.getD k 0 = q := ⟨_, rfl⟩;rw [hq] at HO HD;by_cases h1 : M.left = 1
 ·have HE : Hid (M.dI = 8) := ae (by unfold aR.dI; rw [if_pos h1]);have HS : Hid (fk M (k : Int) = M.night) := ae (by unfold fk; rw [if_pos hl, if_pos h1]);have HH := ae h;have H1 := ae h1;clear e h hat hx hdk hl hg h1 hlit hs hll hq;go_enter func15, ntmps15;go_wp2_with fail;refine HO.out.mono ?_;rintro e w1 ⟨rfl, rfl⟩;go_wp2_with fail;refine HD.out.mono ?_;rintro e w2 ⟨rfl, hb⟩;rw [HG.out];have HBB := ae hb;clear hb;go_wp2_with fail;refine (mO _ (HH.out.below HBB) H1).mono ?_;rintro e w3 ⟨rfl, h3, ho3⟩;go_wp2_with fail;go_ret;refine ⟨bP (by rw [HEE.out, HE.out]), ?_⟩;rw [HS.out];exact ⟨Fs, ps, h3, (Only.of_below _ HBB).trans (lD _ ho3) fun b hb => .inl hb, Grow.same _ _⟩
 ·have HE : Hid (M.dI = 0) := ae (by unfold aR.dI; rw [if_neg h1]);have HS : Hid (fk M (k : Int) = M.done.put k ⟨flS x.S x.L, [], x.g⟩) := ae (by unfold fk; rw [if_pos hl, if_neg h1, show M.dev (k : Int) = x from hx]; rfl);have HH := ae h;have H1 := ae h1;have HX := ae hx;have HSS := ae hs;have HLL := ae hll;have HQ := ae hq;clear e h hat hx hdk hl hg h1 hlit hs hll hq;go_enter func15, ntmps15;go_wp2_with fail;refine HO.out.mono ?_;rintro e w1 ⟨rfl, rfl⟩;go_wp2_with fail;refine HD.out.mono ?_;rintro e w2 ⟨rfl, hb⟩;rw [HG.out];have HBB := ae hb;clear hb;go_wp2_with fail;refine (oq 52 #[.pointer (some ⟨q, 0, none⟩)] #[] (HH.out.below HBB) H1 HSS HLL call52 (fun z w3 => z = 0 /\ Left (cm D) w2 p v Fs ps M.ds.length (fk M (k : Int)) w3) ?_).mono ?_
  ·intro w3 h3 ho3;have hat3 := h3.devs.at_ k hk;rw [show M.done.ds.getD k cd = x from HX.out, HG.out, HQ.out] at hat3;refine (D.flush hat3).mono ?_;rintro e w4 ⟨he, F', g1, g2, g3⟩;refine ⟨0, by simpa using he, rfl, Left.behind ho3 (Left.turn h3 hk g2 g3 (d := ⟨flS x.S x.L, [], x.g⟩) (show D.Dv _ _ _ _ _ _ by rw [HG.out, HQ.out]; simpa using g1) HS)⟩
  ·rintro e w4 ⟨z, rfl, rfl, Fs', ps', h4, ho4, hg4⟩;go_wp2_with fail;go_ret;refine ⟨bP (by rw [HEE.out, HE.out]), Fs', ps', h4, (Only.of_below _ HBB).trans ho4 fun b hb => .inl hb, fun b hb => ?_⟩;rcases hg4 b hb with e | e
   ·exact .inl e
   ·exact .inr (ap HBB.out.size e)
end
section
variable {D : Dev} {w w' : World} {p : Nat} {v : Value} {Fs : Nat -> Nat -> Prop} {ps : List Nat} {M : aR}
def wr3 (w : World) (n : Int) (b : Blk) (q : Option Addr) : World := ((w.alloc (.cells #[.int .i64 n] 3)).alloc (.cells (cel b).toArray 29)).alloc (.cells #[.pointer q] 84)
theorem lJ (w : World) (n : Int) (b : Blk) (q : Option Addr) : Below w.heap.size w (wr3 w n b q) /\ (wr3 w n b q).heap[w.heap.size]? = some (.cells #[.int .i64 n] 3) /\ (wr3 w n b q).heap[w.heap.size + 1]? = some (.cells (cel b).toArray 29) /\ (wr3 w n b q).heap[w.heap.size + 1 + 1]? = some (.cells #[.pointer q] 84) /\ (wr3 w n b q).heap.size = w.heap.size + 1 + 1 + 1 := by
 unfold wr3;have e1 := World.size_alloc (w := w) (o := .cells #[.int .i64 n] 3);have e2 := World.size_alloc (w := w.alloc (.cells #[.int .i64 n] 3)) (o := .cells (cel b).toArray 29);have e3 := World.size_alloc (w := (w.alloc (.cells #[.int .i64 n] 3)).alloc (.cells (cel b).toArray 29)) (o := .cells #[.pointer q] 84);have n1 := l9 w #[.int .i64 n] 3;have n2 := l9 (w.alloc (.cells #[.int .i64 n] 3)) (cel b).toArray 29;have n3 := l9 ((w.alloc (.cells #[.int .i64 n] 3)).alloc (.cells (cel b).toArray 29)) #[.pointer q] 84;rw [e2, e1] at n3;rw [e1] at n2;refine ⟨(((Below.refl _ w).alloc ai _).alloc (by omega) _).alloc (by omega) _, bO (bO n1 _) _, bO n2 _, n3, by omega⟩
theorem adS {q a b c : Nat} {n : Int} {x : Blk} {F : Nat -> Prop} {S : List Blk} {L : List (Int × Blk)} {g : Bool} (h : D.Dv w F q S L g) (hL : L.length < 1000000) (hq : w.heap[a]? = some (.cells #[.pointer (some ⟨q, 0, none⟩)] 84)) (hn : w.heap[b]? = some (.cells #[.int .i64 n] 3)) (hx : w.heap[c]? = some (.cells (cel x).toArray 29)) :
  Calls prog 40 #[.pointer (some ⟨a, 0, none⟩), .pointer (some ⟨b, 0, none⟩), .pointer (some ⟨c, 0, none⟩)] w fun e w' => e = .returned (.int .i64 (cT S g n)) /\ ∃ F', D.Dv w' F' q S (wrL S L g n x) g /\ Only F w w' /\ Grow w F F' := by
 obtain ⟨c1, f1⟩ := one_cell hq;obtain ⟨c2, f2⟩ := one_cell hn;have HR := ae (ib hx);have HD := ae (D.write n x hL h);clear h hq hn hx;go_enter func40, ntmps40;go_wp2_with (first | (refine av rfl (bf rfl rfl HR) ?_) | fail);refine HD.out.mono ?_;rintro e w4 ⟨rfl, F', g1, g2, g3⟩;go_wp2_with fail;go_ret;exact ⟨rfl, F', g1, g2, g3⟩
theorem pY (d n : Int) (x : Blk) (h : bL (cm D) w p v Fs ps M) (h0 : dN M d ≠ 0) :
  Calls prog 9 #[.pointer (some ⟨p, 0, none⟩), .int .i64 d, .int .i64 n, blk x] w fun e w' => e = .returned (.int .i64 (dN M d)) /\ Below w.heap.size w w' := by
 have hA : Below w.heap.size w ((w.alloc (.cells #[.int .i64 n] 3)).alloc (.cells (cel x).toArray 29)) := ((Below.refl _ w).alloc ai _).alloc (by rw [World.size_alloc]; omega) _;have HO := ae (ns (h.below hA) h0);have HF := ae (lJ w n x none).1;clear h hA;rcases dz M d with ⟨e, _⟩ | ⟨e, _⟩ | ⟨e, _⟩
 rotate_right 1
 ·exact absurd e h0
 all_goals
  rw [e] at HO ⊢;clear e h0;go_enter func9, ntmps9;go_wp2_with (first | (refine av rfl (bZ rfl rfl) ?_) | fail);refine HO.out.mono ?_;rintro e w1 ⟨rfl, rfl⟩;go_wp2_with fail;go_ret;exact ⟨rfl, HF⟩
end
section
variable {D : Dev} {w w' : World} {p : Nat} {v : Value} {Fs : Nat -> Nat -> Prop} {ps : List Nat} {M : aR}
theorem qk (n : Int) (x : Blk) (h : bL (cm D) w p v Fs ps M) {k : Nat} (hdk : M.cf = false) (hk : k < M.ds.length) (he : cT (M.ds.getD k cd).S (M.ds.getD k cd).g n ≠ 0) :
  Calls prog 9 #[.pointer (some ⟨p, 0, none⟩), .int .i64 k, .int .i64 n, blk x] w fun e w' => e = .returned (.int .i64 (cT (M.ds.getD k cd).S (M.ds.getD k cd).g n)) /\ Below w.heap.size w w' := by
 obtain ⟨y, hy⟩ : ∃ y, M.ds.getD k cd = y := ⟨_, rfl⟩;obtain ⟨q, hq⟩ : ∃ q, ps.getD k 0 = q := ⟨_, rfl⟩;have hA : Below w.heap.size w ((w.alloc (.cells #[.int .i64 n] 3)).alloc (.cells (cel x).toArray 29)) := ((Below.refl _ w).alloc ai _).alloc (by rw [World.size_alloc]; omega) _;have HO := ae (i3 (h.below hA) hdk hk);obtain ⟨hB, k0, k1, k2, hsz⟩ := lJ w n x (some ⟨q, 0, none⟩);have hat := (h.below hB).devs.at_ k hk;rw [hy, hq] at hat
 rw [hy] at he ⊢;rw [hq] at HO;have HD := ae (D.sure n hat);have HB := ae hB;obtain ⟨c0, f0⟩ := one_cell k0;obtain ⟨c2, f2⟩ := one_cell k2;rcases eW (S := y.S) (g := y.g) (n := n) with e | e | ⟨e, _⟩
 rotate_right 1
 ·exact absurd e he
 all_goals
  rw [e] at HD ⊢;clear e he h hA hB k0 k1 k2 hat hy hq hdk;go_enter func9, ntmps9;unfold wr3 at *;go_wp2_with (first | (refine av rfl (bZ rfl rfl) ?_) | fail);refine HO.out.mono ?_;rintro e w1 ⟨rfl, rfl⟩;go_wp2_with fail;refine HD.out.mono ?_;rintro e w2 ⟨rfl, hb⟩;have HBB := ae (HB.out.trans (hb.mono (by rw [hsz]; omega)));clear hb;go_wp2_with (first | (refine av rfl (bw rfl) ?_) | (refine bj rfl (fY rfl rfl rfl) ?_) | fail);go_ret;exact ⟨rfl, HBB.out.alloc HBB.out.size _⟩
theorem si (n : Int) (x : Blk) (h : bL (cm D) w p v Fs ps M) {k : Nat} (hdk : M.cf = false) (hk : k < M.ds.length) (he : cT (M.ds.getD k cd).S (M.ds.getD k cd).g n = 0) (hs : M.steps < 1000000) (hll : M.left < 9223372036854775808) (hL : (M.ds.getD k cd).L.length < 1000000) :
  Calls prog 9 #[.pointer (some ⟨p, 0, none⟩), .int .i64 k, .int .i64 n, blk x] w fun e w' => e = .returned (.int .i64 M.dI) /\ Left (cm D) w p v Fs ps M.ds.length (eg M (k : Int) n x) w' := by
 obtain ⟨y, hy⟩ : ∃ y, M.ds.getD k cd = y := ⟨_, rfl⟩;obtain ⟨q, hq⟩ : ∃ q, ps.getD k 0 = q := ⟨_, rfl⟩;have hA : Below w.heap.size w ((w.alloc (.cells #[.int .i64 n] 3)).alloc (.cells (cel x).toArray 29)) := ((Below.refl _ w).alloc ai _).alloc (by rw [World.size_alloc]; omega) _;have HO := ae (i3 (h.below hA) hdk hk);obtain ⟨hB, k0, k1, k2, hsz⟩ := lJ w n x (some ⟨q, 0, none⟩);have hat := (h.below hB).devs.at_ k hk;have hr0 : ct M (k : Int) n = 0 := by unfold ct; rw [if_pos (jz hdk hk), M.iG]; exact he
 rw [hy, hq] at hat
 rw [hy] at he hL;rw [hq] at HO;have HD := ae (D.sure n hat);have HB := ae hB;have HH := ae h;have HK0 := ae k0;have HK1 := ae k1;have HK2 := ae k2;have HE := ae he;have HSS := ae hs;have HLL := ae hll;have HL := ae hL;have HY := ae hy;have HQ := ae hq;have HR := ae hr0;obtain ⟨c0, f0⟩ := one_cell k0;obtain ⟨c2, f2⟩ := one_cell k2;rw [he] at HD;by_cases h1 : M.left = 1
 all_goals
  have H1 := ae h1;clear h1 he h hA hB k0 k1 k2 hat hy hq hdk hs hll hL hr0;go_enter func9, ntmps9;unfold wr3 at *;go_wp2_with (first | (refine av rfl (bZ rfl rfl) ?_) | fail);refine HO.out.mono ?_;rintro e w1 ⟨rfl, rfl⟩;go_wp2_with fail;refine HD.out.mono ?_;rintro e w2 ⟨rfl, hb⟩;have hb2 := HB.out.trans (hb.mono (by rw [hsz]; omega));have HBB := ae (hb2.alloc hb2.size (.cells (cel (i1 y.S y.g n)).toArray 29));have HA0 := ae (bO (aB HK0 hb) (.cells (cel (i1 y.S y.g n)).toArray 29));have HA1 := ae (bO (aB HK1 hb) (.cells (cel (i1 y.S y.g n)).toArray 29));have HA2 := ae (bO (aB HK2 hb) (.cells (cel (i1 y.S y.g n)).toArray 29));clear hb hb2 c0 c2 f0 f2 hsz;generalize i1 y.S y.g n = z at *;go_wp2_with (first | (refine av rfl (bw rfl) ?_) | (refine bj rfl (fY rfl rfl rfl) ?_) | fail);generalize w2.alloc (.cells (cel z).toArray 29) = w3 at *
 ·refine (mO _ (HH.out.below HBB) H1).mono ?_;rintro e w4 ⟨rfl, h4, ho4⟩;go_wp2_with fail;go_ret;refine ⟨bP (by unfold aR.dI; rw [if_pos H1.out]), ?_⟩;rw [show eg M (k : Int) n x = M.night from by unfold eg; rw [if_pos HR.out, if_pos H1.out]];exact Left.above HBB (Left.obj h4 ho4 rfl)
 ·refine (oq 40 #[] _ (HH.out.below HBB) H1 HSS HLL call40 (fun z w4 => z = 0 /\ Left (cm D) w3 p v Fs ps M.ds.length (eg M (k : Int) n x) w4) ?_).mono ?_
  ·intro w4 h4 ho4;have hat4 := h4.devs.at_ k hk;rw [show M.done.ds.getD k cd = y from HY.out, HQ.out] at hat4;have hne : ∀ j, j < 3 -> w.heap.size + j ≠ p := fun j _ e => by have := aY HH.out.at_; omega
   refine (adS hat4 HL (ho4.keep HA2 (hne 2 (by omega))) (ho4.keep HA0 (hne 0 (by omega))) (ho4.keep HA1 (hne 1 (by omega)))).mono ?_;rintro e w5 ⟨he5, F', g1, g2, g3⟩;refine ⟨_, he5, HE, Left.behind ho4 (Left.turn h4 hk g2 g3 (d := ⟨y.S, wrL y.S y.L y.g n x, y.g⟩) (show D.Dv _ _ _ _ _ _ by rw [HQ.out]; exact g1) ?_)⟩;unfold eg;rw [if_pos HR.out, if_neg H1.out, show M.dev (k : Int) = y from HY.out]
   rfl
  ·rintro e w5 ⟨z, rfl, rfl, hl5⟩;have HL5 := ae (Left.above HBB hl5);clear hl5;go_wp2_with fail;go_ret;exact ⟨bP (by unfold aR.dI; rw [if_neg H1.out]), HL5⟩
theorem aaa (d n : Int) (x : Blk) (h : bL (cm D) w p v Fs ps M) (hr : ∀ i, i < M.ds.length -> (M.ds.getD i cd).L.length < 1000000) (hs : M.steps < 1000000) (hll : M.left < 9223372036854775808) :
  Calls prog 9 #[.pointer (some ⟨p, 0, none⟩), .int .i64 d, .int .i64 n, blk x] w fun e w' => e = .returned (.int .i64 (jL M d n)) /\ Left (cm D) w p v Fs ps M.ds.length (eg M d n x) w' := by
 by_cases h0 : dN M d = 0
 ·rcases dz M d with ⟨e, _⟩ | ⟨e, _⟩ | ⟨e, hdk, k, rfl, hk⟩
  ·omega
  ·omega
  have hr0 : ct M (k : Int) n = cT (M.ds.getD k cd).S (M.ds.getD k cd).g n := by unfold ct; rw [if_pos e, M.iG]
  by_cases he : cT (M.ds.getD k cd).S (M.ds.getD k cd).g n = 0
  ·refine (si n x h hdk hk he hs hll (hr k hk)).mono ?_;rintro e w' ⟨rfl, hl⟩;exact ⟨by unfold jL; rw [hr0, if_pos he], hl⟩
  ·refine (qk n x h hdk hk he).mono ?_;rintro e w' ⟨rfl, hb⟩;exact ⟨by unfold jL; rw [hr0, if_neg he], Left.sA h hb (by unfold eg; rw [hr0, if_neg he])⟩
 ·refine (pY d n x h h0).mono ?_;rintro e w' ⟨rfl, hb⟩;have hr0 : ct M d n = dN M d := by unfold ct; rw [if_neg h0]
  exact ⟨by unfold jL; rw [hr0, if_neg h0], Left.sA h hb (by unfold eg; rw [hr0, if_neg h0])⟩
end
def mI (k : Int) : iN := ⟨List.replicate k.toNat aF, [], false⟩
theorem gl (ks : List Int) : (cp ks).ds = ks.map mI := rfl
structure Making (kd : fM) (w wr : World) (v : Value) (Fs : Nat -> Nat -> Prop) (ps : List Nat) (ds : List iN) (left : Nat) (cf : Bool) (steps : Nat) : Prop where
 at_ : wr.heap[w.heap.size]? = some (.cells (kd.cs v left cf steps) kd.o)
 row : bF kd.E wr w.heap.size v ps
 devs : jP kd.K wr Fs ps ds
 apart : ∀ i, i < ds.length -> ∀ b, Fs i b -> w.heap.size < b /\ v.ownBlock ≠ some b
 below : Below w.heap.size w wr
section
variable {kd : fM} {w wr w1 w3 : World} {v v' : Value} {Fs : Nat -> Nat -> Prop} {F' : Nat -> Prop} {ps : List Nat} {ds : List iN} {p' : Nat} {d : iN} {o2 : Obj} {left steps : Nat} {cf : Bool}
theorem Making.next (hcs : ∀ v v', (kd.cs v left cf steps).setIfInBounds 0 v' = kd.cs v' left cf steps) (h : Making kd w wr v Fs ps ds left cf steps) (hb1 : Below wr.heap.size wr w1) (hF : ∀ b, F' b -> wr.heap.size <= b) (hd : kd.K.Dv w1 F' p' d.S d.L d.g)
  (hm : bF kd.E w3 w.heap.size v' (ps ++ [p'])) (hg : (w1.alloc o2).grownBy w3 v.ownBlock) (ho : ∀ x, v'.ownBlock = some x -> v.ownBlock = some x \/ w1.heap.size + 1 <= x) :
  Making kd w (w3.setCell ⟨w.heap.size, 0, none⟩ v') v' (upF Fs ds.length F') (ps ++ [p']) (ds ++ [d]) left cf steps := by
 have hx := aY h.at_;have h1 := hb1.size;have hsz : (w1.alloc o2).heap.size = w1.heap.size + 1 := World.size_alloc _ _;have hvl : ∀ b, v.ownBlock = some b -> b < wr.heap.size := h.row.jY;have o3 : Only (fun b => v.ownBlock = some b) w1 w3 := (Only.of_below _ ((Below.refl _ w1).alloc ai o2)).trans ((Only.refl (fun b => v.ownBlock = some b) _).grown hg fun k e => .inl e) fun b hb => .inl hb
 have hvx : v.ownBlock ≠ some w.heap.size := h.row.dH h.at_ kd.ne;have hat1 := aB h.at_ hb1;have hat3 := o3.keep hat1 hvx;have o4 : Only (fun b => b = w.heap.size \/ v.ownBlock = some b) w1 (w3.setCell ⟨w.heap.size, 0, none⟩ v') := (o3.widen fun b hb => .inr hb).setCell (p := ⟨w.heap.size, 0, none⟩) (.inl (.inl rfl)) _;have hv3 : v'.ownBlock ≠ some w.heap.size := hm.dH hat3 kd.ne;have hdv := h.devs.push hb1 hF hd;have hap : ∀ i, i < (ds ++ [d]).length -> ∀ b, upF Fs ds.length F' i b -> w.heap.size < b /\ v.ownBlock ≠ some b /\ b < w1.heap.size := fun i hi b hb => by
  have hlt := hdv.lt i hi b hb;rcases hb with ⟨e, hb⟩ | ⟨e, hb⟩
  ·have := hF b hb;exact ⟨by omega, fun e => by have := hvl b e; omega, hlt⟩
  ·rw [List.length_append, List.length_singleton] at hi;exact ⟨(h.apart i (by omega) b hb).1, (h.apart i (by omega) b hb).2, hlt⟩
 refine ⟨?_, hm.only (dt w3 w.heap.size 0 v') fun b hb e => hv3 (by rw [hb, e]), hdv.only o4 fun i hi b hb e => ?_, fun i hi b hb => ⟨(hap i hi b hb).1, fun e => ?_⟩, ?_⟩
 ·have := heap_setCell_same w3 w.heap.size 0 _ _ v' hat3;rw [hcs] at this;exact this
 ·rcases e with e | e
  ·have := (hap i hi b hb).1; omega
  ·exact (hap i hi b hb).2.1 e
 ·rcases ho b e with e | e
  ·exact (hap i hi b hb).2.1 e
  ·have := (hap i hi b hb).2.2; omega
 ·have hb01 : Below w.heap.size w w1 := h.below.trans (hb1.mono h.below.size);refine hb01.trans (o4.below (fun b hb => ?_) hb01.size);rcases hb with e | e
  ·omega
  ·exact h.row.lG b e
theorem Making.done (h : Making kd w wr v Fs ps ds left cf steps) (h1 : 1 <= ds.length) (h2 : ds.length <= 17) : bL kd wr w.heap.size v Fs ps ⟨ds, left, cf, steps⟩ /\ (∀ b, gx w.heap.size v Fs ds.length b -> w.heap.size <= b) /\ Below w.heap.size w wr :=
 ⟨⟨h.at_, h.row.base (Nat.zero_le _), h.devs, fun i hi b hb => ⟨by have := (h.apart i hi b hb).1; omega, (h.apart i hi b hb).2⟩, h1, h2⟩, fun b hb => by
  rcases hb with e | e | ⟨i, hi, e⟩
  ·omega
  ·exact h.row.lG b e
  ·have := (h.apart i hi b e).1; omega, h.below⟩
end
def eX (kd : fM) (w : World) (ks : List Int) (e : Ending) (w' : World) : Prop :=
 Below w.heap.size w w' /\ ((gW ks /\ ∃ p v Fs ps, e = .returned (.tuple #[.pointer (some ⟨p, 0, none⟩), .int .i64 0]) /\ bL kd w' p v Fs ps (cp ks) /\ ∀ b, gx p v Fs (cp ks).ds.length b -> w.heap.size <= b) \/ (¬ gW ks /\ e = .returned (.tuple #[.pointer none, .int .i64 2])))
theorem eX.no {kd : fM} {w w' : World} {ks : List Int} (hb : Below w.heap.size w w') (hn : ¬ gW ks) {e : Ending} (he : e = .returned (.tuple #[.pointer none, .int .i64 2])) : eX kd w ks e w' := ⟨hb, .inr ⟨hn, he⟩⟩
theorem jS {ks : List Int} {j : Nat} (h : j < ks.length) : (ks.take (j + 1)).map mI = (ks.take j).map mI ++ [mI (ks.getD j 0)] := by
 rw [List.take_add_one, List.getD, List.getElem?_eq_getElem h, List.map_append]; rfl
section
variable {D : Dev} {w w' : World}
theorem ady {A : Option Addr} {n c : Nat} {ks : List Int} (hl : RdE je w w.heap.size A n ks) (hnc : n <= c) (hc : c <= maxLen) :
  Calls prog 34 #[.slice A n c] w (eX (cm D) w ks) := by
 have hlen : ks.length = n := hl.1;unfold maxLen at hc;by_cases h1 : n < 1
 ·have HN := ae (show ¬ gW ks from fun h => by have := h.1; omega);have h0 : n = 0 := by omega
  subst h0;clear hl hlen h1;go_enter func34, ntmps34;go_wp2;go_ret2;exact eX.no aj HN rfl
 by_cases h2 : 17 < n
 ·have HN := ae (show ¬ gW ks from fun h => by have := h.2.1; omega);have h1' : ¬((n : Int) < 1) := by omega
  have h2' : ((n : Int) > 17) := by omega
  clear hl hlen h1 h2;go_enter func34, ntmps34;go_wp2;go_ret2;exact eX.no aj HN rfl
 have h1' : ¬((n : Int) < 1) := by omega
 have h2' : ¬((n : Int) > 17) := by omega
 have h3' : ¬(17 < (n : Int)) := by omega
 have HL := ae hl;have HLEN := ae hlen;have HMK := ae (show Making (cm D) w (w.alloc (.cells #[.slice none 0 0, .int .i64 0, .int .i64 0, .bool false] 75)) (.slice none 0 0) (fun _ _ => False) [] [] 0 false 0 from
  ⟨heap_alloc_new w _, bF.nil _ _, ⟨rfl, fun i hi => absurd hi (Nat.not_lt_zero i), fun i j hi => absurd hi (Nat.not_lt_zero i)⟩, fun i hi => absurd hi (Nat.not_lt_zero i), (Below.refl _ w).alloc ai _⟩)
 clear hl hlen;go_enter func34, ntmps34;go_wp2_with fail;generalize w.alloc (.cells #[.slice none 0 0, .int .i64 0, .int .i64 0, .bool false] 75) = w0 at *;clear h1' h2' h3'
 go_loopw [21] (fun i wr => ∃ (j : Nat) (v : Value) (Fs : Nat -> Nat -> Prop) (ps : List Nat), j <= n /\ i = .int .i64 j /\ Making (cm D) w wr v Fs ps ((ks.take j).map mI) 0 false 0 /\ ∀ q, q < j -> 1 <= ks.getD q 0 /\ ks.getD q 0 <= 512) (fun i _ => n - (intOf i).toNat)
 case atStart => exact ⟨0, _, _, _, Nat.zero_le _, rfl, HMK, fun q hq => absurd hq (Nat.not_lt_zero q)⟩
 case round =>
  obtain ⟨j, v, Fs, ps, hj, rfl, hmk, hall⟩ := hrel;have HALL := ae hall;clear hall HMK;by_cases hlt : j < n
  ·have hlj : (j : Int) < (n : Int) := by omega
   obtain ⟨bA, oA, rfl, hbA, hcA⟩ := (HL.out.below hmk.below).int hlt;have HM := ae hmk;obtain ⟨AS, cS, rfl, hs1, hs2⟩ := hmk.row.form;unfold maxLen at hs2;have hpl : ps.length = j := by have := hmk.devs.len; rw [List.length_map, List.length_take] at this; have := HLEN.out; omega
   have HPL := ae hpl;obtain ⟨z, hz⟩ : ∃ z, ks.getD j 0 = z := ⟨_, rfl⟩;rw [hz] at hcA;have HZ := ae hz;clear hmk hz hpl;by_cases hok : 1 <= z /\ z <= 512
   ·obtain ⟨k, rfl⟩ : ∃ k : Nat, z = k := ⟨z.toNat, by omega⟩;have hk1 : 1 <= k := by omega
    have hk2 : k <= 512 := by omega
    clear hok;go_wp2_with fail;refine (D.new_ok k wr hk1 hk2).mono ?_;rintro e w1 ⟨p', F', rfl, hd1, hb1, hF1⟩;have hat1 := aB HM.out.at_ hb1;obtain ⟨c0, c1, c2, c3⟩ := dR hat1;have hrow1 := HM.out.row.below hb1;have hrow2 := hrow1.below ((Below.refl _ w1).alloc ai (.cells ((cm D).E.cel p').toArray (cm D).E.t));have HR := ae hrow2;have HNEW := ae (iJ (E := (cm D).E) (l := [p']) w1 ((cm D).E.cel p').toArray (cm D).E.t (by rw [ex]; simp [cF]));have HSZ := ae (show w.heap.size <= (w1.alloc (.cells ((cm D).E.cel p').toArray (cm D).E.t)).heap.size by rw [World.size_alloc]; have := HM.out.below.size; have := hb1.size; omega);have HD1 := ae hd1;have HB1 := ae hb1;have HF1 := ae hF1;have HAT := ae hat1;have HPS := ae (show ps.length + 1 <= 34359738368 by have := HPL.out; omega);clear hd1 hb1 hF1 hat1 hrow1 hrow2;have hal : w.heap.size < w1.heap.size := aY HAT;go_wp2_with (first | (refine av rfl (ft (E := (cm D).E) (a := p') rfl rfl rfl (by decide)) ?_) | (at_builtin; refine iK (cm D).E rfl _ _ rfl w.heap.size _ _ _ _ ps [p'] _ rfl rfl HR HNEW HSZ HPS ?_) | fail);intro v' w3 hm3 hg3 ho3;have hxv : v'.ownBlock ≠ some w.heap.size := fun e => by
     rcases ho3 _ e with e' | e'
     ·exact HM.out.row.dH HM.out.at_ (cm D).ne e'
     ·omega
    have HNX := ae (HM.out.next (fun _ _ => rfl) HB1 HF1 (d := mI k) HD1 hm3 hg3 ho3);have hvx : (Value.slice AS ps.length cS).ownBlock ≠ some w.heap.size := HM.out.row.dH HM.out.at_ (cm D).ne;have hat3 : w3.heap[w.heap.size]? = some _ := (hg3.block w.heap.size (by rw [World.size_alloc]; omega) (fun e => hvx e.symm)).trans (bO HAT _);obtain ⟨AV, cV, rfl, _, _⟩ := hm3.form;obtain ⟨d0, d1, d2, d3⟩ := dR hat3;have f0 := frozen_of_row w3 w.heap.size 0 _ _ hat3;clear hm3 hg3 ho3 hat3 c0 c1 c2 c3;go_wp2_with fail;go_roundw
    case rel =>
     refine ⟨j + 1, .slice AV (ps.length + 1) cV, upF Fs (List.map mI (List.take j ks)).length F', ps ++ [p'], by omega, by go_num, ?_, fun q hq => ?_⟩
     ·rw [jS (by have := HLEN.out; omega), HZ.out];have h6 := HNX.out;rw [show (ps ++ [p']).length = ps.length + 1 from by simp] at h6;exact h6
     ·by_cases e : q = j
      ·subst e; rw [HZ.out]; omega
      ·exact HALL.out q (by omega)
    case measure => simp [intOf]; omega
   ·have HB := ae HM.out.below;have HN := ae (show ¬ gW ks from fun h => hok (by have := h.2.2 z (by rw [<- HZ.out]; exact jg (by have := HLEN.out; omega)); exact this));go_wp2_with fail;refine (D.new_no z wr hok).mono ?_;rintro e w1 ⟨rfl, hb1⟩;have HB1 := ae (HB.out.trans (hb1.mono HB.out.size));clear hb1 hok;go_wp2_with fail;go_ret2;exact eX.no HB1 HN rfl
  ·have hjn : j = n := by omega
   subst hjn;have hlj : ¬((j : Int) < (j : Int)) := by omega
   have HM := ae hmk;clear hmk;go_wp2_with fail;go_ret2;have h5 := HM.out;have hLL := HLEN.out;rw [<- hLL, List.take_length] at h5;obtain ⟨g1, g2, g3⟩ := h5.done (by rw [List.length_map]; omega) (by rw [List.length_map]; omega);refine ⟨g3, .inl ⟨⟨by omega, by omega, fun k hk => ?_⟩, _, _, _, _, rfl, g1, g2⟩⟩;obtain ⟨i, hi, rfl⟩ := List.getElem_of_mem hk;have := HALL.out i (by omega);rwa [List.getD_eq_getElem?_getD, List.getElem?_eq_getElem hi] at this
end
structure tD where
 read : FuncId
 write : FuncId
 flush : FuncId
 fail : FuncId
 arm : FuncId
 devices : FuncId
 eh : FuncId
 cf : FuncId
structure aR.Wf (M : aR) : Prop where
 one : 1 <= M.ds.length
 cap : M.ds.length <= 17
 len : ∀ i, i < M.ds.length -> 1 <= (M.ds.getD i cd).S.length /\ (M.ds.getD i cd).S.length <= 512
structure Ben (I : tD) where
 Bn : World -> (Nat -> Prop) -> Nat -> aR -> Prop
 lt : ∀ {w F p M}, Bn w F p M -> ∀ b, F b -> b < w.heap.size
 only : ∀ {w w' F G p M}, Bn w F p M -> Only G w w' -> (∀ b, F b -> ¬ G b) -> Bn w' F p M
 wf : ∀ {w F p M}, Bn w F p M -> M.Wf
 read : ∀ {w F p M} (d n : Int), Bn w F p M -> Calls prog I.read #[.pointer (some ⟨p, 0, none⟩), .int .i64 d, .int .i64 n] w fun e w' => e = .returned (.tuple #[blk (dY M d n), .int .i64 (ct M d n)]) /\ Below w.heap.size w w'
 write : ∀ {w F p M} (d n : Int) (b : Blk), Room M 1 -> Bn w F p M -> Calls prog I.write #[.pointer (some ⟨p, 0, none⟩), .int .i64 d, .int .i64 n, blk b] w fun e w' => e = .returned (.int .i64 (jL M d n)) /\ ∃ F', Bn w' F' p (eg M d n b) /\ Only F w w' /\ Grow w F F'
 flush : ∀ {w F p M} (d : Int), Room M 1 -> Bn w F p M -> Calls prog I.flush #[.pointer (some ⟨p, 0, none⟩), .int .i64 d] w fun e w' => e = .returned (.int .i64 (hZ M d)) /\ ∃ F', Bn w' F' p (fk M d) /\ Only F w w' /\ Grow w F F'
 fail : ∀ {w F p M} (d : Int), Bn w F p M -> Calls prog I.fail #[.pointer (some ⟨p, 0, none⟩), .int .i64 d] w fun e w' => e = .returned (.int .i64 (mc M d)) /\ ∃ F', Bn w' F' p (gv M d) /\ Only F w w' /\ Grow w F F'
 arm : ∀ {w F p M} (n : Int), Bn w F p M -> Calls prog I.arm #[.pointer (some ⟨p, 0, none⟩), .int .i64 n] w fun e w' => e = .returned (.int .i64 (jN M n)) /\ ∃ F', Bn w' F' p (f8 M n) /\ Only F w w' /\ Grow w F F'
 devices : ∀ {w F p M}, Bn w F p M -> Calls prog I.devices #[.pointer (some ⟨p, 0, none⟩)] w fun e w' => e = .returned (.int .i64 (M.ds.length : Int)) /\ Below w.heap.size w w'
 eh : ∀ {w F p M} (d : Int), Bn w F p M -> Calls prog I.eh #[.pointer (some ⟨p, 0, none⟩), .int .i64 d] w fun e w' => e = .returned (.int .i64 (dG M d)) /\ Below w.heap.size w w'
 cf : ∀ {w F p M}, Bn w F p M -> Calls prog I.cf #[.pointer (some ⟨p, 0, none⟩)] w fun e w' => e = .returned (.bool M.cf) /\ Below w.heap.size w w'
theorem Ben.below {I : tD} (R : Ben I) {w w' : World} {F : Nat -> Prop} {p : Nat} {M : aR} (h : R.Bn w F p M) (k : Below w.heap.size w w') : R.Bn w' F p M := R.only h (Only.of_below (fun _ => False) k) fun _ _ e => e
section
variable {k : fM} {w w' : World} {F G : Nat -> Prop} {p : Nat} {M M' : aR}
def acK (Bn : World -> (Nat -> Prop) -> Nat -> aR -> Prop) (w : World) (ks : List Int) (e : Ending) (w' : World) : Prop :=
 Below w.heap.size w w' /\ ((gW ks /\ ∃ p F, e = .returned (.tuple #[.pointer (some ⟨p, 0, none⟩), .int .i64 0]) /\ Bn w' F p (cp ks) /\ ∀ b, F b -> w.heap.size <= b) \/ (¬ gW ks /\ e = .returned (.tuple #[.pointer none, .int .i64 2])))
def At {I : tD} (R : Ben I) (w0 : World) (B : Nat) (w : World) (p : Nat) (M : aR) : Prop := ∃ F, R.Bn w F p M /\ (∀ b, F b -> B <= b) /\ Below B w0 w /\ B <= w0.heap.size
def InB (k : fM) (w : World) (F : Nat -> Prop) (p : Nat) (M : aR) : Prop := ∃ v Fs ps, F = gx p v Fs M.ds.length /\ bL k w p v Fs ps M
theorem InB.lt (h : InB k w F p M) : ∀ b, F b -> b < w.heap.size := by
 obtain ⟨v, Fs, ps, rfl, h⟩ := h;exact h.lt
theorem InB.only (h : InB k w F p M) (ho : Only G w w') (hn : ∀ b, F b -> ¬ G b) : InB k w' F p M := by
 obtain ⟨v, Fs, ps, rfl, h⟩ := h;exact ⟨v, Fs, ps, rfl, h.only ho hn⟩
theorem Left.out {v : Value} {Fs : Nat -> Nat -> Prop} {ps : List Nat} (h : Left k w p v Fs ps M.ds.length M' w') : ∃ F', InB k w' F' p M' /\ Only (gx p v Fs M.ds.length) w w' /\ Grow w (gx p v Fs M.ds.length) F' := by
 obtain ⟨Fs', ps', h1, h2, h3⟩ := h;exact ⟨_, ⟨v, Fs', ps', rfl, h1⟩, h2, h3⟩
end
def adH : tD where
 read := 81
 write := 9
 flush := 15
 fail := 11
 arm := 13
 devices := 25
 eh := 94
 cf := 78
theorem Dev.adI {D : Dev} {w : World} {p : Nat} {v : Value} {Fs : Nat -> Nat -> Prop} {ps : List Nat} {M : aR} (h : bL (cm D) w p v Fs ps M) : M.Wf :=
 ⟨h.one, h.cap, fun i hi => ⟨(D.fit (h.devs.at_ i hi)).2, D.cap (h.devs.at_ i hi)⟩⟩
def ad0 (D : Dev) : Ben adH where
 Bn := InB (cm D)
 lt := InB.lt
 only := InB.only
 wf := fun ⟨_, _, _, _, h⟩ => D.adI h
 read := fun d n ⟨_, _, _, _, h⟩ => acO d n h
 write := fun d n b hr ⟨_, _, _, e, h⟩ => by
  subst e;exact (aaa d n b h (fun i hi => hr.at_ hi) (by have := hr.1; omega) hr.2.1).mono fun e w' ⟨h1, h2⟩ => ⟨h1, h2.out⟩
 flush := fun d hr ⟨_, _, _, e, h⟩ => by
  subst e;exact (aaQ d h (by have := hr.1; omega) hr.2.1).mono fun e w' ⟨h1, h2⟩ => ⟨h1, h2.out⟩
 fail := fun d ⟨_, _, _, e, h⟩ => by
  subst e;exact (abY d h).mono fun e w' ⟨h1, h2⟩ => ⟨h1, h2.out⟩
 arm := fun {w F p M} n ⟨_, _, _, e, h⟩ => by
  subst e;exact (ado n h).mono fun e w' ⟨h1, h2, h3⟩ => ⟨h1, (Left.obj h2 h3 (by unfold f8; split <;> rfl)).out⟩
 devices := fun ⟨_, _, _, _, h⟩ => (ou h).mono fun e w' ⟨h1, h2⟩ => ⟨h1, fH h2⟩
 eh := fun d ⟨_, _, _, _, h⟩ => wq d h
 cf := fun ⟨_, _, _, _, h⟩ => (tk h).mono fun e w' ⟨h1, h2⟩ => ⟨h1, fH h2⟩
theorem eX.hid {k : fM} {w w' : World} {ks : List Int} {e : Ending} (h : eX k w ks e w') : acK (InB k) w ks e w' := by
 obtain ⟨h1, h | h⟩ := h
 ·obtain ⟨h0, p, v, Fs, ps, h2, h3, h4⟩ := h;exact ⟨h1, .inl ⟨h0, p, _, h2, ⟨v, Fs, ps, rfl, h3⟩, h4⟩⟩
 ·exact ⟨h1, .inr h⟩
structure n6 extends Ben adH where
 new : ∀ {w A n c ks}, RdE je w w.heap.size A n ks -> n <= c -> c <= maxLen -> Calls prog 34 #[.slice A n c] w (acK Bn w ks)
def a8 : n6 where
 toBen := ad0 acS
 new := fun h1 h2 h3 => (ady h1 h2 h3).mono fun _ _ h => h.hid
def piece (b : List UInt8) (at_ k : Nat) : List UInt8 := (b.drop at_).take k
theorem co {b : List UInt8} {p k : Nat} (h : p + k <= b.length) : (piece b p k).length = k := by simp [piece]; omega
def ofL (l : List UInt8) : Blk := Vector.ofFn fun i => l.getD i.val 0
theorem mh (l : List UInt8) {j : Nat} (h : j < 64) : byt (ofL l) j = bt l j := by
 rw [kF _ h];simp [ofL, bt]
theorem tG {l : List UInt8} (h : l.length = 64) : (ofL l).toList = l := eB (by simp [h]) fun k hk => mh l (by simpa using hk)
theorem tq (b : Blk) : ofL b.toList = b := uf fun j h => mh _ h
theorem cJ (b : Blk) : b.toList.length = 64 := by simp
theorem gh {l : List UInt8} {p k j : Nat} (h : j < k) : bt (piece l p k) j = bt l (p + j) := by
 unfold bt piece;simp [List.getD, List.getElem?_take_of_lt h, List.getElem?_drop]
theorem jq (x y z : List UInt8) {p k : Nat} (hp : x.length = p) (hk : y.length = k) : piece (x ++ (y ++ z)) p k = y := by
 subst hp hk;simp [piece]
theorem ko (y z : List UInt8) {k : Nat} (hk : y.length = k) : piece (y ++ z) 0 k = y := by
 subst hk;simp [piece]
theorem eH {x y : List UInt8} {j : Nat} (h : j < x.length) : bt (x ++ y) j = bt x j := by
 unfold bt;simp [List.getD, List.getElem?_append_left h]
theorem eK {x y : List UInt8} {j : Nat} (h : x.length <= j) : bt (x ++ y) j = bt y (j - x.length) := by
 unfold bt;simp [List.getD, List.getElem?_append_right h]
theorem km {n j : Nat} : bt (List.replicate n 0) j = 0 := by
 unfold bt;by_cases h : j < n
 ·simp [List.getD, h]
 ·simp [List.getD, h]
theorem gV {l x : List UInt8} {off j : Nat} (h : off + x.length <= l.length) : bt (splice l off x) j = if off <= j /\ j < off + x.length then bt x (j - off) else bt l j := by
 unfold splice;have h1 : (l.take off).length = off := by simp; omega
 by_cases hlo : j < off
 ·rw [if_neg (by omega), eH (by omega)];unfold bt;simp [List.getD, List.getElem?_take_of_lt hlo]
 ·rw [eK (by omega), h1];by_cases hhi : j < off + x.length
  ·rw [if_pos (by omega), eH (by omega)]
  ·rw [if_neg (by omega), eK (by omega)];unfold bt;simp only [List.getD, List.getElem?_drop];rw [show off + x.length + (j - off - x.length) = j from by omega]
theorem lS (s : Int) (w : World) (h1 : 1 <= s) (h2 : s <= 8) : Calls prog 142 #[.int .i64 s] w fun e w' => e = .returned (.bool true) /\ w = w' := by
 go_enter func142, ntmps142;go_wp2;go_ret;exact ⟨rfl, rfl⟩
def sB (n k : Nat) : Bool := decide (n < 2 ^ k)
theorem rC (n : Nat) (c : Int) (w : World) (h0 : 0 <= c) (h64 : c <= 64) : Calls prog 143 #[.int .u64 n, .int .i64 c] w fun e w' => e = .returned (.bool (sB n c.toNat)) /\ w = w' := by
 obtain ⟨k, rfl⟩ := Int.eq_ofNat_of_zero_le h0;rw [Int.toNat_natCast];go_enter func143, ntmps143;go_wp2;go_ret;refine ⟨bp ?_, rfl⟩;have e : ((n : Int) / 2 ^ k) = ((n / 2 ^ k : Nat) : Int) := by simp
 rw [e];unfold sB;have h2 : 0 < 2 ^ k := Nat.pow_pos (by omega);rw [Bool.eq_iff_iff];simp only [beq_iff_eq, decide_eq_true_eq];rw [<- Nat.div_eq_zero_iff_lt h2];omega
theorem yz (n k j : Nat) (h : j < k) : bt (aU 8 k n) j = (n : Int) / 2 ^ (j * 8) % 256 := by
 have hl : j < (aU 8 k n).length := by rw [aD]; exact h
 rw [cZ hl, fN (by omega) hl, Nat.mul_comm 8 j];simp
theorem xy (n k : Nat) (w : World) (h1 : 1 <= k) (h2 : k <= 8) (hn : n < 256 ^ k) :
  Calls prog 129 #[.int .u64 n, .int .i64 k] w fun e w' => ∃ v, e = .returned (.tuple #[v, .int .i64 0]) /\ Own w' w.heap.size v (aU 8 k n) /\ Below w.heap.size w w' := by
 have hf : sB n (k * 8) = true := by
  have e : (2 : Nat) ^ (k * 8) = 256 ^ k := by rw [Nat.mul_comm, Nat.pow_mul]
  unfold sB;rw [e]
  simpa using hn
 have HF := ae hf;clear hf;have hmk := fun (kl kc : IntKind) (m : Nat) (h1 : 1 * m <= 281474976710656) (h2 : m <= 9223372036854775807) (W : World) => run_make_row' (P := prog) 116 5 (.int .u8 0) 1 underlying116 kb rfl kl kc m h1 h2 W
 have hmk1 := hmk .i64 .i64 k (by omega) (by omega);clear hmk;go_enter func129, ntmps129;go_wp2_with (first | (go_at_call 142; refine (lS _ _ (by omega) (by omega)).mono ?_; rintro e w' ⟨rfl, rfl⟩));refine (rC _ _ _ (by omega) (by omega)).mono ?_;rintro e w' ⟨rfl, rfl⟩;rw [show ((k : Int) * 8).toNat = k * 8 from by omega, HF.out];go_wp2;clear hmk1;have hr0 := World.rowIs_made w (Value.int .u8 0) k 5;obtain ⟨g, hg⟩ : ∃ g, g = w.heap.size := ⟨_, rfl⟩;rw [<- hg] at hr0 ⊢;have hbl0 : Below g w (w.alloc (.cells (madeCells #[Value.int .u8 0] k) 5)) := by rw [hg]; exact aj.alloc ai _
 have HG := ae hg;clear hg HF
 go_loopw [21] (fun i wr => ∃ (j : Nat) (f : Nat -> Int), j <= k /\ i = .int .i64 j /\ wr.rowIs g 5 k (fun j => .int .u8 (f j)) /\ (∀ m, m < j -> f m = bt (aU 8 k n) m) /\ (∀ m, 0 <= f m /\ f m <= 255) /\ Below g w wr) (fun i _ => k - (intOf i).toNat)
 case atStart => exact ⟨0, fun _ => 0, Nat.zero_le _, rfl, hr0, fun j hj => absurd hj (by omega), fun _ => by simp, hbl0⟩
 case round =>
  obtain ⟨j, f, hj, rfl, hrow, hf, hr, hbl⟩ := hrel;by_cases hlt : j < k
  ·have hc := hrow.cell hlt;have hfr := hrow.frozen j;have HFF := ae hf;have HR := ae hr;clear hf hr;go_wp2;go_roundw
   case rel =>
    refine ⟨j + 1, _, by omega, by go_num, (hrow.set j _).congr (g := fun m => .int .u8 (if m = j then bt (aU 8 k n) j else f m)) ?_, ?_, ?_, hbl.setCell ai _⟩
    ·intro m hm
     show (if m = j then Value.int IntKind.u8 (↑n / 2 ^ (j * 8) % 256) else Value.int .u8 (f m)) = _
     split
     ·rw [yz n k j hlt]
     ·rfl
    ·intro m hm
     show (if m = j then bt (aU 8 k n) j else f m) = _
     split
     ·subst m; rfl
     ·exact HFF.out m (by omega)
    ·intro m
     show 0 <= (if m = j then bt (aU 8 k n) j else f m) /\ (if m = j then bt (aU 8 k n) j else f m) <= 255
     split
     ·exact ⟨gM _ _, jU _ _⟩
     ·exact HR.out m
   case measure => simp [intOf]; omega
  ·go_wp2;go_ret2;have hjk : j = k := by omega
   subst hjk;refine ⟨_, rfl, Own.sf (aD 8 j n) (Nat.le_of_eq HG.out.symm) hrow ai (by unfold maxLen; omega) hf hr, ?_⟩;rw [<- HG.out];exact hbl
theorem i6 {b : List UInt8} {p k : Nat} (h : p + k < b.length) : (val 8 (piece b p (k + 1)) : Int) = val 8 (piece b p k) + 2 ^ (k * 8) * bt b (p + k) := by
 have hk : k < (b.drop p).length := by simp; omega
 have e : piece b p (k + 1) = piece b p k ++ [b[p + k]] := by
  unfold piece;rw [List.take_succ_eq_append_getElem hk];simp
 rw [e, val_append, co (by omega), cZ h, Nat.mul_comm 8 k];rw [uM];push_cast
 rfl
theorem mR {b : List UInt8} {p k : Nat} (h : p < b.length) : (val 8 (piece b p (k + 1)) : Int) = 256 * val 8 (piece b (p + 1) k) + bt b p := by
 have e : piece b p (k + 1) = b[p] :: piece b (p + 1) k := by
  unfold piece;rw [List.drop_eq_getElem_cons h, List.take_succ_cons]
 rw [e, val, cZ h, show (2 : Nat) ^ 8 = 256 from rfl];omega
theorem cP {b : List UInt8} {p k : Nat} (h : p + k <= b.length) : val 8 (piece b p k) < 2 ^ (k * 8) := by
 have := mV (o9 (piece b p k));rwa [co h, Nat.mul_comm] at this
theorem xA {s : Nat} (x : Nat) (h1 : x <= 255) (hs : s <= 56) : x * 2 ^ s <= 18446744073709551615 := by
 have h2 : 2 ^ s <= 2 ^ 56 := Nat.pow_le_pow_right (by omega) hs;have h3 : x * 2 ^ s <= 255 * 2 ^ 56 := Nat.mul_le_mul h1 h2;omega
theorem acy {V s : Nat} {x : Int} (h0 : 0 <= x) (h1 : x <= 255) (hs : s <= 56) (hV : V < 2 ^ s) :
  bits .or .u64 (V : Int) (IntKind.u64.wrap (x * 2 ^ s)) = V + 2 ^ s * x := by
 obtain ⟨m, rfl⟩ := Int.eq_ofNat_of_zero_le h0;have hf := xA (s := s) m (by omega) hs;have hV' : V < 18446744073709551616 := by
  have h2 : 2 ^ s <= 2 ^ 56 := Nat.pow_le_pow_right (by omega) hs;omega
 have e : ((m : Int) * 2 ^ s) = ((m * 2 ^ s : Nat) : Int) := by push_cast; rfl
 rw [e, IntWalk.u64_in _ ⟨by omega, by omega⟩, u64_or_nat V _ hV' (by omega), Nat.or_comm, nat_join s _ _ (Nat.mul_mod_left m (2 ^ s)) hV];push_cast;rw [Int.mul_comm (2 ^ s) (m : Int), Int.add_comm]
theorem xM (A : Option Addr) (n c N : Nat) (b : List UInt8) (p k : Nat) (w : World) (hb : Rd w N A n b) (hn : n <= maxLen) (h1 : 1 <= k) (h2 : k <= 8) (h3 : p + k <= n) :
  Calls prog 137 #[.slice A n c, .int .i64 p, .int .i64 k] w fun e w' => e = .returned (.tuple #[.int .u64 (val 8 (piece b p k)), .int .i64 0]) /\ w = w' := by
 unfold maxLen at hn;go_enter func137, ntmps137;go_wp2_with (first | (go_at_call 142; refine (lS _ _ (by omega) (by omega)).mono ?_; rintro e w' ⟨rfl, rfl⟩))
 go_loop [8, 30] (fun x i => ∃ j : Nat, j <= k /\ i = .int .i64 j /\ x = .int .u64 (val 8 (piece b p j))) (fun _ i => k - (intOf i).toNat)
 case atStart => exact ⟨0, Nat.zero_le _, rfl, by simp [piece, val]⟩
 case round =>
  obtain ⟨j, hj, rfl, rfl⟩ := hrel;by_cases hlt : j < k
  ·obtain ⟨bA, oA, rfl, hA, cA⟩ := hb.2 (p + j) (by omega);have hlo := gM b (p + j);have hhi := jU b (p + j);go_wp2
   go_round
   case rel =>
    refine ⟨j + 1, by omega, by go_num, ?_⟩;rw [i6 (by have := hb.1; omega), acy hlo hhi (by omega) (cP (by have := hb.1; omega))]
   case measure => simp [intOf]; omega
  ·go_wp2;go_ret2;have e : j = k := by omega
   subst e;exact ⟨rfl, rfl⟩
theorem qv {V j : Nat} (h : V < 2 ^ (j * 8)) (hj : j <= 7) : 256 * V + 255 <= 18446744073709551615 := by
 have h2 : 2 ^ (j * 8) <= 2 ^ 56 := Nat.pow_le_pow_right (by omega) (by omega);omega
theorem dU (A : Option Addr) (n c N : Nat) (b : List UInt8) (p k : Nat) (w : World) (hb : Rd w N A n b) (hn : n <= maxLen) (h1 : 1 <= k) (h2 : k <= 8) (h3 : p + k <= n) :
  Calls prog 107 #[.slice A n c, .int .i64 p, .int .i64 k] w fun e w' => e = .returned (.tuple #[.int .u64 (val 8 (piece b p k)), .int .i64 0]) /\ w = w' := by
 unfold maxLen at hn;go_enter func107, ntmps107;go_wp2
 go_loop [8, 9] (fun x i => ∃ j : Nat, j <= k /\ i = .int .i64 ((j : Int) - 1) /\ x = .int .u64 (val 8 (piece b (p + j) (k - j)))) (fun _ i => (intOf i + 1).toNat)
 case atStart => exact ⟨k, ai, rfl, by simp [piece, val]⟩
 case round =>
  obtain ⟨j, hj, rfl, rfl⟩ := hrel;by_cases hlt : 0 < j
  ·obtain ⟨i, rfl⟩ : ∃ i, j = i + 1 := ⟨j - 1, by omega⟩;obtain ⟨bA, oA, rfl, hA, cA⟩ := hb.2 (p + i) (by omega);have hlo := gM b (p + i);have hhi := jU b (p + i);have hv := cP (b := b) (p := p + (i + 1)) (k := k - (i + 1)) (by have := hb.1; omega);have hv2 := qv hv (by omega);clear hv;rw [show ((i + 1 : Nat) : Int) - 1 = (i : Int) from by omega];go_wp2
   go_round
   case rel =>
    refine ⟨i, by omega, rfl, ?_⟩;have h3 := mR (b := b) (p := p + i) (k := k - (i + 1)) (by have := hb.1; omega);rw [show k - (i + 1) + 1 = k - i from by omega] at h3;rw [h3, Nat.add_assoc]
   case measure => simp [intOf]
  ·have e : j = 0 := by omega
   subst e;go_wp2;go_ret2;exact ⟨rfl, rfl⟩
theorem y5 (n k B : Nat) (w : World) (HB : Hid (B = w.heap.size)) (hn : n < 18446744073709551616) (h1 : 1 <= k) (h2 : k <= 8) :
  Calls prog 98 #[.int .u64 n, .int .i64 k] w fun e w' =>
   ((n < 2 ^ (8 * k) -> ∃ v, e = .returned (.tuple #[v, .int .i64 0]) /\ Made w' B v (aU 8 k n)) /\ (¬ n < 2 ^ (8 * k) -> e = .returned (.tuple #[.slice none 0 0, .int .i64 2]))) /\ Below B w w' := by
 obtain ⟨i0, hi, hz0, hz1, hz2⟩ := info_parts kb;go_enter func98, ntmps98;go_wp2;have hBle : B <= w.heap.size := Nat.le_of_eq HB
 go_loopw [0, 6, 7] (fun x v i wr => ∃ j : Nat, j <= k /\ i = .int .i64 j /\ x = .int .u64 ((n / 2 ^ (8 * j) : Nat) : Int) /\ Made wr B v (aU 8 j n) /\ Below B w wr) (fun _ _ i _ => k - (intOf i).toNat)
 case atStart => exact ⟨0, Nat.zero_le _, rfl, by simp, World.ownsRow_nil _ _ _ _, aj⟩
 case round =>
  obtain ⟨j, hj, rfl, rfl, hm, hbl⟩ := hrel;by_cases hlt : j < k
  ·have hown := hm.own (aD 8 j n);have hsz : B <= wr.heap.size := ap hBle hbl.size;have hq : n / 2 ^ (8 * j) <= n := Nat.div_le_self _ _;have hm' := ae hm;have hE : Hid (n / 2 ^ (8 * (j + 1)) = n / 2 ^ (8 * j) / 256 /\ aU 8 (j + 1) n = aU 8 j n ++ [UInt8.ofNat (n / 2 ^ (8 * j) % 256)]) := ⟨by rw [Nat.div_div_eq_div_mul, Nat.mul_succ, Nat.pow_add], fX 8 j n⟩;clear hm;generalize n / 2 ^ (8 * j) = q at *;go_wp2_with (at_builtin; refine wpList_append_own _ rfl _ _ 116 rfl B 5 i0 (.int .u8 0) 1 1 underlying116 hi hz0 hz1 hz2 rfl (by decide) _ _ _ rfl (hown.alloc _) ⟨wr.heap.size, 0, none⟩ 1 1 [.int .u8 ((q : Int) % 256)] rfl rfl ?c1 ?c2 ?c3 ?c4 ?c5 ?_)
   case c1 => exact cell_one_new _ _ _
   case c2 => intro u hu; simp at hu; subst hu; rfl
   case c3 => unfold maxLen; omega
   case c4 => omega
   case c5 => simp; omega
   intro v' w1 hown1 hg1 _;have hx : ((q : Int) % 256) = ((UInt8.ofNat (q % 256)).toNat : Int) := by rw [UInt8.toNat_ofNat']; omega
   obtain ⟨hm1, hb1⟩ := Made.push (hm'.out) hbl hsz hx hown1 hg1;have hm1' := ae hm1;clear hm1 hown1 hg1 hown hx hm';go_wp2;go_roundw
   case rel =>
    refine ⟨j + 1, by omega, by go_num, ?_, ?_, hb1⟩
    ·rw [hE.out.1]; simp
    ·rw [hE.out.2]; exact hm1'.out
   case measure => simp [intOf]; omega
  ·have e : j = k := by omega
   subst e;have h0 : 0 < 2 ^ (8 * j) := Nat.pow_pos (by omega);by_cases hq : n < 2 ^ (8 * j)
   ·rw [Nat.div_eq_of_lt hq];go_wp2;go_ret2;exact ⟨⟨fun _ => ⟨_, rfl, hm⟩, fun h => absurd hq h⟩, hbl⟩
   ·have hq0 : 0 < n / 2 ^ (8 * j) := Nat.div_pos (by omega) h0;generalize n / 2 ^ (8 * j) = q at *;go_wp2;go_ret2;exact ⟨⟨fun h => absurd h hq, fun _ => rfl⟩, hbl⟩
def dM (b : List UInt8) : List UInt8 := b ++ List.replicate (44 - b.length) 0
def dl (n : Nat) (b : List UInt8) : List UInt8 := aU 8 8 n ++ dM b
def cY (n : Nat) (b : List UInt8) : List UInt8 := dl n b ++ (aU 8 4 (more 0 (dl n b)) ++ aU 8 8 n)
theorem eu {b : List UInt8} (h : b.length <= 44) : (dM b).length = 44 := by simp [dM]; omega
theorem dW {b : List UInt8} (n : Nat) (h : b.length <= 44) : (dl n b).length = 52 := by simp [dl, aD, eu h]
theorem fQ {b : List UInt8} (n : Nat) (h : b.length <= 44) : (cY n b).length = 64 := by simp [cY, aD, dW n h]
def dF (l : List UInt8) : Nat := val 8 (piece l 0 8)
def agO (l : List UInt8) : Nat := val 8 (piece l 56 8)
def jQ (l : List UInt8) : Nat := val 8 (piece l 52 4)
def jO (l : List UInt8) : Nat := more 0 (piece l 0 52)
def db (l : List UInt8) : Nat := if dF l = 0 \/ dF l ≠ agO l then 5 else if jQ l ≠ jO l then 6 else 0
def c8 (l : List UInt8) : Nat := if db l = 0 then dF l else 0
def cH (l : List UInt8) : List UInt8 := if db l = 0 then piece l 8 44 else []
theorem gQ {l : List UInt8} (h : dF l = 0 \/ dF l ≠ agO l) : db l = 5 := by unfold db; rw [if_pos h]
theorem pU {l : List UInt8} (h0 : dF l ≠ 0) (h1 : dF l = agO l) (h : jQ l ≠ jO l) : db l = 6 := by
 unfold db;rw [if_neg (by omega), if_pos h]
theorem pw {l : List UInt8} (h0 : dF l ≠ 0) (h1 : dF l = agO l) (h : jQ l = jO l) : db l = 0 := by
 unfold db;rw [if_neg (by omega), if_neg (by omega)]
theorem t5 {l : List UInt8} (h : db l = 0) : dF l ≠ 0 /\ dF l = agO l /\ jQ l = jO l := by
 unfold db at h
 split at h
 ·omega
 ·split at h
  ·omega
  ·omega
theorem kD {l : List UInt8} (h : db l = 0) : c8 l = dF l := if_pos h
theorem iv {l : List UInt8} (h : db l ≠ 0) : c8 l = 0 := if_neg h
theorem kt {l : List UInt8} (h : db l = 0) : cH l = piece l 8 44 := if_pos h
theorem jE {l : List UInt8} (h : db l ≠ 0) : cH l = [] := if_neg h
theorem vg {l : List UInt8} : c8 l = 0 ↔ db l ≠ 0 := by
 constructor
 ·intro h e;rw [kD e] at h;exact (t5 e).1 h
 ·exact iv
theorem aan {l : List UInt8} (h : l.length = 64) : dF l < 18446744073709551616 := cP (b := l) (p := 0) (k := 8) (by omega)
theorem mz {l : List UInt8} (h : l.length = 64) : jQ l < 4294967296 := cP (b := l) (p := 52) (k := 4) (by omega)
theorem mq (l : List UInt8) : jO l < 4294967296 := mC (by omega) _
theorem zY {l : List UInt8} (h : l.length = 64) : c8 l < 18446744073709551616 := by
 have := aan h;unfold c8
 split <;> omega
theorem tm (n : Nat) (b : List UInt8) : piece (cY n b) 0 8 = aU 8 8 n := by
 rw [show cY n b = aU 8 8 n ++ (dM b ++ (aU 8 4 (more 0 (dl n b)) ++ aU 8 8 n)) from by simp [cY, dl]];exact ko _ _ (aD _ _ _)
theorem ni {n : Nat} {b : List UInt8} (hn : n < 18446744073709551616) : dF (cY n b) = n := by
 unfold dF;rw [tm, lg (by omega)];exact Nat.mod_eq_of_lt hn
section
variable {n : Nat} {b : List UInt8} (hb : b.length <= 44)
include hb
theorem wj : piece (cY n b) 56 8 = aU 8 8 n := by
 rw [show cY n b = (dl n b ++ aU 8 4 (more 0 (dl n b))) ++ (aU 8 8 n ++ []) from by simp [cY]];exact jq _ _ _ (by simp [dW n hb, aD]) (aD _ _ _)
theorem yQ : piece (cY n b) 52 4 = aU 8 4 (more 0 (dl n b)) := jq _ _ _ (dW n hb) (aD _ _ _)
theorem uO : piece (cY n b) 0 52 = dl n b := ko _ _ (dW n hb)
theorem wM : piece (cY n b) 8 44 = dM b := by
 rw [show cY n b = aU 8 8 n ++ (dM b ++ (aU 8 4 (more 0 (dl n b)) ++ aU 8 8 n)) from by simp [cY, dl]];exact jq _ _ _ (aD _ _ _) (eu hb)
theorem aaT (hn : n < 18446744073709551616) : agO (cY n b) = n := by
 unfold agO;rw [wj hb, lg (by omega)];exact Nat.mod_eq_of_lt hn
theorem pv (hn : n < 18446744073709551616) (h0 : n ≠ 0) : db (cY n b) = 0 := by
 refine pw (by rw [ni hn]; exact h0) (by rw [ni hn, aaT hb hn]) ?_;unfold jQ jO;rw [yQ hb, uO hb, lg (by omega)];exact Nat.mod_eq_of_lt (mC (by omega) _)
theorem uW (hn : n < 18446744073709551616) (h0 : n ≠ 0) : c8 (cY n b) = n := by rw [kD (pv hb hn h0), ni hn]
theorem wk (hn : n < 18446744073709551616) (h0 : n ≠ 0) : cH (cY n b) = dM b := by rw [kt (pv hb hn h0), wM hb]
end
def el (n : Nat) (b : List UInt8) : Nat := if n = 0 then 2 else if 44 < b.length then 3 else 0
def dK (n : Nat) (b : List UInt8) : Blk := if el n b = 0 then ofL (cY n b) else aF
theorem mg {n : Nat} {b : List UInt8} (h0 : n ≠ 0) (hb : b.length <= 44) : el n b = 0 := by unfold el; rw [if_neg h0, if_neg (by omega)]
theorem ii {n : Nat} {b : List UInt8} (h : el n b = 0) : n ≠ 0 /\ b.length <= 44 := by
 unfold el at h
 split at h
 ·omega
 ·split at h <;> omega
theorem la {n : Nat} {b : List UInt8} (h : el n b = 0) : dK n b = ofL (cY n b) := if_pos h
theorem ln {n : Nat} {b : List UInt8} (h : el n b = 0) : (dK n b).toList = cY n b := by
 rw [la h, tG (fQ n (ii h).2)]
theorem xp {n : Nat} {b : List UInt8} (hn : n < 18446744073709551616) (h : el n b = 0) : db (dK n b).toList = 0 := by
 rw [ln h]; exact pv (ii h).2 hn (ii h).1
theorem yi {n : Nat} {b : List UInt8} (hn : n < 18446744073709551616) (h : el n b = 0) : c8 (dK n b).toList = n := by
 rw [ln h]; exact uW (ii h).2 hn (ii h).1
theorem mL {n : Nat} {b : List UInt8} (hn : n < 18446744073709551616) (h : el n b = 0) : cH (dK n b).toList = dM b := by
 rw [ln h]; exact wk (ii h).2 hn (ii h).1
theorem oK : db aF.toList = 5 := gQ (.inl (by decide +kernel))
def evB (n : Nat) : Bool := decide (1 <= n /\ n <= 4611686018427387904)
theorem rW {n : Nat} (h : evB n = true) : 1 <= n /\ n <= 4611686018427387904 := of_decide_eq_true h
theorem oD {b : List UInt8} (h : b.length = 44) : dM b = b := by simp [dM, h]
theorem vY {b : List UInt8} (n : Nat) (h : b.length <= 44) : dl n (dM b) = dl n b := by unfold dl; rw [oD (eu h)]
theorem jI {b : List UInt8} (n : Nat) (h : b.length <= 44) : cY n (dM b) = cY n b := by unfold cY; rw [vY n h]
theorem gw {k n : Nat} (h : n < 2 ^ (8 * k)) : val 8 (aU 8 k n) = n := by rw [lg (by omega), Nat.mod_eq_of_lt h]
theorem li (l : List UInt8) (p a b : Nat) : piece l p a ++ piece l (p + a) b = piece l p (a + b) := by
 unfold piece;rw [List.take_add, List.drop_drop]
theorem ls {l : List UInt8} {p k : Nat} (h : p + k <= l.length) : aU 8 k (val 8 (piece l p k)) = piece l p k := by
 have := qw (o9 (piece l p k));rwa [co h] at this
theorem wu {l : List UInt8} (hl : l.length = 64) (h : db l = 0) : cY (dF l) (piece l 8 44) = l := by
 obtain ⟨_, h1, h2⟩ := t5 h;have e1 : aU 8 8 (dF l) = piece l 0 8 := ls (by omega);have e2 : dl (dF l) (piece l 8 44) = piece l 0 52 := by
  unfold dl;rw [e1, oD (co (by omega))];exact li l 0 8 44
 have e3 : aU 8 4 (more 0 (piece l 0 52)) = piece l 52 4 := by
  have : more 0 (piece l 0 52) = val 8 (piece l 52 4) := h2.symm;rw [this];exact ls (by omega)
 have e4 : aU 8 8 (dF l) = piece l 56 8 := by rw [h1]; exact ls (by omega)
 unfold cY;rw [e2, e3, e4, li l 52 4 8, li l 0 52 12];unfold piece;rw [List.drop_zero, List.take_of_length_le (by omega)]
theorem jC (b : Blk) : c8 b.toList < 18446744073709551616 := zY (by simp)
theorem et {b : Blk} (h : db b.toList = 0) : (cH b.toList).length = 44 := by rw [kt h]; exact co (by simp)
theorem rK {b : Blk} (h : db b.toList = 0) : ofL (cY (c8 b.toList) (cH b.toList)) = b := by
 rw [kD h, kt h, wu (by simp) h, tq]
structure Ros where
 m : Int
 s : Int
 r : Int
 st : Vector UInt8 16
 cur : Int
 gone : Bool
deriving DecidableEq
def bK : Ros := ⟨0, 0, 0, Vector.replicate 16 0, 0, false⟩
def sta (x : Ros) (j : Nat) : Int := bt x.st.toList j
def fG (l : List UInt8) : Nat -> Nat
 |0 => 0
 |k + 1 => fG l k + (if bt l k = 2 then 1 else 0)
def dc (x : Ros) : Nat := fG x.st.toList 16
theorem m8 (l : List UInt8) (k : Nat) : fG l k <= k := by
 induction k with
 |zero => exact ai
 |succ k ih => unfold fG; split <;> omega
def ez (x : Ros) : Bool := decide (3 <= x.m /\ x.m <= 16 /\ 1 <= x.s /\ x.s <= 64 /\ 40 <= x.r /\ x.r <= 256)
def fj (x : Ros) : Bool := (List.range 16).all fun j => decide (sta x j <= 2) && (!decide (x.m <= (j : Int)) || decide (sta x j = 0))
theorem hU {x : Ros} : fj x = true ↔ ((∀ j, j < 16 -> sta x j <= 2) /\ (∀ j : Nat, j < 16 -> x.m <= (j : Int) -> sta x j = 0)) := by
 unfold fj;simp only [List.all_eq_true, List.mem_range, Bool.and_eq_true, decide_eq_true_eq, Bool.or_eq_true, Bool.not_eq_true', decide_eq_false_iff_not]
 constructor
 ·exact fun h => ⟨fun j hj => (h j hj).1, fun j hj hm => (h j hj).2.elim (fun h2 => absurd hm h2) id⟩
 ·rintro ⟨h1, h2⟩ j hj;refine ⟨h1 j hj, ?_⟩;by_cases hm : x.m <= (j : Int)
  ·exact .inr (h2 j hj hm)
  ·exact .inl hm
def bn (x : Ros) : Bool := ez x && fj x && decide (dc x <= 1) && decide (0 <= x.cur /\ x.cur < x.s /\ (dc x = 1 \/ x.cur = 0))
theorem eI {x : Ros} (h : ez x = true) : 3 <= x.m /\ x.m <= 16 /\ 1 <= x.s /\ x.s <= 64 /\ 40 <= x.r /\ x.r <= 256 := of_decide_eq_true h
theorem iu {x : Ros} (h : fj x = true) : (∀ j, j < 16 -> sta x j <= 2) /\ (∀ j : Nat, j < 16 -> x.m <= (j : Int) -> sta x j = 0) := hU.1 h
theorem dy {x : Ros} (h : bn x = true) : ez x = true /\ fj x = true /\ dc x <= 1 /\ 0 <= x.cur /\ x.cur < x.s /\ (dc x = 1 \/ x.cur = 0) := by
 unfold bn at h;simp only [Bool.and_eq_true, decide_eq_true_eq] at h;exact ⟨h.1.1.1, h.1.1.2, h.1.2, h.2⟩
theorem mX {x : Ros} (h : ez x = true /\ fj x = true /\ dc x <= 1 /\ 0 <= x.cur /\ x.cur < x.s /\ (dc x = 1 \/ x.cur = 0)) : bn x = true := by
 unfold bn;simp only [Bool.and_eq_true, decide_eq_true_eq];exact ⟨⟨⟨h.1, h.2.1⟩, h.2.2.1⟩, h.2.2.2⟩
theorem iP {x : Ros} : ez x = true ↔ (3 <= x.m /\ x.m <= 16 /\ 1 <= x.s /\ x.s <= 64 /\ 40 <= x.r /\ x.r <= 256) := by unfold ez; rw [decide_eq_true_iff]
theorem re {x : Ros} : ez x = false ↔ ¬(3 <= x.m /\ x.m <= 16 /\ 1 <= x.s /\ x.s <= 64 /\ 40 <= x.r /\ x.r <= 256) := by unfold ez; rw [decide_eq_false_iff_not]
theorem io (l : List UInt8) (k : Nat) : fG l (k + 1) = fG l k + (if bt l k = 2 then 1 else 0) := rfl
def rf (x : Ros) : Bool := if dc x = 0 then decide (x.cur = 0) else decide (0 <= x.cur /\ x.cur < x.s)
theorem nO (x : Ros) : bn x = (ez x && ((fj x && decide (dc x <= 1)) && rf x)) := by
 unfold bn rf;by_cases hg : ez x = true
 ·have hs := (iP.1 hg).2.2.1;rw [hg, Bool.true_and, Bool.true_and];cases fj x
  ·rfl
  ·by_cases hh : dc x <= 1
   ·rw [am hh];simp only [Bool.true_and]
    split
    ·rw [decide_eq_decide]; omega
    ·rw [decide_eq_decide]; omega
   ·rw [al hh]; rfl
 ·rw [Bool.eq_false_iff.2 hg]; rfl
theorem ac1 {x : Ros} {j : Nat} (hj : j < 16) (h : 2 < sta x j \/ (x.m <= (j : Int) /\ sta x j ≠ 0)) : bn x = false := by
 rw [Bool.eq_false_iff];intro hf;obtain ⟨h1, h2⟩ := iu (dy hf).2.1;rcases h with h | ⟨h, h'⟩
 ·have := h1 j hj; omega
 ·exact h' (h2 j hj h)
def eP (l : List UInt8) : Vector UInt8 16 := Vector.ofFn fun i => l.getD i.val 0
theorem fi {l : List UInt8} (h : l.length = 16) : (eP l).toList = l := by
 refine eB (by simp [h]) fun k hk => ?_
 have hk' : k < 16 := by simpa using hk
 rw [cZ hk, cZ (l := l) (by omega)];simp [eP, List.getD, List.getElem?_eq_getElem (show k < l.length by omega)]
theorem eC (v : Vector UInt8 16) : eP v.toList = v := by
 apply Vector.ext;intro i hi;simp [eP, List.getD]
theorem iF (v : Vector UInt8 16) : v.toList.length = 16 := by simp
theorem ul {a b : Ros} (h1 : a.m = b.m /\ a.s = b.s /\ a.r = b.r) (h2 : a.st.toList = b.st.toList) (h3 : a.cur = b.cur) (h4 : a.gone = b.gone) : a = b := by
 obtain ⟨m, s, r, st, cur, gone⟩ := a;obtain ⟨m', s', r', st', cur', gone'⟩ := b;simp only at *;obtain ⟨rfl, rfl, rfl⟩ := h1;subst h3 h4;have : st = st' := by rw [<- eC st, h2, eC]
 rw [this]
structure Sup where
 id : Nat
 self : Int
 ros : Ros
deriving DecidableEq
def aT : Sup := ⟨0, 0, bK⟩
def dX (x : Sup) : Bool := decide (x.id ≠ 0) && bn x.ros && decide (0 <= x.self /\ x.self < x.ros.m)
theorem js {x : Sup} (h : dX x = true) : x.id ≠ 0 /\ bn x.ros = true /\ 0 <= x.self /\ x.self < x.ros.m := by
 unfold dX at h;simp only [Bool.and_eq_true, decide_eq_true_eq] at h;exact ⟨h.1.1, h.1.2, h.2⟩
def kJ (b : Bool) : Nat := if b then 1 else 0
def cU (x : Sup) : List UInt8 :=
 aU 8 8 x.id ++ (aU 8 1 x.ros.m.toNat ++ (aU 8 2 x.ros.s.toNat ++ (aU 8 2 x.ros.r.toNat ++ (aU 8 1 x.self.toNat ++ (aU 8 4 (val 2 x.ros.st.toList) ++ (aU 8 2 x.ros.cur.toNat ++ aU 8 1 (kJ x.ros.gone)))))))
theorem dE (x : Sup) : (cU x).length = 21 := by simp [cU, aD]
def cw (x : Sup) : List UInt8 := dM (cU x)
theorem de (x : Sup) : (cw x).length = 44 := eu (by rw [dE]; omega)
theorem jp (n : Nat) (x : Sup) : el n (cw x) = el n (cU x) := by
 unfold el; rw [de, dE]; simp
theorem oI (n : Nat) (x : Sup) : dK n (cw x) = dK n (cU x) := by
 unfold dK; rw [jp]; unfold cw; rw [jI n (by rw [dE]; omega)]
def bS (l : List UInt8) : Sup :=
 ⟨val 8 (piece l 0 8), (val 8 (piece l 13 1) : Nat), ⟨(val 8 (piece l 8 1) : Nat), (val 8 (piece l 9 2) : Nat), (val 8 (piece l 11 2) : Nat), eP (aU 2 16 (val 8 (piece l 14 4))), (val 8 (piece l 18 2) : Nat), decide (val 8 (piece l 20 1) = 1)⟩⟩
theorem kR {x : Ros} (h : fj x = true) : ∀ u ∈ x.st.toList, u.toNat < 2 ^ 2 := by
 intro u hu;obtain ⟨j, hj, rfl⟩ := List.getElem_of_mem hu;have h2 := (iu h).1 j (by simpa using hj);unfold sta at h2;rw [cZ hj] at h2;omega
theorem pp {x : Ros} (h : fj x = true) : val 2 x.st.toList < 2 ^ 32 := by
 have := mV (kR h)
 simpa using this
section
variable (x : Sup)
private theorem pc (a b c : List UInt8) {p k : Nat} (h : cw x = a ++ (b ++ c)) (hp : a.length = p) (hk : b.length = k) : piece (cw x) p k = b := by rw [h]; exact jq _ _ _ hp hk
theorem abQ : piece (cw x) 0 8 = aU 8 8 x.id := by
 unfold cw dM cU;rw [List.append_assoc];exact ko _ _ (aD _ _ _)
theorem acc : piece (cw x) 8 1 = aU 8 1 x.ros.m.toNat :=
 pc x (aU 8 8 x.id) _ _ (by unfold cw dM cU; simp only [List.append_assoc]; rfl) (by simp [aD]) (by simp [aD])
theorem acD : piece (cw x) 9 2 = aU 8 2 x.ros.s.toNat :=
 pc x (aU 8 8 x.id ++ aU 8 1 x.ros.m.toNat) _ _ (by unfold cw dM cU; simp only [List.append_assoc]; rfl) (by simp [aD]) (by simp [aD])
theorem aa5 : piece (cw x) 11 2 = aU 8 2 x.ros.r.toNat :=
 pc x (aU 8 8 x.id ++ aU 8 1 x.ros.m.toNat ++ aU 8 2 x.ros.s.toNat) _ _ (by unfold cw dM cU; simp only [List.append_assoc]; rfl) (by simp [aD]) (by simp [aD])
theorem aaU : piece (cw x) 13 1 = aU 8 1 x.self.toNat :=
 pc x (aU 8 8 x.id ++ aU 8 1 x.ros.m.toNat ++ aU 8 2 x.ros.s.toNat ++ aU 8 2 x.ros.r.toNat) _ _ (by unfold cw dM cU; simp only [List.append_assoc]; rfl) (by simp [aD]) (by simp [aD])
theorem abe : piece (cw x) 14 4 = aU 8 4 (val 2 x.ros.st.toList) :=
 pc x (aU 8 8 x.id ++ aU 8 1 x.ros.m.toNat ++ aU 8 2 x.ros.s.toNat ++ aU 8 2 x.ros.r.toNat ++ aU 8 1 x.self.toNat) _ _ (by unfold cw dM cU; simp only [List.append_assoc]; rfl) (by simp [aD]) (by simp [aD])
theorem aa3 : piece (cw x) 18 2 = aU 8 2 x.ros.cur.toNat :=
 pc x (aU 8 8 x.id ++ aU 8 1 x.ros.m.toNat ++ aU 8 2 x.ros.s.toNat ++ aU 8 2 x.ros.r.toNat ++ aU 8 1 x.self.toNat ++ aU 8 4 (val 2 x.ros.st.toList)) _ _ (by unfold cw dM cU; simp only [List.append_assoc]; rfl) (by simp [aD]) (by simp [aD])
theorem aad : piece (cw x) 20 1 = aU 8 1 (kJ x.ros.gone) :=
 pc x (aU 8 8 x.id ++ aU 8 1 x.ros.m.toNat ++ aU 8 2 x.ros.s.toNat ++ aU 8 2 x.ros.r.toNat ++ aU 8 1 x.self.toNat ++ aU 8 4 (val 2 x.ros.st.toList) ++ aU 8 2 x.ros.cur.toNat) _ _ (by unfold cw dM cU; simp only [List.append_assoc]; rfl) (by simp [aD]) (by simp [aD])
end
theorem wR {x : Sup} (hid : x.id < 18446744073709551616) (h : dX x = true) : bS (cw x) = x := by
 obtain ⟨_, hf, h1, h2⟩ := js h;obtain ⟨hg, hs, _, h3, h4, _⟩ := dy hf;obtain ⟨g1, g2, g3, g4, g5, g6⟩ := eI hg;obtain ⟨id, self, m, s, r, st, cur, gone⟩ := x;simp only at *;unfold bS;rw [abQ, acc, acD, aa5, aaU, abe, aa3, aad];simp only;have hv := pp hs;simp only at hv;rw [gw (k := 8) (by omega), gw (k := 1) (n := self.toNat) (by omega), gw (k := 1) (n := m.toNat) (by omega), gw (k := 2) (n := s.toNat) (by omega), gw (k := 2) (n := r.toNat) (by omega), gw (k := 4) (by omega), gw (k := 2) (n := cur.toNat) (by omega), gw (k := 1) (n := kJ gone) (by unfold kJ; split <;> omega)];have hd : aU 2 16 (val 2 st.toList) = st.toList := by
  have := qw (kR hs)
  simpa using this
 rw [hd, eC];have e1 : ((self.toNat : Nat) : Int) = self := by omega
 have e2 : ((m.toNat : Nat) : Int) = m := by omega
 have e3 : ((s.toNat : Nat) : Int) = s := by omega
 have e4 : ((r.toNat : Nat) : Int) = r := by omega
 have e5 : ((cur.toNat : Nat) : Int) = cur := by omega
 have e6 : decide (kJ gone = 1) = gone := by cases gone <;> rfl
 rw [e1, e2, e3, e4, e5, e6]
def ku (n : Nat) (x : Sup) : Nat := if evB n = true /\ dX x = true then 0 else 2
def eE (n : Nat) (x : Sup) : Blk := if evB n = true /\ dX x = true then dK n (cU x) else aF
theorem jm {n : Nat} {x : Sup} (h : evB n = true) (h' : dX x = true) : ku n x = 0 := if_pos ⟨h, h'⟩
theorem kN {n : Nat} {x : Sup} (h : evB n = true) (h' : dX x = true) : eE n x = dK n (cU x) := if_pos ⟨h, h'⟩
theorem kB {n : Nat} {x : Sup} (h : ¬ (evB n = true /\ dX x = true)) : ku n x = 2 := if_neg h
theorem kI {n : Nat} {x : Sup} (h : ¬ (evB n = true /\ dX x = true)) : eE n x = aF := if_neg h
theorem xQ {n : Nat} {x : Sup} (h : ku n x = 0) : evB n = true /\ dX x = true := by
 unfold ku at h
 split at h
 ·assumption
 ·omega
theorem fc {n : Nat} (x : Sup) (h : evB n = true) : el n (cU x) = 0 := mg (by have := rW h; omega) (by rw [dE]; omega)
def gsE (b : Blk) : Nat := if db b.toList ≠ 0 then db b.toList else if evB (c8 b.toList) = true /\ dX (bS (cH b.toList)) = true /\ cw (bS (cH b.toList)) = cH b.toList then 0 else 5
def gsN (b : Blk) : Nat := if gsE b = 0 then c8 b.toList else 0
def gsS (b : Blk) : Sup := if gsE b = 0 then bS (cH b.toList) else aT
theorem nI {b : Blk} (h : db b.toList ≠ 0) : gsE b = db b.toList := if_pos h
theorem gR {b : Blk} (h : db b.toList = 0) (h' : ¬ (evB (c8 b.toList) = true /\ dX (bS (cH b.toList)) = true /\ cw (bS (cH b.toList)) = cH b.toList)) : gsE b = 5 := by
 unfold gsE; rw [if_neg (by omega), if_neg h']
theorem tL {b : Blk} (h : db b.toList = 0) (h' : evB (c8 b.toList) = true /\ dX (bS (cH b.toList)) = true /\ cw (bS (cH b.toList)) = cH b.toList) : gsE b = 0 := by
 unfold gsE; rw [if_neg (by omega), if_pos h']
theorem yP {b : Blk} (h : gsE b = 0) : db b.toList = 0 /\ evB (c8 b.toList) = true /\ dX (bS (cH b.toList)) = true /\ cw (bS (cH b.toList)) = cH b.toList := by
 unfold gsE at h
 split at h
 ·omega
 ·rename_i h0
  split at h
  ·rename_i h1; exact ⟨by omega, h1⟩
  ·omega
theorem nD {b : Blk} (h : gsE b = 0) : gsN b = c8 b.toList := if_pos h
theorem gn {b : Blk} (h : gsE b ≠ 0) : gsN b = 0 := if_neg h
theorem pu {b : Blk} (h : gsE b = 0) : gsS b = bS (cH b.toList) := if_pos h
theorem gG {b : Blk} (h : gsE b ≠ 0) : gsS b = aT := if_neg h
theorem iY {b : Blk} : gsN b = 0 ↔ gsE b ≠ 0 := by
 constructor
 ·intro h e;have := rW (yP e).2.1;rw [nD e] at h;omega
 ·exact gn
theorem eY {l : List UInt8} (h : 8 <= l.length) : (bS l).id < 18446744073709551616 := cP (b := l) (p := 0) (k := 8) (by omega)
theorem kw {b : Blk} (h : db b.toList = 0) (hn : evB (c8 b.toList) = true) (x : Sup) : dK (c8 b.toList) (cU x) = b ↔ cw x = cH b.toList := by
 have hp := fc (n := c8 b.toList) x hn
 constructor
 ·intro e;have h2 := mL (jC b) hp;rw [e] at h2;exact h2.symm
 ·intro e;rw [la hp, <- jI _ (by rw [dE]; omega)];have : dM (cU x) = cH b.toList := e;rw [this];exact rK h
theorem yl {n : Nat} {x : Sup} (hid : x.id < 18446744073709551616) (h : ku n x = 0) : gsE (eE n x) = 0 /\ gsN (eE n x) = n /\ gsS (eE n x) = x := by
 obtain ⟨h1, h2⟩ := xQ h;have hn : n < 18446744073709551616 := by have := rW h1; omega
 have hp := fc x h1;have e1 := xp hn hp;have e2 := yi hn hp;have e3 := mL hn hp;rw [kN h1 h2];have e4 : bS (cH (dK n (cU x)).toList) = x := by rw [e3]; exact wR hid h2
 have hE : gsE (dK n (cU x)) = 0 := tL e1 ⟨by rw [e2]; exact h1, by rw [e4]; exact h2, by rw [e4, e3]; rfl⟩;exact ⟨hE, by rw [nD hE, e2], by rw [pu hE, e4]⟩
theorem rM {b : Blk} (h : gsE b = 0) : ku (gsN b) (gsS b) = 0 /\ eE (gsN b) (gsS b) = b /\ dX (gsS b) = true /\ (gsS b).id < 18446744073709551616 := by
 obtain ⟨h1, h2, h3, h4⟩ := yP h;rw [nD h, pu h];exact ⟨jm h2 h3, by rw [kN h2 h3]; exact (kw h1 h2 _).2 h4, h3, eY (by rw [et h1]; omega)⟩
theorem uK : gsE aF = 5 := by rw [nI (by rw [oK]; omega), oK]
def nwE (a b : Blk) : Nat := if gsN a = 0 /\ gsN b = 0 then 7 else 0
def nwN (a b : Blk) : Nat := if gsN a < gsN b then gsN b else gsN a
def nwS (a b : Blk) : Sup := if gsN a < gsN b then gsS b else gsS a
def ma (a b : Blk) : Nat := if gsN a ≠ 0 /\ ¬ gsN a < gsN b then 1 else 0
def lB (l : List UInt8) (c : Int) : Nat -> Nat
 |0 => 0
 |k + 1 => lB l c k + (if bt l k = c then 1 else 0)
theorem fy (l : List UInt8) (c : Int) (k : Nat) : lB l c (k + 1) = lB l c k + (if bt l k = c then 1 else 0) := rfl
theorem zD (l : List UInt8) (c : Int) (k : Nat) : lB l c k <= k := by
 induction k with
 |zero => exact ai
 |succ k ih => rw [fy]; split <;> omega
theorem vW (l : List UInt8) (k : Nat) : fG l k = lB l 2 k := by
 induction k with
 |zero => rfl
 |succ k ih => rw [fy, io, ih]
def many (x : Ros) (c : Int) : Nat := lB x.st.toList c 16
theorem zd (x : Ros) (c : Int) : many x c = lB x.st.toList c 16 := rfl
theorem gj (x : Ros) : dc x = many x 2 := vW _ _
def rp (l : List UInt8) : Nat -> Nat
 |0 => 0
 |k + 1 => rp l k + (if bt l k = 0 then 0 else 1)
theorem lr (l : List UInt8) (k : Nat) : rp l (k + 1) = rp l k + (if bt l k = 0 then 0 else 1) := rfl
theorem z7 (l : List UInt8) (k : Nat) : rp l k <= k := by
 induction k with
 |zero => exact ai
 |succ k ih => rw [lr]; split <;> omega
def outs (x : Ros) : Nat := rp x.st.toList 16
theorem xV {l : List UInt8} {k : Nat} (h : ∀ j, j < k -> bt l j <= 2) : rp l k = lB l 1 k + lB l 2 k := by
 induction k with
 |zero => rfl
 |succ k ih =>
  have h1 := ih fun j hj => h j (by omega)
  have h2 := h k (by omega);have h3 := gM l k;rw [fy, fy, lr, h1]
  split <;> split <;> split <;> omega
theorem wd {x : Ros} (h : fj x = true) : outs x = many x 1 + many x 2 := xV (iu h).1
theorem sy {x : Ros} (h : fj x = true) : dc x <= outs x := by rw [wd h, gj]; omega
def lc (l : List UInt8) : Nat -> Option Nat
 |0 => none
 |k + 1 => (lc l k).or (if bt l k = 2 then some k else none)
theorem jJ (l : List UInt8) (k : Nat) : lc l (k + 1) = (lc l k).or (if bt l k = 2 then some k else none) := rfl
theorem uY (l : List UInt8) (k : Nat) : lc l k = none ↔ fG l k = 0 := by
 induction k with
 |zero => exact ⟨fun _ => rfl, fun _ => rfl⟩
 |succ k ih =>
  rw [jJ, io];cases hf : lc l k with
  |some i =>
   have h1 : ¬ fG l k = 0 := fun e => by have := ih.2 e; rw [hf] at this; cases this
   simp only [Option.some_or]
   constructor
   ·intro h; cases h
   ·intro h; omega
  |none =>
   have h1 := ih.1 hf;simp only [Option.none_or]
   split
   ·constructor
    ·intro h; cases h
    ·intro h; omega
   ·constructor
    ·intro _; omega
    ·intro _; rfl
theorem tV {l : List UInt8} {i j : Nat} (h : lc l i = some j) : ∀ {k : Nat}, i <= k -> lc l k = some j
 |0, hk => by rw [show i = 0 from by omega] at h; exact h
 |k + 1, hk => by
  by_cases e : i = k + 1
  ·rw [<- e]; exact h
  ·rw [jJ, tV h (k := k) (by omega)]; rfl
theorem abg {l : List UInt8} {j : Nat} (h0 : lc l j = none) (h2 : bt l j = 2) {k : Nat} (hk : j < k) : lc l k = some j := by
 refine tV (i := j + 1) ?_ (by omega);rw [jJ, h0, if_pos h2]
 rfl
theorem vK {l : List UInt8} {j : Nat} (h0 : lc l j = none) (h2 : bt l j ≠ 2) : lc l (j + 1) = none := by
 rw [jJ, h0, if_neg h2]
 rfl
def ld (x : Ros) : Option Nat := lc x.st.toList 16
theorem vm (x : Ros) : ld x = lc x.st.toList 16 := rfl
theorem tx (x : Ros) : ld x = none ↔ dc x = 0 := uY _ _
def eN (x : Ros) (j : Nat) (u : UInt8) : Ros := ⟨x.m, x.s, x.r, x.st.setIfInBounds j u, x.cur, x.gone⟩
def i8 (x : Ros) (c : Int) : Ros := ⟨x.m, x.s, x.r, x.st, c, x.gone⟩
theorem lj (x : Ros) (j : Nat) (u : UInt8) : (eN x j u).st.toList = x.st.toList.set j u := by
 unfold eN;simp
theorem xS {l : List UInt8} {j : Nat} (h : j < l.length) (u : UInt8) (k : Nat) : bt (l.set j u) k = if k = j then (u.toNat : Int) else bt l k := by
 unfold bt;simp only [List.getD, List.getElem?_set];by_cases e : k = j
 ·subst e; simp [h]
 ·rw [if_neg (fun e' => e e'.symm), if_neg e]
theorem kM (x : Ros) {j : Nat} (h : j < 16) (u : UInt8) (k : Nat) : sta (eN x j u) k = if k = j then (u.toNat : Int) else sta x k := by
 unfold sta;rw [lj];exact xS (by simpa using h) u k
theorem za {l : List UInt8} {j : Nat} (h : j < l.length) (u : UInt8) (c : Int) (k : Nat) : lB (l.set j u) c k + (if j < k /\ bt l j = c then 1 else 0) = lB l c k + (if j < k /\ (u.toNat : Int) = c then 1 else 0) := by
 induction k with
 |zero => rw [if_neg (by omega), if_neg (by omega)]; rfl
 |succ k ih =>
  rw [fy, fy, xS h];by_cases e : k = j
  ·subst e;rw [if_neg (by omega), if_neg (by omega)] at ih;rw [if_pos rfl];by_cases h1 : bt l k = c <;> by_cases h2 : (u.toNat : Int) = c <;> simp [h1, h2] <;> omega
  ·rw [if_neg e];have e1 : (j < k + 1 /\ bt l j = c) ↔ (j < k /\ bt l j = c) := by omega
   have e2 : (j < k + 1 /\ (u.toNat : Int) = c) ↔ (j < k /\ (u.toNat : Int) = c) := by omega
   simp only [e1, e2];omega
theorem ww (x : Ros) {j : Nat} (h : j < 16) (u : UInt8) (c : Int) : many (eN x j u) c + (if sta x j = c then 1 else 0) = many x c + (if (u.toNat : Int) = c then 1 else 0) := by
 have := za (l := x.st.toList) (j := j) (by simpa using h) u c 16;simp only [h, true_and] at this;unfold many;rw [lj];exact this
theorem ot {x : Ros} (hs : fj x = true) {j : Nat} (h : j < 16) (hm : (j : Int) < x.m) {u : UInt8} (hu : u.toNat <= 2) : fj (eN x j u) = true := by
 obtain ⟨h1, h2⟩ := iu hs;refine hU.2 ⟨fun k hk => ?_, fun k hk hkm => ?_⟩
 ·rw [kM x h]
  split
  ·omega
  ·exact h1 k hk
 ·have hne : k ≠ j := by
   intro e; subst e;have : x.m <= (k : Int) := hkm;omega
  rw [kM x h, if_neg hne];exact h2 k hk hkm
def er (x : Ros) (m : Int) : Bool := decide (0 <= m /\ m < x.m)
def vA (x : Ros) (s : Int) : Bool := decide (0 <= s /\ s < x.s)
theorem mt {x : Ros} {m : Int} (h : er x m = true) : 0 <= m /\ m < x.m := of_decide_eq_true h
def gz (y : Ros) : Ros := ⟨y.m, y.s, y.r, Vector.replicate 16 0, 0, false⟩
theorem yL (y : Ros) : dc (gz y) = 0 := by
 show fG (Vector.replicate 16 (0 : UInt8)).toList 16 = 0
 decide
theorem sC (y : Ros) {j : Nat} (h : j < 16) : sta (gz y) j = 0 := by
 show bt (List.replicate 16 (0 : UInt8)) j = 0
 unfold bt;rw [List.getD, List.getElem?_replicate]
 split <;> rfl
theorem tX (y : Ros) : bn (gz y) = ez y := by
 have hg : ez (gz y) = ez y := rfl;by_cases h : ez y = true
 ·rw [h];have := eI h;refine mX ⟨hg.trans h, hU.2 ⟨fun j hj => ?_, fun j hj _ => sC y hj⟩, by rw [yL]; omega, ?_⟩
  ·rw [sC y hj]; omega
  ·show 0 <= (0 : Int) /\ (0 : Int) < y.s /\ (dc (gz y) = 1 \/ (0 : Int) = 0)
   omega
 ·rw [Bool.eq_false_iff.2 h, Bool.eq_false_iff];intro hf;exact h (hg.symm.trans (dy hf).1)
def yM (y : Ros) : Ros := if ez y then gz y else bK
def qp (y : Ros) : Nat := if ez y then 0 else 2
def ga (x : Ros) : Nat := if bn x then outs x else 0
def stN (x : Ros) : Nat :=
 if bn x then if 2 <= outs x \/ (outs x = 1 /\ x.gone = true) then 5 else if x.gone = true then 4 else if dc x = 1 then 3 else if outs x = 1 then 2 else 1 else 0
def lv (x : Ros) : Nat := if bn x then (ld x).getD 0 else 0
def iM (x : Ros) : Bool := bn x && (ld x).isSome
def gi (x : Ros) (m : Int) : Bool := bn x && (er x m && decide (sta x m.toNat ≠ 1))
def cx (x : Ros) (m : Int) : Ros := if gi x m then (if sta x m.toNat = 2 then eN (i8 x 0) m.toNat 1 else eN x m.toNat 1) else x
theorem n7 (x : Ros) {j : Nat} (h : j < 16) (u : UInt8) : dc (eN x j u) + (if sta x j = 2 then 1 else 0) = dc x + (if (u.toNat : Int) = 2 then 1 else 0) := by
 rw [gj, gj]; exact ww x h u 2
theorem vM (x : Ros) (c : Int) : dc (i8 x c) = dc x := rfl
theorem t4 (x : Ros) (c : Int) (j : Nat) : sta (i8 x c) j = sta x j := rfl
theorem u1 : (((1 : UInt8).toNat : Nat) : Int) = 1 := rfl
theorem x6 {x : Ros} {m : Int} (hf : bn x = true) (hq : er x m = true) : m.toNat < 16 /\ ((m.toNat : Nat) : Int) < x.m /\ ((m.toNat : Nat) : Int) = m := by
 have h1 := mt hq;have h2 := eI (dy hf).1;omega
theorem kT {x : Ros} (m : Int) (hf : bn x = true) : bn (cx x m) = true := by
 unfold cx
 split
 ·rename_i hb
  have hq : er x m = true := by
   unfold gi at hb;rw [hf, Bool.true_and, Bool.and_eq_true] at hb;exact hb.1
  obtain ⟨h16, hlt, _⟩ := x6 hf hq;obtain ⟨hg, hs, h1, c0, c1, c2⟩ := dy hf;have g := eI hg
  split
  ·rename_i h2
   have hh := n7 (i8 x 0) h16 1;rw [t4, if_pos h2, vM, if_neg (by rw [u1]; omega)] at hh;refine mX ⟨hg, ot (x := i8 x 0) hs h16 hlt (by decide), by omega, ?_⟩
   show (0 : Int) <= 0 /\ (0 : Int) < x.s /\ (dc _ = 1 \/ (0 : Int) = 0)
   omega
  ·rename_i h2
   have hh := n7 x h16 1;rw [if_neg h2, if_neg (by rw [u1]; omega)] at hh;refine mX ⟨hg, ot hs h16 hlt (by decide), by omega, ?_⟩
   show 0 <= x.cur /\ x.cur < x.s /\ (dc _ = 1 \/ x.cur = 0)
   omega
 ·exact hf
structure Cod (Y : Type) where
 zero : Y
 may : Y -> Bool
 num : Y -> Nat
 body : Y -> List UInt8
 told : Nat -> List UInt8 -> Y
 fits : Y -> Prop
 may_num : ∀ y, may y = true -> 1 <= num y /\ num y <= 4611686018427387904
 len : ∀ y, (body y).length <= 44
 back : ∀ y, fits y -> may y = true -> told (num y) (dM (body y)) = y
 num_told : ∀ n l, num (told n l) = n
 fits_told : ∀ n l, l.length = 44 -> n < 18446744073709551616 -> fits (told n l)
 zero_no : may zero = false
 zero_num : num zero = 0
 zero_fits : fits zero
namespace Cod
variable {Y : Type} (C : Cod Y)
def full (y : Y) : List UInt8 := dM (C.body y)
theorem qS (y : Y) : (C.full y).length = 44 := eu (C.len y)
theorem jp (n : Nat) (y : Y) : el n (C.full y) = el n (C.body y) := by
 have h1 := C.qS y;have h2 := C.len y;unfold el;rw [if_neg (show ¬ 44 < (C.full y).length by omega), if_neg (show ¬ 44 < (C.body y).length by omega)]
theorem oI (n : Nat) (y : Y) : dK n (C.full y) = dK n (C.body y) := by
 unfold dK; rw [C.jp]; unfold full; rw [jI n (C.len y)]
theorem fc {n : Nat} (y : Y) (h : n ≠ 0) : el n (C.body y) = 0 := mg h (C.len y)
theorem kw {b : Blk} (h : db b.toList = 0) (y : Y) : dK (c8 b.toList) (C.body y) = b ↔ C.full y = cH b.toList := by
 have hn : c8 b.toList ≠ 0 := fun e => vg.1 e h
 have hp := C.fc y hn
 constructor
 ·intro e;have h2 := mL (jC b) hp;rw [e] at h2;exact h2.symm
 ·intro e;rw [la hp, <- jI _ (C.len y)];have : dM (C.body y) = cH b.toList := e;rw [this];exact rK h
end Cod
open Go.RowKit
set_option maxRecDepth 100000
set_option linter.unusedVariables false
structure Mrk where
 id : Nat
 ring : Int
 first : Nat
 pos : Nat
deriving DecidableEq
open Go.RowKit
set_option maxRecDepth 100000
set_option linter.unusedVariables false
def hd (n : Nat) : Nat := (n + 15) / 16
open Go.RowKit
set_option maxRecDepth 100000
set_option linter.unusedVariables false
structure Nte where
 seq : Nat
 pos : Nat
 cells : Int
 sum : Nat
deriving DecidableEq
open Go.RowKit
set_option maxRecDepth 100000
set_option linter.unusedVariables false
inductive Stp where
 |wr (n : Int) (b : Blk)
 |fl
def qi (d : Int) (M : aR) : Stp -> Int
 |.wr n _ => jL M d n
 |.fl => hZ M d
def pJ (d : Int) (M : aR) : Stp -> aR
 |.wr n b => eg M d n b
 |.fl => fk M d
def goE (d : Int) : aR -> List Stp -> Int
 |_, [] => 0
 |M, s :: l => if qi d M s = 0 then goE d (pJ d M s) l else qi d M s
def goB (d : Int) : aR -> List Stp -> aR
 |M, [] => M
 |M, s :: l => if qi d M s = 0 then goB d (pJ d M s) l else pJ d M s
theorem go_ok {d : Int} {M : aR} {s : Stp} {l : List Stp} (h : qi d M s = 0) : goE d M (s :: l) = goE d (pJ d M s) l /\ goB d M (s :: l) = goB d (pJ d M s) l := ⟨if_pos h, if_pos h⟩
theorem abu {d : Int} {M : aR} {s : Stp} {l : List Stp} (h : qi d M s ≠ 0) : goE d M (s :: l) = qi d M s /\ goB d M (s :: l) = pJ d M s := ⟨if_neg h, if_neg h⟩
structure LgS where
 d : Nat
 own : Nat
 size : Nat
 cnt : Nat
 fst : Nat
 pos : Nat
 nts : List Nte
end Go.Proofs.YtehefifamaofkaaGreatDoor
