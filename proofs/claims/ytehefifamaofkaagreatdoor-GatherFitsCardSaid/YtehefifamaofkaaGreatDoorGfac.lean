import Derived.Test.YtehefifamaofkaaGreatDoorGfab
import Derived.Laws.CopyOwn
import Derived.IntWalk
import Derived.Laws.AppendOwnNone
namespace Go.Proofs.YtehefifamaofkaaGreatDoor
set_option maxHeartbeats 8000000
open Go.Proofs.Tryz
open Go.RowKit
set_option linter.unusedVariables false
set_option maxRecDepth 100000
def Dev.K (D : Dev) : DvK := ⟨D.Dv, D.lt, D.only⟩
def bV (D : Dev) : fu where
 K := D.K
 s := 73
 t := 84
 und := underlying73
 info := by kernel_rfl
 o := 75
 cs := fun v left bz steps => #[v, .int .i64 steps, .int .i64 left, .bool bz]
 ne := by decide
section
variable {D : Dev} {w w' : World} {p : Nat} {v : Value} {Fs : Nat -> Nat -> Prop} {ps : List Nat} {M : aM}
theorem bu.jf (h : bu (bV D) w p v Fs ps M) : w.cell? ⟨p, 0, none⟩ = some v /\ w.cell? ⟨p, 1, none⟩ = some (.int .i64 M.steps) /\ w.cell? ⟨p, 2, none⟩ = some (.int .i64 M.left) /\ w.cell? ⟨p, 3, none⟩ = some (.bool M.bz) := dz h.at_
theorem nf (h : bu (bV D) w p v Fs ps M) :
  Calls prog 25 #[.pointer (some ⟨p, 0, none⟩)] w fun e w' => e = .returned (.int .i64 (M.ds.length : Int)) /\ w = w' := by
 obtain ⟨g, c, rfl, _, _⟩ := h.slice;obtain ⟨c0, c1, c2, c3⟩ := h.jf;go_enter func25, ntmps25;go_wp2;go_ret;exact ⟨rfl, rfl⟩
theorem qN (h : bu (bV D) w p v Fs ps M) :
  Calls prog 50 #[.pointer (some ⟨p, 0, none⟩)] w fun e w' => e = .returned (.bool true) /\ w = w' := by
 have h1 : 0 < M.ds.length := h.one;go_enter func50, ntmps50;go_wp2_with fail;refine (nf h).mono ?_;rintro e w1 ⟨rfl, rfl⟩;go_wp2_with fail;go_ret;exact ⟨rfl, rfl⟩
theorem rS (h : bu (bV D) w p v Fs ps M) :
  Calls prog 78 #[.pointer (some ⟨p, 0, none⟩)] w fun e w' => e = .returned (.bool M.bz) /\ w = w' := by
 obtain ⟨c0, c1, c2, c3⟩ := h.jf;go_enter func78, ntmps78;go_wp2;go_ret;exact ⟨rfl, rfl⟩
theorem ia (h : bu (bV D) w p v Fs ps M) {d : Int} (hd : ¬(0 <= d /\ d < M.ds.length)) :
  Calls prog 46 #[.pointer (some ⟨p, 0, none⟩), .int .i64 d] w fun e w' => e = .returned (.tuple #[.pointer none, .int .i64 2]) /\ w = w' := by
 have hm := ae (qN h);obtain ⟨g, c, rfl, _, _⟩ := h.slice;obtain ⟨c0, c1, c2, c3⟩ := h.jf;clear h;by_cases h0 : d < 0
 ·clear hd;go_enter func46, ntmps46;go_wp2_with fail;refine hm.out.mono ?_;rintro e w1 ⟨rfl, rfl⟩;go_wp2_with fail;go_ret2;exact ⟨rfl, rfl⟩
 ·have h1 : ¬(d < (M.ds.length : Int)) := by omega
  clear hd;go_enter func46, ntmps46;go_wp2_with fail;refine hm.out.mono ?_;rintro e w1 ⟨rfl, rfl⟩;go_wp2_with fail;go_ret2;exact ⟨rfl, rfl⟩
theorem ip (h : bu (bV D) w p v Fs ps M) {k : Nat} (hk : k < M.ds.length) :
  Calls prog 46 #[.pointer (some ⟨p, 0, none⟩), .int .i64 k] w fun e w' => e = .returned (.tuple #[.pointer (some ⟨ps.getD k 0, 0, none⟩), .int .i64 0]) /\ w = w' := by
 have hm := ae (qN h);obtain ⟨g, c, rfl, _, _⟩ := h.slice;obtain ⟨c0, c1, c2, c3⟩ := h.jf;have hc := h.cell hk;generalize ps.getD k 0 = q at *;clear h;go_enter func46, ntmps46;go_wp2_with fail;refine hm.out.mono ?_;rintro e w1 ⟨rfl, rfl⟩;go_wp2_with fail;go_ret2;exact ⟨rfl, rfl⟩
theorem me (h : bu (bV D) w p v Fs ps M) {d : Int} (hd : dx M d ≠ 0) :
  Calls prog 37 #[.pointer (some ⟨p, 0, none⟩), .int .i64 d] w fun e w' => e = .returned (.tuple #[.pointer none, .int .i64 (dx M d)]) /\ w = w' := by
 have hm := ae (rS h);rcases c8 M d with ⟨e, hdk⟩ | ⟨e, hdk, ho⟩ | ⟨e, _⟩
 ·rw [e];have HD := ae hdk;clear e hdk hd h;go_enter func37, ntmps37;go_wp2_with fail;refine hm.out.mono ?_;rintro e w1 ⟨rfl, rfl⟩;rw [HD.out];go_wp2_with fail;go_ret2;exact ⟨rfl, rfl⟩
 ·rw [e];have HD := ae hdk;have HO := ae (ia h ho);clear e hdk hd h ho;go_enter func37, ntmps37;go_wp2_with fail;refine hm.out.mono ?_;rintro e w1 ⟨rfl, rfl⟩;rw [HD.out];go_wp2_with fail;refine HO.out.mono ?_;rintro e w1 ⟨rfl, rfl⟩;go_wp2_with fail;go_ret2;exact ⟨rfl, rfl⟩
 ·exact absurd e hd
theorem ie (h : bu (bV D) w p v Fs ps M) {k : Nat} (hdk : M.bz = false) (hk : k < M.ds.length) :
  Calls prog 37 #[.pointer (some ⟨p, 0, none⟩), .int .i64 k] w fun e w' => e = .returned (.tuple #[.pointer (some ⟨ps.getD k 0, 0, none⟩), .int .i64 0]) /\ w = w' := by
 have hm := ae (rS h);have HD := ae hdk;have HO := ae (ip h hk);clear hdk h;generalize ps.getD k 0 = q at *;go_enter func37, ntmps37;go_wp2_with fail;refine hm.out.mono ?_;rintro e w1 ⟨rfl, rfl⟩;rw [HD.out];go_wp2_with fail;refine HO.out.mono ?_;rintro e w1 ⟨rfl, rfl⟩;go_wp2_with fail;go_ret2;exact ⟨rfl, rfl⟩
end
section
variable {D : Dev} {w w' : World} {p : Nat} {v : Value} {Fs : Nat -> Nat -> Prop} {ps : List Nat} {M : aM}
theorem uE (d : Int) (h : bu (bV D) w p v Fs ps M) :
  Calls prog 94 #[.pointer (some ⟨p, 0, none⟩), .int .i64 d] w fun e w' => e = .returned (.int .i64 (cW M d)) /\ Below w.heap.size w w' := by
 rcases jE M d with ⟨e, ho⟩ | ⟨e, k, rfl, hk⟩
 ·have HS : Hid (cW M d = 0) := ae (by unfold cW; rw [if_neg (by omega)]);have HO := ae (ia h ho);clear e h ho;go_enter func94, ntmps94;go_wp2_with fail;refine HO.out.mono ?_;rintro e w1 ⟨rfl, rfl⟩;go_wp2_with fail;refine (uO (.inl rfl)).mono ?_;rintro e w2 ⟨rfl, hb⟩;go_wp2_with fail;go_ret;exact ⟨bD HS.out.symm, hb⟩
 ·obtain ⟨x, hx⟩ : ∃ x, M.ds.getD k bJ = x := ⟨_, rfl⟩;have hat := h.devs.at_ k hk;rw [hx] at hat
  have HS : Hid (cW M (k : Int) = (x.S.length : Int)) := ae (by unfold cW; rw [if_pos e, M.gP, hx]);have HO := ae (ip h hk);have HD := ae (D.ex hat);clear e h hat hx;generalize ps.getD k 0 = q at *;go_enter func94, ntmps94;go_wp2_with fail;refine HO.out.mono ?_;rintro e w1 ⟨rfl, rfl⟩;go_wp2_with fail;refine HD.out.mono ?_;rintro e w2 ⟨rfl, hb⟩;go_wp2_with fail;go_ret;exact ⟨bD HS.out.symm, hb⟩
theorem ab2 (n : Int) (h : bu (bV D) w p v Fs ps M) :
  Calls prog 13 #[.pointer (some ⟨p, 0, none⟩), .int .i64 n] w fun e w' => e = .returned (.int .i64 (iS M n)) /\ bu (bV D) w' p v Fs ps (gA M n) /\ Only (fun b => b = p) w w' := by
 have hm := ae (qN h);obtain ⟨c0, c1, c2, c3⟩ := h.jf;have f2 := frozen_of_row w p 2 _ _ h.at_;have HH := ae h;cases hdk : M.bz
 ·by_cases hn : n < 0
  ·have HE : Hid (iS M n = 2) := ae (by unfold iS; rw [if_neg (by rw [hdk]; decide), if_pos hn]);have HS : Hid (gA M n = M) := ae (by unfold gA; rw [HE.out, if_neg (by decide)]);rw [hdk] at c3;clear h hdk;go_enter func13, ntmps13;go_wp2_with fail;refine hm.out.mono ?_;rintro e w1 ⟨rfl, rfl⟩;go_wp2_with fail;go_ret;exact ⟨bD HE.out.symm, by rw [HS.out]; exact HH, Only.refl _ _⟩
  ·have HE : Hid (iS M n = 0) := ae (by unfold iS; rw [if_neg (by rw [hdk]; decide), if_neg hn]);have HS : Hid (gA M n = ⟨M.ds, n.toNat, M.bz, M.steps⟩) := ae (by unfold gA; rw [HE.out, if_pos rfl]);have HN : Hid (((n.toNat : Nat) : Int) = n) := ae (by omega);have HC : Hid (M.bz = false) := ae hdk;rw [hdk] at c3;clear h hdk;go_enter func13, ntmps13;go_wp2_with fail;refine hm.out.mono ?_;rintro e w1 ⟨rfl, rfl⟩;go_wp2_with fail;go_ret;have ho := cZ w p 2 (.int .i64 n);refine ⟨bD HE.out.symm, ?_, ho⟩;rw [HS.out];refine HH.out.obj _ _ _ ho ?_;have := heap_setCell_same w p 2 _ _ (.int .i64 n) HH.out.at_
   simpa [bV, HN.out] using this
 ·have HE : Hid (iS M n = 8) := ae (by unfold iS; rw [if_pos hdk]);have HS : Hid (gA M n = M) := ae (by unfold gA; rw [HE.out, if_neg (by decide)]);rw [hdk] at c3;clear h hdk;go_enter func13, ntmps13;go_wp2_with fail;refine hm.out.mono ?_;rintro e w1 ⟨rfl, rfl⟩;go_wp2_with fail;go_ret;exact ⟨bD HE.out.symm, by rw [HS.out]; exact HH, Only.refl _ _⟩
theorem aaG (d : Int) (h : bu (bV D) w p v Fs ps M) :
  Calls prog 11 #[.pointer (some ⟨p, 0, none⟩), .int .i64 d] w fun e w' => e = .returned (.int .i64 (kt M d)) /\ Left (bV D) w p v Fs ps M.ds.length (gq M d) w' := by
 rcases jE M d with ⟨e, ho⟩ | ⟨e, k, rfl, hk⟩
 ·have HL := ae (Left.same h (M' := gq M d) (by unfold gq; rw [if_neg (by omega)]));have HO := ae (ia h ho);have HE := ae e;clear e h ho;go_enter func11, ntmps11;go_wp2_with fail;refine HO.out.mono ?_;rintro e w1 ⟨rfl, rfl⟩;go_wp2_with fail;go_ret;exact ⟨bD HE.out.symm, HL⟩
 ·obtain ⟨x, hx⟩ : ∃ x, M.ds.getD k bJ = x := ⟨_, rfl⟩;have hat := h.devs.at_ k hk;rw [hx] at hat
  have HS : Hid (gq M (k : Int) = M.put k ⟨x.S, [], true⟩) := ae (by unfold gq; rw [if_pos e, <- hx]; rfl);have HO := ae (ip h hk);have HD := ae (D.fail hat);have HE := ae e;have HH := ae h;clear e h hat hx;go_enter func11, ntmps11;go_wp2_with fail;refine HO.out.mono ?_;rintro e w1 ⟨rfl, rfl⟩;go_wp2_with fail;refine HD.out.mono ?_;rintro e w2 ⟨rfl, F', h1, h2, h3⟩;go_wp2_with fail;go_ret;exact ⟨bD HE.out.symm, Left.turn HH hk h2 h3 (d := ⟨x.S, [], true⟩) h1 HS⟩
theorem lE (f : Value) (h : bu (bV D) w p v Fs ps M) (hl : M.left = 1) :
  Calls prog 39 #[.pointer (some ⟨p, 0, none⟩), f] w fun e w' => e = .returned (.int .i64 8) /\ bu (bV D) w' p v Fs ps M.night /\ Only (fun b => b = p) w w' := by
 obtain ⟨c0, c1, c2, c3⟩ := h.jf;have f3 := frozen_of_row w p 3 _ _ h.at_;rw [hl] at c2;have HH := ae h;have HL := ae hl;clear h hl;go_enter func39, ntmps39;go_wp2_with fail;go_ret;have ho := cZ w p 3 (.bool true);refine ⟨rfl, HH.out.obj _ _ _ ho ?_, ho⟩;have := heap_setCell_same w p 3 _ _ (.bool true) HH.out.at_
 simpa [bV] using this
theorem wx (h : bu (bV D) w p v Fs ps M) (h2 : 1 < M.left) : bu (bV D) ((w.setCell ⟨p, 2, none⟩ (.int .i64 ((M.left : Int) - 1))).setCell ⟨p, 1, none⟩ (.int .i64 ((M.steps : Int) + 1))) p v Fs ps M.done /\ Only (fun b => b = p) w ((w.setCell ⟨p, 2, none⟩ (.int .i64 ((M.left : Int) - 1))).setCell ⟨p, 1, none⟩ (.int .i64 ((M.steps : Int) + 1))) := by
 have ho := (cZ w p 2 (.int .i64 ((M.left : Int) - 1))).setCell (p := ⟨p, 1, none⟩) (.inl rfl) (.int .i64 ((M.steps : Int) + 1));refine ⟨h.obj _ _ _ ho ?_, ho⟩;have h3 := heap_setCell_same _ p 1 _ _ (.int .i64 ((M.steps : Int) + 1)) (heap_setCell_same w p 2 _ _ (.int .i64 ((M.left : Int) - 1)) h.at_);have e : ((M.left - 1 : Nat) : Int) = (M.left : Int) - 1 := by omega
 simpa [bV, e] using h3
theorem uM (h : bu (bV D) w p v Fs ps M) (h2 : M.left = 0) : bu (bV D) (w.setCell ⟨p, 1, none⟩ (.int .i64 ((M.steps : Int) + 1))) p v Fs ps M.done /\ Only (fun b => b = p) w (w.setCell ⟨p, 1, none⟩ (.int .i64 ((M.steps : Int) + 1))) := by
 have ho := cZ w p 1 (.int .i64 ((M.steps : Int) + 1));refine ⟨h.obj _ _ _ ho ?_, ho⟩;have h3 := heap_setCell_same w p 1 _ _ (.int .i64 ((M.steps : Int) + 1)) h.at_
 simpa [bV, h2] using h3
theorem nc (fid : FuncId) (bs cs : Array Value) (h : bu (bV D) w p v Fs ps M) (hl : M.left ≠ 1) (hs : M.steps < 1000000) (hll : M.left < 9223372036854775808) (hf : ∀ (args : Array Value) (w : World), (callFunc fid args).run prog w = .ok (.enter fid args) w) (Q : Int -> World -> Prop)
  (hdo : ∀ w1, bu (bV D) w1 p v Fs ps M.done -> Only (fun b => b = p) w w1 -> Calls prog fid (bs ++ cs) w1 fun e w2 => ∃ x, e = .returned (.int .i64 x) /\ Q x w2) :
  Calls prog 39 #[.pointer (some ⟨p, 0, none⟩), .func (.func fid) bs cs] w fun e w2 => ∃ x, e = .returned (.int .i64 x) /\ Q x w2 := by
 obtain ⟨c0, c1, c2, c3⟩ := h.jf;have f2 := frozen_of_row w p 2 _ _ h.at_;have f1 := frozen_of_row w p 1 _ _ h.at_;have HH := ae h;clear h;have hl1 : ((M.left : Int) == 1) = false := by simpa using (by omega : ¬ (M.left : Int) = 1)
 by_cases h2 : 1 < M.left
 ·have HT := ae (wx HH h2);go_enter func39, ntmps39;go_wp2_with fail;refine (hdo _ HT.out.1 HT.out.2).mono ?_;rintro e w3 ⟨x, rfl, hq⟩;go_wp2_with fail;go_ret;exact ⟨x, rfl, hq⟩
 ·have hl0 : M.left = 0 := by omega
  have HT := ae (uM HH hl0);rw [hl0] at c2;clear hl1 hl hll h2 hl0;go_enter func39, ntmps39;go_wp2_with fail;refine (hdo _ HT.out.1 HT.out.2).mono ?_;rintro e w3 ⟨x, rfl, hq⟩;go_wp2_with fail;go_ret;exact ⟨x, rfl, hq⟩
end
section
variable {D : Dev} {w w' : World} {p : Nat} {v : Value} {Fs : Nat -> Nat -> Prop} {ps : List Nat} {M : aM}
theorem abw (d n : Int) (h : bu (bV D) w p v Fs ps M) :
  Calls prog 81 #[.pointer (some ⟨p, 0, none⟩), .int .i64 d, .int .i64 n] w fun e w' => e = .returned (.tuple #[blk (dK M d n), .int .i64 (cf M d n)]) /\ Below w.heap.size w w' := by
 have hA := (Below.refl w.heap.size w).alloc ai (.cells (cel aB).toArray 29);have h1 := h.below hA;have HT := ae (dG w aB 29);have HA := ae hA;by_cases hl : dx M d = 0
 ·rcases c8 M d with ⟨e, _⟩ | ⟨e, _⟩ | ⟨e, hdk, k, rfl, hk⟩
  ·omega
  ·omega
  obtain ⟨x, hx⟩ : ∃ x, M.ds.getD k bJ = x := ⟨_, rfl⟩;have hat := h1.devs.at_ k hk;rw [hx] at hat
  have HB : Hid (dK M (k : Int) n = eu x.S x.L x.g n) := ae (by unfold dK; rw [if_pos e, <- hx]; rfl);have HE : Hid (cf M (k : Int) n = cx x.S x.g n) := ae (by unfold cf; rw [if_pos e, <- hx]; rfl);have HO := ae (ie h1 hdk hk);have HD := ae (D.read n hat);have HSZ := ae (World.size_alloc w (.cells (cel aB).toArray 29));clear e h h1 hat hx hdk hA hl;rw [HB.out, HE.out];clear HB HE;generalize eu x.S x.L x.g n = y at *;generalize cx x.S x.g n = z at *;generalize ps.getD k 0 = q at *;go_enter func81, ntmps81;go_wp2_with (first | (refine av rfl (bq rfl) ?_) | fail);refine HO.out.mono ?_;rintro e w1 ⟨rfl, rfl⟩;go_wp2_with fail;refine HD.out.mono ?_;rintro e w2 ⟨rfl, hb⟩;have HT2 := ae (bK HT (by rw [HSZ.out]; omega) hb);have HB2 := ae (HA.out.trans (hb.mono (by rw [HSZ.out]; omega)));clear hb;go_wp2_with (first | (refine aZ rfl (bc rfl rfl rfl HT2.out) ?_) | fail);exact bodyPost_ret (cp rfl _ _ _ rfl (World.rangeAt_setCells_same _ _ _ _ (by rw [aF]; exact HT2))) rfl ⟨rfl, below_setCells HB2 ai _⟩
 ·have HB : Hid (dK M d n = aB) := ae (by unfold dK; rw [if_neg hl]);have HE : Hid (cf M d n = dx M d) := ae (by unfold cf; rw [if_neg hl]);have HO := ae (me h1 hl);clear h h1 hA;rw [HB.out, HE.out];rcases c8 M d with ⟨e, _⟩ | ⟨e, _⟩ | ⟨e, _⟩
  rotate_right 1
  ·exact absurd e hl
  all_goals
   rw [e] at HO ⊢;clear e hl;go_enter func81, ntmps81;go_wp2_with (first | (refine av rfl (bq rfl) ?_) | fail);refine HO.out.mono ?_;rintro e w1 ⟨rfl, rfl⟩;go_wp2_with (first | (refine av rfl (cr (c := aB) (parts := []) rfl rfl) ?_) | (refine aZ rfl (bc rfl rfl rfl HT.out) ?_));exact bodyPost_ret (cp rfl _ _ _ rfl (World.rangeAt_setCells_same _ _ _ _ (by rw [aF]; exact HT))) rfl ⟨rfl, below_setCells HA ai _⟩
theorem qM (d : Int) (h : bu (bV D) w p v Fs ps M) (hl : fm M d ≠ 0) :
  Calls prog 15 #[.pointer (some ⟨p, 0, none⟩), .int .i64 d] w fun e w' => e = .returned (.int .i64 (gr M d)) /\ Left (bV D) w p v Fs ps M.ds.length (eO M d) w' := by
 have HE : Hid (gr M d = fm M d) := ae (by unfold gr; rw [if_neg hl]);have HL : Hid (∀ w', Below w.heap.size w w' -> Left (bV D) w p v Fs ps M.ds.length (eO M d) w') := ae (fun w' hb => by
  have e : eO M d = M := by unfold eO; rw [if_neg hl]
  rw [e];exact ⟨Fs, ps, h.below hb, Only.of_below _ hb, Grow.same _ _⟩)
 by_cases h0 : dx M d = 0
 ·rcases c8 M d with ⟨e, _⟩ | ⟨e, _⟩ | ⟨e, hdk, k, rfl, hk⟩
  ·omega
  ·omega
  obtain ⟨x, hx⟩ : ∃ x, M.ds.getD k bJ = x := ⟨_, rfl⟩;have hat := h.devs.at_ k hk;rw [hx] at hat
  have hg : x.g = true := by
   cases hg : x.g
   ·exfalso; apply hl; unfold fm; rw [if_pos e, show M.dev (k : Int) = x from hx, hg, if_neg (by decide)]
   ·rfl
  have H9 : Hid (fm M (k : Int) = 9) := ae (by unfold fm; rw [if_pos e, show M.dev (k : Int) = x from hx, hg, if_pos rfl]);have HO := ae (ie h hdk hk);have HD := ae (D.dead hat);have HG := ae hg;clear e h hat hx hdk hl h0 hg;generalize ps.getD k 0 = q at *;go_enter func15, ntmps15;go_wp2_with fail;refine HO.out.mono ?_;rintro e w1 ⟨rfl, rfl⟩;go_wp2_with fail;refine HD.out.mono ?_;rintro e w2 ⟨rfl, hb⟩;rw [HG.out];have HBB := ae hb;clear hb;go_wp2_with fail;go_ret;exact ⟨bD (by rw [HE.out, H9.out]), HL.out _ HBB⟩
 ·have HA : Hid (fm M d = dx M d) := ae (by unfold fm; rw [if_neg h0]);have HO := ae (me h h0);clear h hl;rw [HE.out, HA.out];rcases c8 M d with ⟨e, _⟩ | ⟨e, _⟩ | ⟨e, _⟩
  rotate_right 1
  ·exact absurd e h0
  all_goals
   rw [e] at HO ⊢;clear e h0;go_enter func15, ntmps15;go_wp2_with fail;refine HO.out.mono ?_;rintro e w1 ⟨rfl, rfl⟩;go_wp2_with fail;go_ret;exact ⟨rfl, HL.out _ aj⟩
theorem zx (d : Int) (h : bu (bV D) w p v Fs ps M) (hs : M.steps < 1000000) (hll : M.left < 9223372036854775808) :
  Calls prog 15 #[.pointer (some ⟨p, 0, none⟩), .int .i64 d] w fun e w' => e = .returned (.int .i64 (gr M d)) /\ Left (bV D) w p v Fs ps M.ds.length (eO M d) w' := by
 by_cases hl : fm M d = 0;rotate_left 1
 ·exact qM d h hl
 have hlit : dx M d = 0 := by
  unfold fm at hl;by_cases h0 : dx M d = 0
  ·exact h0
  ·rw [if_neg h0] at hl; exact hl
 rcases c8 M d with ⟨e, _⟩ | ⟨e, _⟩ | ⟨e, hdk, k, rfl, hk⟩
 ·omega
 ·omega
 obtain ⟨x, hx⟩ : ∃ x, M.ds.getD k bJ = x := ⟨_, rfl⟩;have hat := h.devs.at_ k hk;rw [hx] at hat
 have hg : x.g = false := by
  cases hg : x.g
  ·rfl
  ·exfalso; unfold fm at hl; rw [if_pos e, show M.dev (k : Int) = x from hx, hg, if_pos rfl] at hl; omega
 have HEE : Hid (gr M (k : Int) = M.dp) := ae (by unfold gr; rw [if_pos hl]);have HO := ae (ie h hdk hk);have HD := ae (D.dead hat);have HG := ae hg;obtain ⟨q, hq⟩ : ∃ q, ps.getD k 0 = q := ⟨_, rfl⟩;rw [hq] at HO HD;by_cases h1 : M.left = 1
 ·have HE : Hid (M.dp = 8) := ae (by unfold aM.dp; rw [if_pos h1]);have HS : Hid (eO M (k : Int) = M.night) := ae (by unfold eO; rw [if_pos hl, if_pos h1]);have HH := ae h;have H1 := ae h1;clear e h hat hx hdk hl hg h1 hlit hs hll hq;go_enter func15, ntmps15;go_wp2_with fail;refine HO.out.mono ?_;rintro e w1 ⟨rfl, rfl⟩;go_wp2_with fail;refine HD.out.mono ?_;rintro e w2 ⟨rfl, hb⟩;rw [HG.out];have HBB := ae hb;clear hb;go_wp2_with fail;refine (lE _ (HH.out.below HBB) H1).mono ?_;rintro e w3 ⟨rfl, h3, ho3⟩;go_wp2_with fail;go_ret;refine ⟨bD (by rw [HEE.out, HE.out]), ?_⟩;rw [HS.out];exact ⟨Fs, ps, h3, (Only.of_below _ HBB).trans (kq _ ho3) fun b hb => .inl hb, Grow.same _ _⟩
 ·have HE : Hid (M.dp = 0) := ae (by unfold aM.dp; rw [if_neg h1]);have HS : Hid (eO M (k : Int) = M.done.put k ⟨flS x.S x.L, [], x.g⟩) := ae (by unfold eO; rw [if_pos hl, if_neg h1, show M.dev (k : Int) = x from hx]; rfl);have HH := ae h;have H1 := ae h1;have HX := ae hx;have HSS := ae hs;have HLL := ae hll;have HQ := ae hq;clear e h hat hx hdk hl hg h1 hlit hs hll hq;go_enter func15, ntmps15;go_wp2_with fail;refine HO.out.mono ?_;rintro e w1 ⟨rfl, rfl⟩;go_wp2_with fail;refine HD.out.mono ?_;rintro e w2 ⟨rfl, hb⟩;rw [HG.out];have HBB := ae hb;clear hb;go_wp2_with fail;refine (nc 52 #[.pointer (some ⟨q, 0, none⟩)] #[] (HH.out.below HBB) H1 HSS HLL call52 (fun z w3 => z = 0 /\ Left (bV D) w2 p v Fs ps M.ds.length (eO M (k : Int)) w3) ?_).mono ?_
  ·intro w3 h3 ho3;have hat3 := h3.devs.at_ k hk;rw [show M.done.ds.getD k bJ = x from HX.out, HG.out, HQ.out] at hat3;refine (D.flush hat3).mono ?_;rintro e w4 ⟨he, F', g1, g2, g3⟩;refine ⟨0, by simpa using he, rfl, Left.behind ho3 (Left.turn h3 hk g2 g3 (d := ⟨flS x.S x.L, [], x.g⟩) (show D.Dv _ _ _ _ _ _ by rw [HG.out, HQ.out]; simpa using g1) HS)⟩
  ·rintro e w4 ⟨z, rfl, rfl, Fs', ps', h4, ho4, hg4⟩;go_wp2_with fail;go_ret;refine ⟨bD (by rw [HEE.out, HE.out]), Fs', ps', h4, (Only.of_below _ HBB).trans ho4 fun b hb => .inl hb, fun b hb => ?_⟩;rcases hg4 b hb with e | e
   ·exact .inl e
   ·exact .inr (ap HBB.out.size e)
end
section
variable {D : Dev} {w w' : World} {p : Nat} {v : Value} {Fs : Nat -> Nat -> Prop} {ps : List Nat} {M : aM}
def wr3 (w : World) (n : Int) (b : Blk) (q : Option Addr) : World := ((w.alloc (.cells #[.int .i64 n] 3)).alloc (.cells (cel b).toArray 29)).alloc (.cells #[.pointer q] 84)
theorem ky (w : World) (n : Int) (b : Blk) (q : Option Addr) : Below w.heap.size w (wr3 w n b q) /\ (wr3 w n b q).heap[w.heap.size]? = some (.cells #[.int .i64 n] 3) /\ (wr3 w n b q).heap[w.heap.size + 1]? = some (.cells (cel b).toArray 29) /\ (wr3 w n b q).heap[w.heap.size + 1 + 1]? = some (.cells #[.pointer q] 84) /\ (wr3 w n b q).heap.size = w.heap.size + 1 + 1 + 1 := by
 unfold wr3;have e1 := World.size_alloc (w := w) (o := .cells #[.int .i64 n] 3);have e2 := World.size_alloc (w := w.alloc (.cells #[.int .i64 n] 3)) (o := .cells (cel b).toArray 29);have e3 := World.size_alloc (w := (w.alloc (.cells #[.int .i64 n] 3)).alloc (.cells (cel b).toArray 29)) (o := .cells #[.pointer q] 84);have n1 := kR w #[.int .i64 n] 3;have n2 := kR (w.alloc (.cells #[.int .i64 n] 3)) (cel b).toArray 29;have n3 := kR ((w.alloc (.cells #[.int .i64 n] 3)).alloc (.cells (cel b).toArray 29)) #[.pointer q] 84;rw [e2, e1] at n3;rw [e1] at n2;refine ⟨(((Below.refl _ w).alloc ai _).alloc (by omega) _).alloc (by omega) _, bv (bv n1 _) _, bv n2 _, n3, by omega⟩
theorem acA {q a b c : Nat} {n : Int} {x : Blk} {F : Nat -> Prop} {S : List Blk} {L : List (Int × Blk)} {g : Bool} (h : D.Dv w F q S L g) (hL : L.length < 1000000) (hq : w.heap[a]? = some (.cells #[.pointer (some ⟨q, 0, none⟩)] 84)) (hn : w.heap[b]? = some (.cells #[.int .i64 n] 3)) (hx : w.heap[c]? = some (.cells (cel x).toArray 29)) :
  Calls prog 40 #[.pointer (some ⟨a, 0, none⟩), .pointer (some ⟨b, 0, none⟩), .pointer (some ⟨c, 0, none⟩)] w fun e w' => e = .returned (.int .i64 (cx S g n)) /\ ∃ F', D.Dv w' F' q S (wrL S L g n x) g /\ Only F w w' /\ Grow w F F' := by
 obtain ⟨c1, f1⟩ := one_cell hq;obtain ⟨c2, f2⟩ := one_cell hn;have HR := ae (gt hx);have HD := ae (D.write n x hL h);clear h hq hn hx;go_enter func40, ntmps40;go_wp2_with (first | (refine av rfl (bk rfl rfl HR) ?_) | fail);refine HD.out.mono ?_;rintro e w4 ⟨rfl, F', g1, g2, g3⟩;go_wp2_with fail;go_ret;exact ⟨rfl, F', g1, g2, g3⟩
theorem oQ (d n : Int) (x : Blk) (h : bu (bV D) w p v Fs ps M) (h0 : dx M d ≠ 0) :
  Calls prog 9 #[.pointer (some ⟨p, 0, none⟩), .int .i64 d, .int .i64 n, blk x] w fun e w' => e = .returned (.int .i64 (dx M d)) /\ Below w.heap.size w w' := by
 have hA : Below w.heap.size w ((w.alloc (.cells #[.int .i64 n] 3)).alloc (.cells (cel x).toArray 29)) := ((Below.refl _ w).alloc ai _).alloc (by rw [World.size_alloc]; omega) _;have HO := ae (me (h.below hA) h0);have HF := ae (ky w n x none).1;clear h hA;rcases c8 M d with ⟨e, _⟩ | ⟨e, _⟩ | ⟨e, _⟩
 rotate_right 1
 ·exact absurd e h0
 all_goals
  rw [e] at HO ⊢;clear e h0;go_enter func9, ntmps9;go_wp2_with (first | (refine av rfl (cd rfl rfl) ?_) | fail);refine HO.out.mono ?_;rintro e w1 ⟨rfl, rfl⟩;go_wp2_with fail;go_ret;exact ⟨rfl, HF⟩
end
section
variable {D : Dev} {w w' : World} {p : Nat} {v : Value} {Fs : Nat -> Nat -> Prop} {ps : List Nat} {M : aM}
theorem oZ (n : Int) (x : Blk) (h : bu (bV D) w p v Fs ps M) {k : Nat} (hdk : M.bz = false) (hk : k < M.ds.length) (he : cx (M.ds.getD k bJ).S (M.ds.getD k bJ).g n ≠ 0) :
  Calls prog 9 #[.pointer (some ⟨p, 0, none⟩), .int .i64 k, .int .i64 n, blk x] w fun e w' => e = .returned (.int .i64 (cx (M.ds.getD k bJ).S (M.ds.getD k bJ).g n)) /\ Below w.heap.size w w' := by
 obtain ⟨y, hy⟩ : ∃ y, M.ds.getD k bJ = y := ⟨_, rfl⟩;obtain ⟨q, hq⟩ : ∃ q, ps.getD k 0 = q := ⟨_, rfl⟩;have hA : Below w.heap.size w ((w.alloc (.cells #[.int .i64 n] 3)).alloc (.cells (cel x).toArray 29)) := ((Below.refl _ w).alloc ai _).alloc (by rw [World.size_alloc]; omega) _;have HO := ae (ie (h.below hA) hdk hk);obtain ⟨hB, k0, k1, k2, hsz⟩ := ky w n x (some ⟨q, 0, none⟩);have hat := (h.below hB).devs.at_ k hk;rw [hy, hq] at hat
 rw [hy] at he ⊢;rw [hq] at HO;have HD := ae (D.sure n hat);have HB := ae hB;obtain ⟨c0, f0⟩ := one_cell k0;obtain ⟨c2, f2⟩ := one_cell k2;rcases ey (S := y.S) (g := y.g) (n := n) with e | e | ⟨e, _⟩
 rotate_right 1
 ·exact absurd e he
 all_goals
  rw [e] at HD ⊢;clear e he h hA hB k0 k1 k2 hat hy hq hdk;go_enter func9, ntmps9;unfold wr3 at *;go_wp2_with (first | (refine av rfl (cd rfl rfl) ?_) | fail);refine HO.out.mono ?_;rintro e w1 ⟨rfl, rfl⟩;go_wp2_with fail;refine HD.out.mono ?_;rintro e w2 ⟨rfl, hb⟩;have HBB := ae (HB.out.trans (hb.mono (by rw [hsz]; omega)));clear hb;go_wp2_with (first | (refine av rfl (bq rfl) ?_) | (refine aZ rfl (iG rfl rfl rfl) ?_) | fail);go_ret;exact ⟨rfl, HBB.out.alloc HBB.out.size _⟩
theorem qT (n : Int) (x : Blk) (h : bu (bV D) w p v Fs ps M) {k : Nat} (hdk : M.bz = false) (hk : k < M.ds.length) (he : cx (M.ds.getD k bJ).S (M.ds.getD k bJ).g n = 0) (hs : M.steps < 1000000) (hll : M.left < 9223372036854775808) (hL : (M.ds.getD k bJ).L.length < 1000000) :
  Calls prog 9 #[.pointer (some ⟨p, 0, none⟩), .int .i64 k, .int .i64 n, blk x] w fun e w' => e = .returned (.int .i64 M.dp) /\ Left (bV D) w p v Fs ps M.ds.length (dr M (k : Int) n x) w' := by
 obtain ⟨y, hy⟩ : ∃ y, M.ds.getD k bJ = y := ⟨_, rfl⟩;obtain ⟨q, hq⟩ : ∃ q, ps.getD k 0 = q := ⟨_, rfl⟩;have hA : Below w.heap.size w ((w.alloc (.cells #[.int .i64 n] 3)).alloc (.cells (cel x).toArray 29)) := ((Below.refl _ w).alloc ai _).alloc (by rw [World.size_alloc]; omega) _;have HO := ae (ie (h.below hA) hdk hk);obtain ⟨hB, k0, k1, k2, hsz⟩ := ky w n x (some ⟨q, 0, none⟩);have hat := (h.below hB).devs.at_ k hk;have hr0 : cf M (k : Int) n = 0 := by unfold cf; rw [if_pos (iI hdk hk), M.gP]; exact he
 rw [hy, hq] at hat
 rw [hy] at he hL;rw [hq] at HO;have HD := ae (D.sure n hat);have HB := ae hB;have HH := ae h;have HK0 := ae k0;have HK1 := ae k1;have HK2 := ae k2;have HE := ae he;have HSS := ae hs;have HLL := ae hll;have HL := ae hL;have HY := ae hy;have HQ := ae hq;have HR := ae hr0;obtain ⟨c0, f0⟩ := one_cell k0;obtain ⟨c2, f2⟩ := one_cell k2;rw [he] at HD;by_cases h1 : M.left = 1
 all_goals
  have H1 := ae h1;clear h1 he h hA hB k0 k1 k2 hat hy hq hdk hs hll hL hr0;go_enter func9, ntmps9;unfold wr3 at *;go_wp2_with (first | (refine av rfl (cd rfl rfl) ?_) | fail);refine HO.out.mono ?_;rintro e w1 ⟨rfl, rfl⟩;go_wp2_with fail;refine HD.out.mono ?_;rintro e w2 ⟨rfl, hb⟩;have hb2 := HB.out.trans (hb.mono (by rw [hsz]; omega));have HBB := ae (hb2.alloc hb2.size (.cells (cel (ic y.S y.g n)).toArray 29));have HA0 := ae (bv (aC HK0 hb) (.cells (cel (ic y.S y.g n)).toArray 29));have HA1 := ae (bv (aC HK1 hb) (.cells (cel (ic y.S y.g n)).toArray 29));have HA2 := ae (bv (aC HK2 hb) (.cells (cel (ic y.S y.g n)).toArray 29));clear hb hb2 c0 c2 f0 f2 hsz;generalize ic y.S y.g n = z at *;go_wp2_with (first | (refine av rfl (bq rfl) ?_) | (refine aZ rfl (iG rfl rfl rfl) ?_) | fail);generalize w2.alloc (.cells (cel z).toArray 29) = w3 at *
 ·refine (lE _ (HH.out.below HBB) H1).mono ?_;rintro e w4 ⟨rfl, h4, ho4⟩;go_wp2_with fail;go_ret;refine ⟨bD (by unfold aM.dp; rw [if_pos H1.out]), ?_⟩;rw [show dr M (k : Int) n x = M.night from by unfold dr; rw [if_pos HR.out, if_pos H1.out]];exact Left.above HBB (Left.obj h4 ho4 rfl)
 ·refine (nc 40 #[] _ (HH.out.below HBB) H1 HSS HLL call40 (fun z w4 => z = 0 /\ Left (bV D) w3 p v Fs ps M.ds.length (dr M (k : Int) n x) w4) ?_).mono ?_
  ·intro w4 h4 ho4;have hat4 := h4.devs.at_ k hk;rw [show M.done.ds.getD k bJ = y from HY.out, HQ.out] at hat4;have hne : ∀ j, j < 3 -> w.heap.size + j ≠ p := fun j _ e => by have := aW HH.out.at_; omega
   refine (acA hat4 HL (ho4.keep HA2 (hne 2 (by omega))) (ho4.keep HA0 (hne 0 (by omega))) (ho4.keep HA1 (hne 1 (by omega)))).mono ?_;rintro e w5 ⟨he5, F', g1, g2, g3⟩;refine ⟨_, he5, HE, Left.behind ho4 (Left.turn h4 hk g2 g3 (d := ⟨y.S, wrL y.S y.L y.g n x, y.g⟩) (show D.Dv _ _ _ _ _ _ by rw [HQ.out]; exact g1) ?_)⟩;unfold dr;rw [if_pos HR.out, if_neg H1.out, show M.dev (k : Int) = y from HY.out]
   rfl
  ·rintro e w5 ⟨z, rfl, rfl, hl5⟩;have HL5 := ae (Left.above HBB hl5);clear hl5;go_wp2_with fail;go_ret;exact ⟨bD (by unfold aM.dp; rw [if_neg H1.out]), HL5⟩
theorem yL (d n : Int) (x : Blk) (h : bu (bV D) w p v Fs ps M) (hr : ∀ i, i < M.ds.length -> (M.ds.getD i bJ).L.length < 1000000) (hs : M.steps < 1000000) (hll : M.left < 9223372036854775808) :
  Calls prog 9 #[.pointer (some ⟨p, 0, none⟩), .int .i64 d, .int .i64 n, blk x] w fun e w' => e = .returned (.int .i64 (iQ M d n)) /\ Left (bV D) w p v Fs ps M.ds.length (dr M d n x) w' := by
 by_cases h0 : dx M d = 0
 ·rcases c8 M d with ⟨e, _⟩ | ⟨e, _⟩ | ⟨e, hdk, k, rfl, hk⟩
  ·omega
  ·omega
  have hr0 : cf M (k : Int) n = cx (M.ds.getD k bJ).S (M.ds.getD k bJ).g n := by unfold cf; rw [if_pos e, M.gP]
  by_cases he : cx (M.ds.getD k bJ).S (M.ds.getD k bJ).g n = 0
  ·refine (qT n x h hdk hk he hs hll (hr k hk)).mono ?_;rintro e w' ⟨rfl, hl⟩;exact ⟨by unfold iQ; rw [hr0, if_pos he], hl⟩
  ·refine (oZ n x h hdk hk he).mono ?_;rintro e w' ⟨rfl, hb⟩;exact ⟨by unfold iQ; rw [hr0, if_neg he], Left.rl h hb (by unfold dr; rw [hr0, if_neg he])⟩
 ·refine (oQ d n x h h0).mono ?_;rintro e w' ⟨rfl, hb⟩;have hr0 : cf M d n = dx M d := by unfold cf; rw [if_neg h0]
  exact ⟨by unfold iQ; rw [hr0, if_neg h0], Left.rl h hb (by unfold dr; rw [hr0, if_neg h0])⟩
end
def lz (k : Int) : gG := ⟨List.replicate k.toNat aB, [], false⟩
theorem fk (ks : List Int) : (bW ks).ds = ks.map lz := rfl
structure Making (kd : fu) (w wr : World) (v : Value) (Fs : Nat -> Nat -> Prop) (ps : List Nat) (ds : List gG) (left : Nat) (bz : Bool) (steps : Nat) : Prop where
 at_ : wr.heap[w.heap.size]? = some (.cells (kd.cs v left bz steps) kd.o)
 row : bg kd.E wr w.heap.size v ps
 devs : iU kd.K wr Fs ps ds
 apart : ∀ i, i < ds.length -> ∀ b, Fs i b -> w.heap.size < b /\ v.ownBlock ≠ some b
 below : Below w.heap.size w wr
section
variable {kd : fu} {w wr w1 w3 : World} {v v' : Value} {Fs : Nat -> Nat -> Prop} {F' : Nat -> Prop} {ps : List Nat} {ds : List gG} {p' : Nat} {d : gG} {o2 : Obj} {left steps : Nat} {bz : Bool}
theorem Making.next (hcs : ∀ v v', (kd.cs v left bz steps).setIfInBounds 0 v' = kd.cs v' left bz steps) (h : Making kd w wr v Fs ps ds left bz steps) (hb1 : Below wr.heap.size wr w1) (hF : ∀ b, F' b -> wr.heap.size <= b) (hd : kd.K.Dv w1 F' p' d.S d.L d.g)
  (hm : bg kd.E w3 w.heap.size v' (ps ++ [p'])) (hg : (w1.alloc o2).grownBy w3 v.ownBlock) (ho : ∀ x, v'.ownBlock = some x -> v.ownBlock = some x \/ w1.heap.size + 1 <= x) :
  Making kd w (w3.setCell ⟨w.heap.size, 0, none⟩ v') v' (upF Fs ds.length F') (ps ++ [p']) (ds ++ [d]) left bz steps := by
 have hx := aW h.at_;have h1 := hb1.size;have hsz : (w1.alloc o2).heap.size = w1.heap.size + 1 := World.size_alloc _ _;have hvl : ∀ b, v.ownBlock = some b -> b < wr.heap.size := h.row.i3;have o3 : Only (fun b => v.ownBlock = some b) w1 w3 := (Only.of_below _ ((Below.refl _ w1).alloc ai o2)).trans ((Only.refl (fun b => v.ownBlock = some b) _).grown hg fun k e => .inl e) fun b hb => .inl hb
 have hvx : v.ownBlock ≠ some w.heap.size := h.row.dn h.at_ kd.ne;have hat1 := aC h.at_ hb1;have hat3 := o3.keep hat1 hvx;have o4 : Only (fun b => b = w.heap.size \/ v.ownBlock = some b) w1 (w3.setCell ⟨w.heap.size, 0, none⟩ v') := (o3.widen fun b hb => .inr hb).setCell (p := ⟨w.heap.size, 0, none⟩) (.inl (.inl rfl)) _;have hv3 : v'.ownBlock ≠ some w.heap.size := hm.dn hat3 kd.ne;have hdv := h.devs.push hb1 hF hd;have hap : ∀ i, i < (ds ++ [d]).length -> ∀ b, upF Fs ds.length F' i b -> w.heap.size < b /\ v.ownBlock ≠ some b /\ b < w1.heap.size := fun i hi b hb => by
  have hlt := hdv.lt i hi b hb;rcases hb with ⟨e, hb⟩ | ⟨e, hb⟩
  ·have := hF b hb;exact ⟨by omega, fun e => by have := hvl b e; omega, hlt⟩
  ·rw [List.length_append, List.length_singleton] at hi;exact ⟨(h.apart i (by omega) b hb).1, (h.apart i (by omega) b hb).2, hlt⟩
 refine ⟨?_, hm.only (cZ w3 w.heap.size 0 v') fun b hb e => hv3 (by rw [hb, e]), hdv.only o4 fun i hi b hb e => ?_, fun i hi b hb => ⟨(hap i hi b hb).1, fun e => ?_⟩, ?_⟩
 ·have := heap_setCell_same w3 w.heap.size 0 _ _ v' hat3;rw [hcs] at this;exact this
 ·rcases e with e | e
  ·have := (hap i hi b hb).1; omega
  ·exact (hap i hi b hb).2.1 e
 ·rcases ho b e with e | e
  ·exact (hap i hi b hb).2.1 e
  ·have := (hap i hi b hb).2.2; omega
 ·have hb01 : Below w.heap.size w w1 := h.below.trans (hb1.mono h.below.size);refine hb01.trans (o4.below (fun b hb => ?_) hb01.size);rcases hb with e | e
  ·omega
  ·exact h.row.kv b e
theorem Making.done (h : Making kd w wr v Fs ps ds left bz steps) (h1 : 1 <= ds.length) (h2 : ds.length <= 17) : bu kd wr w.heap.size v Fs ps ⟨ds, left, bz, steps⟩ /\ (∀ b, fQ w.heap.size v Fs ds.length b -> w.heap.size <= b) /\ Below w.heap.size w wr :=
 ⟨⟨h.at_, h.row.base (Nat.zero_le _), h.devs, fun i hi b hb => ⟨by have := (h.apart i hi b hb).1; omega, (h.apart i hi b hb).2⟩, h1, h2⟩, fun b hb => by
  rcases hb with e | e | ⟨i, hi, e⟩
  ·omega
  ·exact h.row.kv b e
  ·have := (h.apart i hi b e).1; omega, h.below⟩
end
def eA (kd : fu) (w : World) (ks : List Int) (e : Ending) (w' : World) : Prop :=
 Below w.heap.size w w' /\ ((gh ks /\ ∃ p v Fs ps, e = .returned (.tuple #[.pointer (some ⟨p, 0, none⟩), .int .i64 0]) /\ bu kd w' p v Fs ps (bW ks) /\ ∀ b, fQ p v Fs (bW ks).ds.length b -> w.heap.size <= b) \/ (¬ gh ks /\ e = .returned (.tuple #[.pointer none, .int .i64 2])))
theorem eA.no {kd : fu} {w w' : World} {ks : List Int} (hb : Below w.heap.size w w') (hn : ¬ gh ks) {e : Ending} (he : e = .returned (.tuple #[.pointer none, .int .i64 2])) : eA kd w ks e w' := ⟨hb, .inr ⟨hn, he⟩⟩
theorem iX {ks : List Int} {j : Nat} (h : j < ks.length) : (ks.take (j + 1)).map lz = (ks.take j).map lz ++ [lz (ks.getD j 0)] := by
 rw [List.take_add_one, List.getD, List.getElem?_eq_getElem h, List.map_append]; rfl
section
variable {D : Dev} {w w' : World}
theorem ace {A : Option Addr} {n c : Nat} {ks : List Int} (hl : RdE iu w w.heap.size A n ks) (hnc : n <= c) (hc : c <= maxLen) :
  Calls prog 34 #[.slice A n c] w (eA (bV D) w ks) := by
 have hlen : ks.length = n := hl.1;unfold maxLen at hc;by_cases h1 : n < 1
 ·have HN := ae (show ¬ gh ks from fun h => by have := h.1; omega);have h0 : n = 0 := by omega
  subst h0;clear hl hlen h1;go_enter func34, ntmps34;go_wp2;go_ret2;exact eA.no aj HN rfl
 by_cases h2 : 17 < n
 ·have HN := ae (show ¬ gh ks from fun h => by have := h.2.1; omega);have h1' : ¬((n : Int) < 1) := by omega
  have h2' : ((n : Int) > 17) := by omega
  clear hl hlen h1 h2;go_enter func34, ntmps34;go_wp2;go_ret2;exact eA.no aj HN rfl
 have h1' : ¬((n : Int) < 1) := by omega
 have h2' : ¬((n : Int) > 17) := by omega
 have h3' : ¬(17 < (n : Int)) := by omega
 have HL := ae hl;have HLEN := ae hlen;have HMK := ae (show Making (bV D) w (w.alloc (.cells #[.slice none 0 0, .int .i64 0, .int .i64 0, .bool false] 75)) (.slice none 0 0) (fun _ _ => False) [] [] 0 false 0 from
  ⟨heap_alloc_new w _, bg.nil _ _, ⟨rfl, fun i hi => absurd hi (Nat.not_lt_zero i), fun i j hi => absurd hi (Nat.not_lt_zero i)⟩, fun i hi => absurd hi (Nat.not_lt_zero i), (Below.refl _ w).alloc ai _⟩)
 clear hl hlen;go_enter func34, ntmps34;go_wp2_with fail;generalize w.alloc (.cells #[.slice none 0 0, .int .i64 0, .int .i64 0, .bool false] 75) = w0 at *;clear h1' h2' h3'
 go_loopw [21] (fun i wr => ∃ (j : Nat) (v : Value) (Fs : Nat -> Nat -> Prop) (ps : List Nat), j <= n /\ i = .int .i64 j /\ Making (bV D) w wr v Fs ps ((ks.take j).map lz) 0 false 0 /\ ∀ q, q < j -> 1 <= ks.getD q 0 /\ ks.getD q 0 <= 512) (fun i _ => n - (intOf i).toNat)
 case atStart => exact ⟨0, _, _, _, Nat.zero_le _, rfl, HMK, fun q hq => absurd hq (Nat.not_lt_zero q)⟩
 case round =>
  obtain ⟨j, v, Fs, ps, hj, rfl, hmk, hall⟩ := hrel;have HALL := ae hall;clear hall HMK;by_cases hlt : j < n
  ·have hlj : (j : Int) < (n : Int) := by omega
   obtain ⟨bA, oA, rfl, hbA, hcA⟩ := (HL.out.below hmk.below).int hlt;have HM := ae hmk;obtain ⟨AS, cS, rfl, hs1, hs2⟩ := hmk.row.form;unfold maxLen at hs2;have hpl : ps.length = j := by have := hmk.devs.len; rw [List.length_map, List.length_take] at this; have := HLEN.out; omega
   have HPL := ae hpl;obtain ⟨z, hz⟩ : ∃ z, ks.getD j 0 = z := ⟨_, rfl⟩;rw [hz] at hcA;have HZ := ae hz;clear hmk hz hpl;by_cases hok : 1 <= z /\ z <= 512
   ·obtain ⟨k, rfl⟩ : ∃ k : Nat, z = k := ⟨z.toNat, by omega⟩;have hk1 : 1 <= k := by omega
    have hk2 : k <= 512 := by omega
    clear hok;go_wp2_with fail;refine (D.new_ok k wr hk1 hk2).mono ?_;rintro e w1 ⟨p', F', rfl, hd1, hb1, hF1⟩;have hat1 := aC HM.out.at_ hb1;obtain ⟨c0, c1, c2, c3⟩ := dz hat1;have hrow1 := HM.out.row.below hb1;have hrow2 := hrow1.below ((Below.refl _ w1).alloc ai (.cells ((bV D).E.cel p').toArray (bV D).E.t));have HR := ae hrow2;have HNEW := ae (gR (E := (bV D).E) (l := [p']) w1 ((bV D).E.cel p').toArray (bV D).E.t (by rw [dR]; simp [co]));have HSZ := ae (show w.heap.size <= (w1.alloc (.cells ((bV D).E.cel p').toArray (bV D).E.t)).heap.size by rw [World.size_alloc]; have := HM.out.below.size; have := hb1.size; omega);have HD1 := ae hd1;have HB1 := ae hb1;have HF1 := ae hF1;have HAT := ae hat1;have HPS := ae (show ps.length + 1 <= 34359738368 by have := HPL.out; omega);clear hd1 hb1 hF1 hat1 hrow1 hrow2;have hal : w.heap.size < w1.heap.size := aW HAT;go_wp2_with (first | (refine av rfl (eS (E := (bV D).E) (a := p') rfl rfl rfl (by decide)) ?_) | (at_builtin; refine gT (bV D).E rfl _ _ rfl w.heap.size _ _ _ _ ps [p'] _ rfl rfl HR HNEW HSZ HPS ?_) | fail);intro v' w3 hm3 hg3 ho3;have hxv : v'.ownBlock ≠ some w.heap.size := fun e => by
     rcases ho3 _ e with e' | e'
     ·exact HM.out.row.dn HM.out.at_ (bV D).ne e'
     ·omega
    have HNX := ae (HM.out.next (fun _ _ => rfl) HB1 HF1 (d := lz k) HD1 hm3 hg3 ho3);have hvx : (Value.slice AS ps.length cS).ownBlock ≠ some w.heap.size := HM.out.row.dn HM.out.at_ (bV D).ne;have hat3 : w3.heap[w.heap.size]? = some _ := (hg3.block w.heap.size (by rw [World.size_alloc]; omega) (fun e => hvx e.symm)).trans (bv HAT _);obtain ⟨AV, cV, rfl, _, _⟩ := hm3.form;obtain ⟨d0, d1, d2, d3⟩ := dz hat3;have f0 := frozen_of_row w3 w.heap.size 0 _ _ hat3;clear hm3 hg3 ho3 hat3 c0 c1 c2 c3;go_wp2_with fail;go_roundw
    case rel =>
     refine ⟨j + 1, .slice AV (ps.length + 1) cV, upF Fs (List.map lz (List.take j ks)).length F', ps ++ [p'], by omega, by go_num, ?_, fun q hq => ?_⟩
     ·rw [iX (by have := HLEN.out; omega), HZ.out];have h6 := HNX.out;rw [show (ps ++ [p']).length = ps.length + 1 from by simp] at h6;exact h6
     ·by_cases e : q = j
      ·subst e; rw [HZ.out]; omega
      ·exact HALL.out q (by omega)
    case measure => simp [intOf]; omega
   ·have HB := ae HM.out.below;have HN := ae (show ¬ gh ks from fun h => hok (by have := h.2.2 z (by rw [<- HZ.out]; exact iw (by have := HLEN.out; omega)); exact this));go_wp2_with fail;refine (D.new_no z wr hok).mono ?_;rintro e w1 ⟨rfl, hb1⟩;have HB1 := ae (HB.out.trans (hb1.mono HB.out.size));clear hb1 hok;go_wp2_with fail;go_ret2;exact eA.no HB1 HN rfl
  ·have hjn : j = n := by omega
   subst hjn;have hlj : ¬((j : Int) < (j : Int)) := by omega
   have HM := ae hmk;clear hmk;go_wp2_with fail;go_ret2;have h5 := HM.out;have hLL := HLEN.out;rw [<- hLL, List.take_length] at h5;obtain ⟨g1, g2, g3⟩ := h5.done (by rw [List.length_map]; omega) (by rw [List.length_map]; omega);refine ⟨g3, .inl ⟨⟨by omega, by omega, fun k hk => ?_⟩, _, _, _, _, rfl, g1, g2⟩⟩;obtain ⟨i, hi, rfl⟩ := List.getElem_of_mem hk;have := HALL.out i (by omega);rwa [List.getD_eq_getElem?_getD, List.getElem?_eq_getElem hi] at this
end
structure se where
 read : FuncId
 write : FuncId
 flush : FuncId
 fail : FuncId
 arm : FuncId
 devices : FuncId
 ex : FuncId
 bz : FuncId
structure aM.Wf (M : aM) : Prop where
 one : 1 <= M.ds.length
 cap : M.ds.length <= 17
 len : ∀ i, i < M.ds.length -> 1 <= (M.ds.getD i bJ).S.length /\ (M.ds.getD i bJ).S.length <= 512
structure Ben (I : se) where
 Bn : World -> (Nat -> Prop) -> Nat -> aM -> Prop
 lt : ∀ {w F p M}, Bn w F p M -> ∀ b, F b -> b < w.heap.size
 only : ∀ {w w' F G p M}, Bn w F p M -> Only G w w' -> (∀ b, F b -> ¬ G b) -> Bn w' F p M
 wf : ∀ {w F p M}, Bn w F p M -> M.Wf
 read : ∀ {w F p M} (d n : Int), Bn w F p M -> Calls prog I.read #[.pointer (some ⟨p, 0, none⟩), .int .i64 d, .int .i64 n] w fun e w' => e = .returned (.tuple #[blk (dK M d n), .int .i64 (cf M d n)]) /\ Below w.heap.size w w'
 write : ∀ {w F p M} (d n : Int) (b : Blk), Room M 1 -> Bn w F p M -> Calls prog I.write #[.pointer (some ⟨p, 0, none⟩), .int .i64 d, .int .i64 n, blk b] w fun e w' => e = .returned (.int .i64 (iQ M d n)) /\ ∃ F', Bn w' F' p (dr M d n b) /\ Only F w w' /\ Grow w F F'
 flush : ∀ {w F p M} (d : Int), Room M 1 -> Bn w F p M -> Calls prog I.flush #[.pointer (some ⟨p, 0, none⟩), .int .i64 d] w fun e w' => e = .returned (.int .i64 (gr M d)) /\ ∃ F', Bn w' F' p (eO M d) /\ Only F w w' /\ Grow w F F'
 fail : ∀ {w F p M} (d : Int), Bn w F p M -> Calls prog I.fail #[.pointer (some ⟨p, 0, none⟩), .int .i64 d] w fun e w' => e = .returned (.int .i64 (kt M d)) /\ ∃ F', Bn w' F' p (gq M d) /\ Only F w w' /\ Grow w F F'
 arm : ∀ {w F p M} (n : Int), Bn w F p M -> Calls prog I.arm #[.pointer (some ⟨p, 0, none⟩), .int .i64 n] w fun e w' => e = .returned (.int .i64 (iS M n)) /\ ∃ F', Bn w' F' p (gA M n) /\ Only F w w' /\ Grow w F F'
 devices : ∀ {w F p M}, Bn w F p M -> Calls prog I.devices #[.pointer (some ⟨p, 0, none⟩)] w fun e w' => e = .returned (.int .i64 (M.ds.length : Int)) /\ Below w.heap.size w w'
 ex : ∀ {w F p M} (d : Int), Bn w F p M -> Calls prog I.ex #[.pointer (some ⟨p, 0, none⟩), .int .i64 d] w fun e w' => e = .returned (.int .i64 (cW M d)) /\ Below w.heap.size w w'
 bz : ∀ {w F p M}, Bn w F p M -> Calls prog I.bz #[.pointer (some ⟨p, 0, none⟩)] w fun e w' => e = .returned (.bool M.bz) /\ Below w.heap.size w w'
theorem Ben.below {I : se} (R : Ben I) {w w' : World} {F : Nat -> Prop} {p : Nat} {M : aM} (h : R.Bn w F p M) (k : Below w.heap.size w w') : R.Bn w' F p M := R.only h (Only.of_below (fun _ => False) k) fun _ _ e => e
section
variable {k : fu} {w w' : World} {F G : Nat -> Prop} {p : Nat} {M M' : aM}
def abt (Bn : World -> (Nat -> Prop) -> Nat -> aM -> Prop) (w : World) (ks : List Int) (e : Ending) (w' : World) : Prop :=
 Below w.heap.size w w' /\ ((gh ks /\ ∃ p F, e = .returned (.tuple #[.pointer (some ⟨p, 0, none⟩), .int .i64 0]) /\ Bn w' F p (bW ks) /\ ∀ b, F b -> w.heap.size <= b) \/ (¬ gh ks /\ e = .returned (.tuple #[.pointer none, .int .i64 2])))
def At {I : se} (R : Ben I) (w0 : World) (B : Nat) (w : World) (p : Nat) (M : aM) : Prop := ∃ F, R.Bn w F p M /\ (∀ b, F b -> B <= b) /\ Below B w0 w /\ B <= w0.heap.size
def InB (k : fu) (w : World) (F : Nat -> Prop) (p : Nat) (M : aM) : Prop := ∃ v Fs ps, F = fQ p v Fs M.ds.length /\ bu k w p v Fs ps M
theorem InB.lt (h : InB k w F p M) : ∀ b, F b -> b < w.heap.size := by
 obtain ⟨v, Fs, ps, rfl, h⟩ := h;exact h.lt
theorem InB.only (h : InB k w F p M) (ho : Only G w w') (hn : ∀ b, F b -> ¬ G b) : InB k w' F p M := by
 obtain ⟨v, Fs, ps, rfl, h⟩ := h;exact ⟨v, Fs, ps, rfl, h.only ho hn⟩
theorem Left.out {v : Value} {Fs : Nat -> Nat -> Prop} {ps : List Nat} (h : Left k w p v Fs ps M.ds.length M' w') : ∃ F', InB k w' F' p M' /\ Only (fQ p v Fs M.ds.length) w w' /\ Grow w (fQ p v Fs M.ds.length) F' := by
 obtain ⟨Fs', ps', h1, h2, h3⟩ := h;exact ⟨_, ⟨v, Fs', ps', rfl, h1⟩, h2, h3⟩
end
def aco : se where
 read := 81
 write := 9
 flush := 15
 fail := 11
 arm := 13
 devices := 25
 ex := 94
 bz := 78
theorem Dev.acp {D : Dev} {w : World} {p : Nat} {v : Value} {Fs : Nat -> Nat -> Prop} {ps : List Nat} {M : aM} (h : bu (bV D) w p v Fs ps M) : M.Wf :=
 ⟨h.one, h.cap, fun i hi => ⟨(D.fit (h.devs.at_ i hi)).2, D.cap (h.devs.at_ i hi)⟩⟩
def acH (D : Dev) : Ben aco where
 Bn := InB (bV D)
 lt := InB.lt
 only := InB.only
 wf := fun ⟨_, _, _, _, h⟩ => D.acp h
 read := fun d n ⟨_, _, _, _, h⟩ => abw d n h
 write := fun d n b hr ⟨_, _, _, e, h⟩ => by
  subst e;exact (yL d n b h (fun i hi => hr.at_ hi) (by have := hr.1; omega) hr.2.1).mono fun e w' ⟨h1, h2⟩ => ⟨h1, h2.out⟩
 flush := fun d hr ⟨_, _, _, e, h⟩ => by
  subst e;exact (zx d h (by have := hr.1; omega) hr.2.1).mono fun e w' ⟨h1, h2⟩ => ⟨h1, h2.out⟩
 fail := fun d ⟨_, _, _, e, h⟩ => by
  subst e;exact (aaG d h).mono fun e w' ⟨h1, h2⟩ => ⟨h1, h2.out⟩
 arm := fun {w F p M} n ⟨_, _, _, e, h⟩ => by
  subst e;exact (ab2 n h).mono fun e w' ⟨h1, h2, h3⟩ => ⟨h1, (Left.obj h2 h3 (by unfold gA; split <;> rfl)).out⟩
 devices := fun ⟨_, _, _, _, h⟩ => (nf h).mono fun e w' ⟨h1, h2⟩ => ⟨h1, fj h2⟩
 ex := fun d ⟨_, _, _, _, h⟩ => uE d h
 bz := fun ⟨_, _, _, _, h⟩ => (rS h).mono fun e w' ⟨h1, h2⟩ => ⟨h1, fj h2⟩
theorem eA.hid {k : fu} {w w' : World} {ks : List Int} {e : Ending} (h : eA k w ks e w') : abt (InB k) w ks e w' := by
 obtain ⟨h1, h | h⟩ := h
 ·obtain ⟨h0, p, v, Fs, ps, h2, h3, h4⟩ := h;exact ⟨h1, .inl ⟨h0, p, _, h2, ⟨v, Fs, ps, rfl, h3⟩, h4⟩⟩
 ·exact ⟨h1, .inr h⟩
structure mQ extends Ben aco where
 new : ∀ {w A n c ks}, RdE iu w w.heap.size A n ks -> n <= c -> c <= maxLen -> Calls prog 34 #[.slice A n c] w (abt Bn w ks)
def aR : mQ where
 toBen := acH abA
 new := fun h1 h2 h3 => (ace h1 h2 h3).mono fun _ _ h => h.hid
def piece (b : List UInt8) (at_ k : Nat) : List UInt8 := (b.drop at_).take k
theorem cM {b : List UInt8} {p k : Nat} (h : p + k <= b.length) : (piece b p k).length = k := by simp [piece]; omega
def ofL (l : List UInt8) : Blk := Vector.ofFn fun i => l.getD i.val 0
theorem kZ (l : List UInt8) {j : Nat} (h : j < 64) : byt (ofL l) j = bt l j := by
 rw [ju _ h];simp [ofL, bt]
theorem sh {l : List UInt8} (h : l.length = 64) : (ofL l).toList = l := fK (by simp [h]) fun k hk => kZ l (by simpa using hk)
theorem rW (b : Blk) : ofL b.toList = b := yC fun j h => kZ _ h
theorem eZ (b : Blk) : b.toList.length = 64 := by simp
theorem pC {l : List UInt8} {p k j : Nat} (h : j < k) : bt (piece l p k) j = bt l (p + j) := by
 unfold bt piece;simp [List.getD, List.getElem?_take_of_lt h, List.getElem?_drop]
theorem iE (x y z : List UInt8) {p k : Nat} (hp : x.length = p) (hk : y.length = k) : piece (x ++ (y ++ z)) p k = y := by
 subst hp hk;simp [piece]
theorem ji (y z : List UInt8) {k : Nat} (hk : y.length = k) : piece (y ++ z) 0 k = y := by
 subst hk;simp [piece]
theorem dZ {x y : List UInt8} {j : Nat} (h : j < x.length) : bt (x ++ y) j = bt x j := by
 unfold bt;simp [List.getD, List.getElem?_append_left h]
theorem eg {x y : List UInt8} {j : Nat} (h : x.length <= j) : bt (x ++ y) j = bt y (j - x.length) := by
 unfold bt;simp [List.getD, List.getElem?_append_right h]
theorem jg {n j : Nat} : bt (List.replicate n 0) j = 0 := by
 unfold bt;by_cases h : j < n
 ·simp [List.getD, h]
 ·simp [List.getD, h]
theorem ge {l x : List UInt8} {off j : Nat} (h : off + x.length <= l.length) : bt (splice l off x) j = if off <= j /\ j < off + x.length then bt x (j - off) else bt l j := by
 unfold splice;have h1 : (l.take off).length = off := by simp; omega
 by_cases hlo : j < off
 ·rw [if_neg (by omega), dZ (by omega)];unfold bt;simp [List.getD, List.getElem?_take_of_lt hlo]
 ·rw [eg (by omega), h1];by_cases hhi : j < off + x.length
  ·rw [if_pos (by omega), dZ (by omega)]
  ·rw [if_neg (by omega), eg (by omega)];unfold bt;simp only [List.getD, List.getElem?_drop];rw [show off + x.length + (j - off - x.length) = j from by omega]
theorem kH (s : Int) (w : World) (h1 : 1 <= s) (h2 : s <= 8) : Calls prog 142 #[.int .i64 s] w fun e w' => e = .returned (.bool true) /\ w = w' := by
 go_enter func142, ntmps142;go_wp2;go_ret;exact ⟨rfl, rfl⟩
def rn (n k : Nat) : Bool := decide (n < 2 ^ k)
theorem qh (n : Nat) (c : Int) (w : World) (h0 : 0 <= c) (h64 : c <= 64) : Calls prog 143 #[.int .u64 n, .int .i64 c] w fun e w' => e = .returned (.bool (rn n c.toNat)) /\ w = w' := by
 obtain ⟨k, rfl⟩ := Int.eq_ofNat_of_zero_le h0;rw [Int.toNat_natCast];go_enter func143, ntmps143;go_wp2;go_ret;refine ⟨a9 ?_, rfl⟩;have e : ((n : Int) / 2 ^ k) = ((n / 2 ^ k : Nat) : Int) := by simp
 rw [e];unfold rn;have h2 : 0 < 2 ^ k := Nat.pow_pos (by omega);rw [Bool.eq_iff_iff];simp only [beq_iff_eq, decide_eq_true_eq];rw [<- Nat.div_eq_zero_iff_lt h2];omega
theorem wY (n k j : Nat) (h : j < k) : bt (aN 8 k n) j = (n : Int) / 2 ^ (j * 8) % 256 := by
 have hl : j < (aN 8 k n).length := by rw [aA]; exact h
 rw [cP hl, fv (by omega) hl, Nat.mul_comm 8 j];simp
theorem vH (n k : Nat) (w : World) (h1 : 1 <= k) (h2 : k <= 8) (hn : n < 256 ^ k) :
  Calls prog 129 #[.int .u64 n, .int .i64 k] w fun e w' => ∃ v, e = .returned (.tuple #[v, .int .i64 0]) /\ Own w' w.heap.size v (aN 8 k n) /\ Below w.heap.size w w' := by
 have hf : rn n (k * 8) = true := by
  have e : (2 : Nat) ^ (k * 8) = 256 ^ k := by rw [Nat.mul_comm, Nat.pow_mul]
  unfold rn;rw [e]
  simpa using hn
 have HF := ae hf;clear hf;have hmk := fun (kl kc : IntKind) (m : Nat) (h1 : 1 * m <= 281474976710656) (h2 : m <= 9223372036854775807) (W : World) => run_make_row' (P := prog) 116 5 (.int .u8 0) 1 underlying116 kf rfl kl kc m h1 h2 W
 have hmk1 := hmk .i64 .i64 k (by omega) (by omega);clear hmk;go_enter func129, ntmps129;go_wp2_with (first | (go_at_call 142; refine (kH _ _ (by omega) (by omega)).mono ?_; rintro e w' ⟨rfl, rfl⟩));refine (qh _ _ _ (by omega) (by omega)).mono ?_;rintro e w' ⟨rfl, rfl⟩;rw [show ((k : Int) * 8).toNat = k * 8 from by omega, HF.out];go_wp2;clear hmk1;have hr0 := World.rowIs_made w (Value.int .u8 0) k 5;obtain ⟨g, hg⟩ : ∃ g, g = w.heap.size := ⟨_, rfl⟩;rw [<- hg] at hr0 ⊢;have hbl0 : Below g w (w.alloc (.cells (madeCells #[Value.int .u8 0] k) 5)) := by rw [hg]; exact aj.alloc ai _
 have HG := ae hg;clear hg HF
 go_loopw [21] (fun i wr => ∃ (j : Nat) (f : Nat -> Int), j <= k /\ i = .int .i64 j /\ wr.rowIs g 5 k (fun j => .int .u8 (f j)) /\ (∀ m, m < j -> f m = bt (aN 8 k n) m) /\ (∀ m, 0 <= f m /\ f m <= 255) /\ Below g w wr) (fun i _ => k - (intOf i).toNat)
 case atStart => exact ⟨0, fun _ => 0, Nat.zero_le _, rfl, hr0, fun j hj => absurd hj (by omega), fun _ => by simp, hbl0⟩
 case round =>
  obtain ⟨j, f, hj, rfl, hrow, hf, hr, hbl⟩ := hrel;by_cases hlt : j < k
  ·have hc := hrow.cell hlt;have hfr := hrow.frozen j;have HFF := ae hf;have HR := ae hr;clear hf hr;go_wp2;go_roundw
   case rel =>
    refine ⟨j + 1, _, by omega, by go_num, (hrow.set j _).congr (g := fun m => .int .u8 (if m = j then bt (aN 8 k n) j else f m)) ?_, ?_, ?_, hbl.setCell ai _⟩
    ·intro m hm
     show (if m = j then Value.int IntKind.u8 (↑n / 2 ^ (j * 8) % 256) else Value.int .u8 (f m)) = _
     split
     ·rw [wY n k j hlt]
     ·rfl
    ·intro m hm
     show (if m = j then bt (aN 8 k n) j else f m) = _
     split
     ·subst m; rfl
     ·exact HFF.out m (by omega)
    ·intro m
     show 0 <= (if m = j then bt (aN 8 k n) j else f m) /\ (if m = j then bt (aN 8 k n) j else f m) <= 255
     split
     ·exact ⟨iY _ _, kG _ _⟩
     ·exact HR.out m
   case measure => simp [intOf]; omega
  ·go_wp2;go_ret2;have hjk : j = k := by omega
   subst hjk;refine ⟨_, rfl, Own.qQ (aA 8 j n) (Nat.le_of_eq HG.out.symm) hrow ai (by unfold maxLen; omega) hf hr, ?_⟩;rw [<- HG.out];exact hbl
theorem mf {b : List UInt8} {p k : Nat} (h : p + k < b.length) : (val 8 (piece b p (k + 1)) : Int) = val 8 (piece b p k) + 2 ^ (k * 8) * bt b (p + k) := by
 have hk : k < (b.drop p).length := by simp; omega
 have e : piece b p (k + 1) = piece b p k ++ [b[p + k]] := by
  unfold piece;rw [List.take_succ_eq_append_getElem hk];simp
 rw [e, val_append, cM (by omega), cP h, Nat.mul_comm 8 k];rw [tr];push_cast
 rfl
theorem cK {b : List UInt8} {p k : Nat} (h : p + k <= b.length) : val 8 (piece b p k) < 2 ^ (k * 8) := by
 have := lK (nU (piece b p k));rwa [cM h, Nat.mul_comm] at this
theorem vJ {s : Nat} (x : Nat) (h1 : x <= 255) (hs : s <= 56) : x * 2 ^ s <= 18446744073709551615 := by
 have h2 : 2 ^ s <= 2 ^ 56 := Nat.pow_le_pow_right (by omega) hs;have h3 : x * 2 ^ s <= 255 * 2 ^ 56 := Nat.mul_le_mul h1 h2;omega
theorem abe {V s : Nat} {x : Int} (h0 : 0 <= x) (h1 : x <= 255) (hs : s <= 56) (hV : V < 2 ^ s) :
  bits .or .u64 (V : Int) (IntKind.u64.wrap (x * 2 ^ s)) = V + 2 ^ s * x := by
 obtain ⟨m, rfl⟩ := Int.eq_ofNat_of_zero_le h0;have hf := vJ (s := s) m (by omega) hs;have hV' : V < 18446744073709551616 := by
  have h2 : 2 ^ s <= 2 ^ 56 := Nat.pow_le_pow_right (by omega) hs;omega
 have e : ((m : Int) * 2 ^ s) = ((m * 2 ^ s : Nat) : Int) := by push_cast; rfl
 rw [e, IntWalk.u64_in _ ⟨by omega, by omega⟩, u64_or_nat V _ hV' (by omega), Nat.or_comm, nat_join s _ _ (Nat.mul_mod_left m (2 ^ s)) hV];push_cast;rw [Int.mul_comm (2 ^ s) (m : Int), Int.add_comm]
theorem vZ (A : Option Addr) (n c N : Nat) (b : List UInt8) (p k : Nat) (w : World) (hb : Rd w N A n b) (hn : n <= maxLen) (h1 : 1 <= k) (h2 : k <= 8) (h3 : p + k <= n) :
  Calls prog 137 #[.slice A n c, .int .i64 p, .int .i64 k] w fun e w' => e = .returned (.tuple #[.int .u64 (val 8 (piece b p k)), .int .i64 0]) /\ w = w' := by
 unfold maxLen at hn;go_enter func137, ntmps137;go_wp2_with (first | (go_at_call 142; refine (kH _ _ (by omega) (by omega)).mono ?_; rintro e w' ⟨rfl, rfl⟩))
 go_loop [8, 30] (fun x i => ∃ j : Nat, j <= k /\ i = .int .i64 j /\ x = .int .u64 (val 8 (piece b p j))) (fun _ i => k - (intOf i).toNat)
 case atStart => exact ⟨0, Nat.zero_le _, rfl, by simp [piece, val]⟩
 case round =>
  obtain ⟨j, hj, rfl, rfl⟩ := hrel;by_cases hlt : j < k
  ·obtain ⟨bA, oA, rfl, hA, cA⟩ := hb.2 (p + j) (by omega);have hlo := iY b (p + j);have hhi := kG b (p + j);go_wp2
   go_round
   case rel =>
    refine ⟨j + 1, by omega, by go_num, ?_⟩;rw [mf (by have := hb.1; omega), abe hlo hhi (by omega) (cK (by have := hb.1; omega))]
   case measure => simp [intOf]; omega
  ·go_wp2;go_ret2;have e : j = k := by omega
   subst e;exact ⟨rfl, rfl⟩
theorem xF (n k B : Nat) (w : World) (HB : Hid (B = w.heap.size)) (hn : n < 18446744073709551616) (h1 : 1 <= k) (h2 : k <= 8) :
  Calls prog 98 #[.int .u64 n, .int .i64 k] w fun e w' =>
   ((n < 2 ^ (8 * k) -> ∃ v, e = .returned (.tuple #[v, .int .i64 0]) /\ Made w' B v (aN 8 k n)) /\ (¬ n < 2 ^ (8 * k) -> e = .returned (.tuple #[.slice none 0 0, .int .i64 2]))) /\ Below B w w' := by
 obtain ⟨i0, hi, hz0, hz1, hz2⟩ := info_parts kf;go_enter func98, ntmps98;go_wp2;have hBle : B <= w.heap.size := Nat.le_of_eq HB
 go_loopw [0, 6, 7] (fun x v i wr => ∃ j : Nat, j <= k /\ i = .int .i64 j /\ x = .int .u64 ((n / 2 ^ (8 * j) : Nat) : Int) /\ Made wr B v (aN 8 j n) /\ Below B w wr) (fun _ _ i _ => k - (intOf i).toNat)
 case atStart => exact ⟨0, Nat.zero_le _, rfl, by simp, World.ownsRow_nil _ _ _ _, aj⟩
 case round =>
  obtain ⟨j, hj, rfl, rfl, hm, hbl⟩ := hrel;by_cases hlt : j < k
  ·have hown := hm.own (aA 8 j n);have hsz : B <= wr.heap.size := ap hBle hbl.size;have hq : n / 2 ^ (8 * j) <= n := Nat.div_le_self _ _;have hm' := ae hm;have hE : Hid (n / 2 ^ (8 * (j + 1)) = n / 2 ^ (8 * j) / 256 /\ aN 8 (j + 1) n = aN 8 j n ++ [UInt8.ofNat (n / 2 ^ (8 * j) % 256)]) := ⟨by rw [Nat.div_div_eq_div_mul, Nat.mul_succ, Nat.pow_add], f9 8 j n⟩;clear hm;generalize n / 2 ^ (8 * j) = q at *;go_wp2_with (at_builtin; refine wpList_append_own _ rfl _ _ 116 rfl B 5 i0 (.int .u8 0) 1 1 underlying116 hi hz0 hz1 hz2 rfl (by decide) _ _ _ rfl (hown.alloc _) ⟨wr.heap.size, 0, none⟩ 1 1 [.int .u8 ((q : Int) % 256)] rfl rfl ?c1 ?c2 ?c3 ?c4 ?c5 ?_)
   case c1 => exact cell_one_new _ _ _
   case c2 => intro u hu; simp at hu; subst hu; rfl
   case c3 => unfold maxLen; omega
   case c4 => omega
   case c5 => simp; omega
   intro v' w1 hown1 hg1 _;have hx : ((q : Int) % 256) = ((UInt8.ofNat (q % 256)).toNat : Int) := by rw [UInt8.toNat_ofNat']; omega
   obtain ⟨hm1, hb1⟩ := Made.push (hm'.out) hbl hsz hx hown1 hg1;have hm1' := ae hm1;clear hm1 hown1 hg1 hown hx hm';go_wp2;go_roundw
   case rel =>
    refine ⟨j + 1, by omega, by go_num, ?_, ?_, hb1⟩
    ·rw [hE.out.1]; simp
    ·rw [hE.out.2]; exact hm1'.out
   case measure => simp [intOf]; omega
  ·have e : j = k := by omega
   subst e;have h0 : 0 < 2 ^ (8 * j) := Nat.pow_pos (by omega);by_cases hq : n < 2 ^ (8 * j)
   ·rw [Nat.div_eq_of_lt hq];go_wp2;go_ret2;exact ⟨⟨fun _ => ⟨_, rfl, hm⟩, fun h => absurd hq h⟩, hbl⟩
   ·have hq0 : 0 < n / 2 ^ (8 * j) := Nat.div_pos (by omega) h0;generalize n / 2 ^ (8 * j) = q at *;go_wp2;go_ret2;exact ⟨⟨fun h => absurd h hq, fun _ => rfl⟩, hbl⟩
def dw (b : List UInt8) : List UInt8 := b ++ List.replicate (44 - b.length) 0
def cR (n : Nat) (b : List UInt8) : List UInt8 := aN 8 8 n ++ dw b
def cD (n : Nat) (b : List UInt8) : List UInt8 := cR n b ++ (aN 8 4 (more 0 (cR n b)) ++ aN 8 8 n)
theorem dP {b : List UInt8} (h : b.length <= 44) : (dw b).length = 44 := by simp [dw]; omega
theorem dD {b : List UInt8} (n : Nat) (h : b.length <= 44) : (cR n b).length = 52 := by simp [cR, aA, dP h]
theorem fx {b : List UInt8} (n : Nat) (h : b.length <= 44) : (cD n b).length = 64 := by simp [cD, aA, dD n h]
def eC (l : List UInt8) : Nat := val 8 (piece l 0 8)
def agO (l : List UInt8) : Nat := val 8 (piece l 56 8)
def mb (l : List UInt8) : Nat := val 8 (piece l 52 4)
def lX (l : List UInt8) : Nat := more 0 (piece l 0 52)
def dm (l : List UInt8) : Nat := if eC l = 0 \/ eC l ≠ agO l then 5 else if mb l ≠ lX l then 6 else 0
def dM (l : List UInt8) : Nat := if dm l = 0 then eC l else 0
def da (l : List UInt8) : List UInt8 := if dm l = 0 then piece l 8 44 else []
theorem ka {l : List UInt8} (h : eC l = 0 \/ eC l ≠ agO l) : dm l = 5 := by unfold dm; rw [if_pos h]
theorem vt {l : List UInt8} (h0 : eC l ≠ 0) (h1 : eC l = agO l) (h : mb l ≠ lX l) : dm l = 6 := by
 unfold dm;rw [if_neg (by omega), if_pos h]
theorem sN {l : List UInt8} (h0 : eC l ≠ 0) (h1 : eC l = agO l) (h : mb l = lX l) : dm l = 0 := by
 unfold dm;rw [if_neg (by omega), if_neg (by omega)]
theorem sE {l : List UInt8} (h : dm l = 0) : eC l ≠ 0 /\ eC l = agO l /\ mb l = lX l := by
 unfold dm at h
 split at h
 ·omega
 ·split at h
  ·omega
  ·omega
theorem ld {l : List UInt8} (h : dm l = 0) : dM l = eC l := if_pos h
theorem lk {l : List UInt8} (h : dm l ≠ 0) : dM l = 0 := if_neg h
theorem kX {l : List UInt8} (h : dm l = 0) : da l = piece l 8 44 := if_pos h
theorem ou {l : List UInt8} (h : dm l ≠ 0) : da l = [] := if_neg h
theorem tJ {l : List UInt8} : dM l = 0 ↔ dm l ≠ 0 := by
 constructor
 ·intro h e;rw [ld e] at h;exact (sE e).1 h
 ·exact lk
theorem yY {l : List UInt8} (h : l.length = 64) : eC l < 18446744073709551616 := cK (b := l) (p := 0) (k := 8) (by omega)
theorem tk {l : List UInt8} (h : l.length = 64) : mb l < 4294967296 := cK (b := l) (p := 52) (k := 4) (by omega)
theorem sM (l : List UInt8) : lX l < 4294967296 := ls (by omega) _
theorem yD {l : List UInt8} (h : l.length = 64) : dM l < 18446744073709551616 := by
 have := yY h;unfold dM
 split <;> omega
theorem rT (n : Nat) (b : List UInt8) : piece (cD n b) 0 8 = aN 8 8 n := by
 rw [show cD n b = aN 8 8 n ++ (dw b ++ (aN 8 4 (more 0 (cR n b)) ++ aN 8 8 n)) from by simp [cD, cR]];exact ji _ _ (aA _ _ _)
theorem lZ {n : Nat} {b : List UInt8} (hn : n < 18446744073709551616) : eC (cD n b) = n := by
 unfold eC;rw [rT, jO (by omega)];exact Nat.mod_eq_of_lt hn
section
variable {n : Nat} {b : List UInt8} (hb : b.length <= 44)
include hb
theorem uz : piece (cD n b) 56 8 = aN 8 8 n := by
 rw [show cD n b = (cR n b ++ aN 8 4 (more 0 (cR n b))) ++ (aN 8 8 n ++ []) from by simp [cD]];exact iE _ _ _ (by simp [dD n hb, aA]) (aA _ _ _)
theorem xv : piece (cD n b) 52 4 = aN 8 4 (more 0 (cR n b)) := iE _ _ _ (dD n hb) (aA _ _ _)
theorem tu : piece (cD n b) 0 52 = cR n b := ji _ _ (dD n hb)
theorem uU : piece (cD n b) 8 44 = dw b := by
 rw [show cD n b = aN 8 8 n ++ (dw b ++ (aN 8 4 (more 0 (cR n b)) ++ aN 8 8 n)) from by simp [cD, cR]];exact iE _ _ _ (aA _ _ _) (dP hb)
theorem zA (hn : n < 18446744073709551616) : agO (cD n b) = n := by
 unfold agO;rw [uz hb, jO (by omega)];exact Nat.mod_eq_of_lt hn
theorem od (hn : n < 18446744073709551616) (h0 : n ≠ 0) : dm (cD n b) = 0 := by
 refine sN (by rw [lZ hn]; exact h0) (by rw [lZ hn, zA hb hn]) ?_;unfold mb lX;rw [xv hb, tu hb, jO (by omega)];exact Nat.mod_eq_of_lt (ls (by omega) _)
theorem tB (hn : n < 18446744073709551616) (h0 : n ≠ 0) : dM (cD n b) = n := by rw [ld (od hb hn h0), lZ hn]
theorem uA (hn : n < 18446744073709551616) (h0 : n ≠ 0) : da (cD n b) = dw b := by rw [kX (od hb hn h0), uU hb]
end
def dL (n : Nat) (b : List UInt8) : Nat := if n = 0 then 2 else if 44 < b.length then 3 else 0
def dO (n : Nat) (b : List UInt8) : Blk := if dL n b = 0 then ofL (cD n b) else aB
theorem kY {n : Nat} {b : List UInt8} (h0 : n ≠ 0) (hb : b.length <= 44) : dL n b = 0 := by unfold dL; rw [if_neg h0, if_neg (by omega)]
theorem gw {n : Nat} {b : List UInt8} (h : dL n b = 0) : n ≠ 0 /\ b.length <= 44 := by
 unfold dL at h
 split at h
 ·omega
 ·split at h <;> omega
theorem jK {n : Nat} {b : List UInt8} (h : dL n b = 0) : dO n b = ofL (cD n b) := if_pos h
theorem jV {n : Nat} {b : List UInt8} (h : dL n b = 0) : (dO n b).toList = cD n b := by
 rw [jK h, sh (fx n (gw h).2)]
theorem vz {n : Nat} {b : List UInt8} (hn : n < 18446744073709551616) (h : dL n b = 0) : dm (dO n b).toList = 0 := by
 rw [jV h]; exact od (gw h).2 hn (gw h).1
theorem wH {n : Nat} {b : List UInt8} (hn : n < 18446744073709551616) (h : dL n b = 0) : dM (dO n b).toList = n := by
 rw [jV h]; exact tB (gw h).2 hn (gw h).1
theorem lB {n : Nat} {b : List UInt8} (hn : n < 18446744073709551616) (h : dL n b = 0) : da (dO n b).toList = dw b := by
 rw [jV h]; exact uA (gw h).2 hn (gw h).1
theorem nx : dm aB.toList = 5 := ka (.inl (by decide +kernel))
def evB (n : Nat) : Bool := decide (1 <= n /\ n <= 4611686018427387904)
theorem qG {n : Nat} (h : evB n = true) : 1 <= n /\ n <= 4611686018427387904 := of_decide_eq_true h
theorem np {b : List UInt8} (h : b.length = 44) : dw b = b := by simp [dw, h]
theorem ur {b : List UInt8} (n : Nat) (h : b.length <= 44) : cR n (dw b) = cR n b := by unfold cR; rw [np (dP h)]
theorem iN {b : List UInt8} (n : Nat) (h : b.length <= 44) : cD n (dw b) = cD n b := by unfold cD; rw [ur n h]
theorem fP {k n : Nat} (h : n < 2 ^ (8 * k)) : val 8 (aN 8 k n) = n := by rw [jO (by omega), Nat.mod_eq_of_lt h]
theorem jP (l : List UInt8) (p a b : Nat) : piece l p a ++ piece l (p + a) b = piece l p (a + b) := by
 unfold piece;rw [List.take_add, List.drop_drop]
theorem jZ {l : List UInt8} {p k : Nat} (h : p + k <= l.length) : aN 8 k (val 8 (piece l p k)) = piece l p k := by
 have := pf (nU (piece l p k));rwa [cM h] at this
theorem uG {l : List UInt8} (hl : l.length = 64) (h : dm l = 0) : cD (eC l) (piece l 8 44) = l := by
 obtain ⟨_, h1, h2⟩ := sE h;have e1 : aN 8 8 (eC l) = piece l 0 8 := jZ (by omega);have e2 : cR (eC l) (piece l 8 44) = piece l 0 52 := by
  unfold cR;rw [e1, np (cM (by omega))];exact jP l 0 8 44
 have e3 : aN 8 4 (more 0 (piece l 0 52)) = piece l 52 4 := by
  have : more 0 (piece l 0 52) = val 8 (piece l 52 4) := h2.symm;rw [this];exact jZ (by omega)
 have e4 : aN 8 8 (eC l) = piece l 56 8 := by rw [h1]; exact jZ (by omega)
 unfold cD;rw [e2, e3, e4, jP l 52 4 8, jP l 0 52 12];unfold piece;rw [List.drop_zero, List.take_of_length_le (by omega)]
theorem nt (b : Blk) : dM b.toList < 18446744073709551616 := yD (by simp)
theorem gZ {b : Blk} (h : dm b.toList = 0) : (da b.toList).length = 44 := by rw [kX h]; exact cM (by simp)
theorem qu {b : Blk} (h : dm b.toList = 0) : ofL (cD (dM b.toList) (da b.toList)) = b := by
 rw [ld h, kX h, uG (by simp) h, rW]
structure Ros where
 m : Int
 s : Int
 r : Int
 st : Vector UInt8 16
 cur : Int
 gone : Bool
deriving DecidableEq
def bO : Ros := ⟨0, 0, 0, Vector.replicate 16 0, 0, false⟩
def sta (x : Ros) (j : Nat) : Int := bt x.st.toList j
def fi (l : List UInt8) : Nat -> Nat
 |0 => 0
 |k + 1 => fi l k + (if bt l k = 2 then 1 else 0)
def cF (x : Ros) : Nat := fi x.st.toList 16
theorem lQ (l : List UInt8) (k : Nat) : fi l k <= k := by
 induction k with
 |zero => exact ai
 |succ k ih => unfold fi; split <;> omega
def ei (x : Ros) : Bool := decide (3 <= x.m /\ x.m <= 16 /\ 1 <= x.s /\ x.s <= 64 /\ 40 <= x.r /\ x.r <= 256)
def eN (x : Ros) : Bool := (List.range 16).all fun j => decide (sta x j <= 2) && (!decide (x.m <= (j : Int)) || decide (sta x j = 0))
theorem gp {x : Ros} : eN x = true ↔ ((∀ j, j < 16 -> sta x j <= 2) /\ (∀ j : Nat, j < 16 -> x.m <= (j : Int) -> sta x j = 0)) := by
 unfold eN;simp only [List.all_eq_true, List.mem_range, Bool.and_eq_true, decide_eq_true_eq, Bool.or_eq_true, Bool.not_eq_true', decide_eq_false_iff_not]
 constructor
 ·exact fun h => ⟨fun j hj => (h j hj).1, fun j hj hm => (h j hj).2.elim (fun h2 => absurd hm h2) id⟩
 ·rintro ⟨h1, h2⟩ j hj;refine ⟨h1 j hj, ?_⟩;by_cases hm : x.m <= (j : Int)
  ·exact .inr (h2 j hj hm)
  ·exact .inl hm
def a8 (x : Ros) : Bool := ei x && eN x && decide (cF x <= 1) && decide (0 <= x.cur /\ x.cur < x.s /\ (cF x = 1 \/ x.cur = 0))
theorem ez {x : Ros} (h : ei x = true) : 3 <= x.m /\ x.m <= 16 /\ 1 <= x.s /\ x.s <= 64 /\ 40 <= x.r /\ x.r <= 256 := of_decide_eq_true h
theorem gF {x : Ros} (h : eN x = true) : (∀ j, j < 16 -> sta x j <= 2) /\ (∀ j : Nat, j < 16 -> x.m <= (j : Int) -> sta x j = 0) := gp.1 h
theorem du {x : Ros} (h : a8 x = true) : ei x = true /\ eN x = true /\ cF x <= 1 /\ 0 <= x.cur /\ x.cur < x.s /\ (cF x = 1 \/ x.cur = 0) := by
 unfold a8 at h;simp only [Bool.and_eq_true, decide_eq_true_eq] at h;exact ⟨h.1.1.1, h.1.1.2, h.1.2, h.2⟩
theorem lM {x : Ros} (h : ei x = true /\ eN x = true /\ cF x <= 1 /\ 0 <= x.cur /\ x.cur < x.s /\ (cF x = 1 \/ x.cur = 0)) : a8 x = true := by
 unfold a8;simp only [Bool.and_eq_true, decide_eq_true_eq];exact ⟨⟨⟨h.1, h.2.1⟩, h.2.2.1⟩, h.2.2.2⟩
theorem gY {x : Ros} : ei x = true ↔ (3 <= x.m /\ x.m <= 16 /\ 1 <= x.s /\ x.s <= 64 /\ 40 <= x.r /\ x.r <= 256) := by unfold ei; rw [decide_eq_true_iff]
theorem pR {x : Ros} : ei x = false ↔ ¬(3 <= x.m /\ x.m <= 16 /\ 1 <= x.s /\ x.s <= 64 /\ 40 <= x.r /\ x.r <= 256) := by unfold ei; rw [decide_eq_false_iff_not]
theorem gC (l : List UInt8) (k : Nat) : fi l (k + 1) = fi l k + (if bt l k = 2 then 1 else 0) := rfl
def pS (x : Ros) : Bool := if cF x = 0 then decide (x.cur = 0) else decide (0 <= x.cur /\ x.cur < x.s)
theorem mC (x : Ros) : a8 x = (ei x && ((eN x && decide (cF x <= 1)) && pS x)) := by
 unfold a8 pS;by_cases hg : ei x = true
 ·have hs := (gY.1 hg).2.2.1;rw [hg, Bool.true_and, Bool.true_and];cases eN x
  ·rfl
  ·by_cases hh : cF x <= 1
   ·rw [am hh];simp only [Bool.true_and]
    split
    ·rw [decide_eq_decide]; omega
    ·rw [decide_eq_decide]; omega
   ·rw [al hh]; rfl
 ·rw [Bool.eq_false_iff.2 hg]; rfl
theorem abH {x : Ros} {j : Nat} (hj : j < 16) (h : 2 < sta x j \/ (x.m <= (j : Int) /\ sta x j ≠ 0)) : a8 x = false := by
 rw [Bool.eq_false_iff];intro hf;obtain ⟨h1, h2⟩ := gF (du hf).2.1;rcases h with h | ⟨h, h'⟩
 ·have := h1 j hj; omega
 ·exact h' (h2 j hj h)
def mu (l : List UInt8) : Vector UInt8 16 := Vector.ofFn fun i => l.getD i.val 0
theorem qB {l : List UInt8} (h : l.length = 16) : (mu l).toList = l := by
 refine fK (by simp [h]) fun k hk => ?_
 have hk' : k < 16 := by simpa using hk
 rw [cP hk, cP (l := l) (by omega)];simp [mu, List.getD, List.getElem?_eq_getElem (show k < l.length by omega)]
theorem im (v : Vector UInt8 16) : mu v.toList = v := by
 apply Vector.ext;intro i hi;simp [mu, List.getD]
theorem gO (v : Vector UInt8 16) : v.toList.length = 16 := by simp
theorem za {a b : Ros} (h1 : a.m = b.m /\ a.s = b.s /\ a.r = b.r) (h2 : a.st.toList = b.st.toList) (h3 : a.cur = b.cur) (h4 : a.gone = b.gone) : a = b := by
 obtain ⟨m, s, r, st, cur, gone⟩ := a;obtain ⟨m', s', r', st', cur', gone'⟩ := b;simp only at *;obtain ⟨rfl, rfl, rfl⟩ := h1;subst h3 h4;have : st = st' := by rw [<- im st, h2, im]
 rw [this]
structure Sup where
 id : Nat
 self : Int
 ros : Ros
deriving DecidableEq
def bp : Sup := ⟨0, 0, bO⟩
def dW (x : Sup) : Bool := decide (x.id ≠ 0) && a8 x.ros && decide (0 <= x.self /\ x.self < x.ros.m)
theorem jp {x : Sup} (h : dW x = true) : x.id ≠ 0 /\ a8 x.ros = true /\ 0 <= x.self /\ x.self < x.ros.m := by
 unfold dW at h;simp only [Bool.and_eq_true, decide_eq_true_eq] at h;exact ⟨h.1.1, h.1.2, h.2⟩
def jy (b : Bool) : Nat := if b then 1 else 0
def dd (x : Sup) : List UInt8 :=
 aN 8 8 x.id ++ (aN 8 1 x.ros.m.toNat ++ (aN 8 2 x.ros.s.toNat ++ (aN 8 2 x.ros.r.toNat ++ (aN 8 1 x.self.toNat ++ (aN 8 4 (val 2 x.ros.st.toList) ++ (aN 8 2 x.ros.cur.toNat ++ aN 8 1 (jy x.ros.gone)))))))
theorem ec (x : Sup) : (dd x).length = 21 := by simp [dd, aA]
def ch (x : Sup) : List UInt8 := dw (dd x)
theorem cJ (x : Sup) : (ch x).length = 44 := dP (by rw [ec]; omega)
theorem iD (n : Nat) (x : Sup) : dL n (ch x) = dL n (dd x) := by
 unfold dL; rw [cJ, ec]; simp
theorem nv (n : Nat) (x : Sup) : dO n (ch x) = dO n (dd x) := by
 unfold dO; rw [iD]; unfold ch; rw [iN n (by rw [ec]; omega)]
def cg (l : List UInt8) : Sup :=
 ⟨val 8 (piece l 0 8), (val 8 (piece l 13 1) : Nat), ⟨(val 8 (piece l 8 1) : Nat), (val 8 (piece l 9 2) : Nat), (val 8 (piece l 11 2) : Nat), mu (aN 2 16 (val 8 (piece l 14 4))), (val 8 (piece l 18 2) : Nat), decide (val 8 (piece l 20 1) = 1)⟩⟩
theorem jD {x : Ros} (h : eN x = true) : ∀ u ∈ x.st.toList, u.toNat < 2 ^ 2 := by
 intro u hu;obtain ⟨j, hj, rfl⟩ := List.getElem_of_mem hu;have h2 := (gF h).1 j (by simpa using hj);unfold sta at h2;rw [cP hj] at h2;omega
theorem n7 {x : Ros} (h : eN x = true) : val 2 x.st.toList < 2 ^ 32 := by
 have := lK (jD h)
 simpa using this
section
variable (x : Sup)
private theorem pc (a b c : List UInt8) {p k : Nat} (h : ch x = a ++ (b ++ c)) (hp : a.length = p) (hk : b.length = k) : piece (ch x) p k = b := by rw [h]; exact iE _ _ _ hp hk
theorem aay : piece (ch x) 0 8 = aN 8 8 x.id := by
 unfold ch dw dd;rw [List.append_assoc];exact ji _ _ (aA _ _ _)
theorem aaS : piece (ch x) 8 1 = aN 8 1 x.ros.m.toNat :=
 pc x (aN 8 8 x.id) _ _ (by unfold ch dw dd; simp only [List.append_assoc]; rfl) (by simp [aA]) (by simp [aA])
theorem abk : piece (ch x) 9 2 = aN 8 2 x.ros.s.toNat :=
 pc x (aN 8 8 x.id ++ aN 8 1 x.ros.m.toNat) _ _ (by unfold ch dw dd; simp only [List.append_assoc]; rfl) (by simp [aA]) (by simp [aA])
theorem zL : piece (ch x) 11 2 = aN 8 2 x.ros.r.toNat :=
 pc x (aN 8 8 x.id ++ aN 8 1 x.ros.m.toNat ++ aN 8 2 x.ros.s.toNat) _ _ (by unfold ch dw dd; simp only [List.append_assoc]; rfl) (by simp [aA]) (by simp [aA])
theorem zB : piece (ch x) 13 1 = aN 8 1 x.self.toNat :=
 pc x (aN 8 8 x.id ++ aN 8 1 x.ros.m.toNat ++ aN 8 2 x.ros.s.toNat ++ aN 8 2 x.ros.r.toNat) _ _ (by unfold ch dw dd; simp only [List.append_assoc]; rfl) (by simp [aA]) (by simp [aA])
theorem zU : piece (ch x) 14 4 = aN 8 4 (val 2 x.ros.st.toList) :=
 pc x (aN 8 8 x.id ++ aN 8 1 x.ros.m.toNat ++ aN 8 2 x.ros.s.toNat ++ aN 8 2 x.ros.r.toNat ++ aN 8 1 x.self.toNat) _ _ (by unfold ch dw dd; simp only [List.append_assoc]; rfl) (by simp [aA]) (by simp [aA])
theorem zJ : piece (ch x) 18 2 = aN 8 2 x.ros.cur.toNat :=
 pc x (aN 8 8 x.id ++ aN 8 1 x.ros.m.toNat ++ aN 8 2 x.ros.s.toNat ++ aN 8 2 x.ros.r.toNat ++ aN 8 1 x.self.toNat ++ aN 8 4 (val 2 x.ros.st.toList)) _ _ (by unfold ch dw dd; simp only [List.append_assoc]; rfl) (by simp [aA]) (by simp [aA])
theorem yO : piece (ch x) 20 1 = aN 8 1 (jy x.ros.gone) :=
 pc x (aN 8 8 x.id ++ aN 8 1 x.ros.m.toNat ++ aN 8 2 x.ros.s.toNat ++ aN 8 2 x.ros.r.toNat ++ aN 8 1 x.self.toNat ++ aN 8 4 (val 2 x.ros.st.toList) ++ aN 8 2 x.ros.cur.toNat) _ _ (by unfold ch dw dd; simp only [List.append_assoc]; rfl) (by simp [aA]) (by simp [aA])
end
theorem uZ {x : Sup} (hid : x.id < 18446744073709551616) (h : dW x = true) : cg (ch x) = x := by
 obtain ⟨_, hf, h1, h2⟩ := jp h;obtain ⟨hg, hs, _, h3, h4, _⟩ := du hf;obtain ⟨g1, g2, g3, g4, g5, g6⟩ := ez hg;obtain ⟨id, self, m, s, r, st, cur, gone⟩ := x;simp only at *;unfold cg;rw [aay, aaS, abk, zL, zB, zU, zJ, yO];simp only;have hv := n7 hs;simp only at hv;rw [fP (k := 8) (by omega), fP (k := 1) (n := self.toNat) (by omega), fP (k := 1) (n := m.toNat) (by omega), fP (k := 2) (n := s.toNat) (by omega), fP (k := 2) (n := r.toNat) (by omega), fP (k := 4) (by omega), fP (k := 2) (n := cur.toNat) (by omega), fP (k := 1) (n := jy gone) (by unfold jy; split <;> omega)];have hd : aN 2 16 (val 2 st.toList) = st.toList := by
  have := pf (jD hs)
  simpa using this
 rw [hd, im];have e1 : ((self.toNat : Nat) : Int) = self := by omega
 have e2 : ((m.toNat : Nat) : Int) = m := by omega
 have e3 : ((s.toNat : Nat) : Int) = s := by omega
 have e4 : ((r.toNat : Nat) : Int) = r := by omega
 have e5 : ((cur.toNat : Nat) : Int) = cur := by omega
 have e6 : decide (jy gone = 1) = gone := by cases gone <;> rfl
 rw [e1, e2, e3, e4, e5, e6]
def jk (n : Nat) (x : Sup) : Nat := if evB n = true /\ dW x = true then 0 else 2
def dV (n : Nat) (x : Sup) : Blk := if evB n = true /\ dW x = true then dO n (dd x) else aB
theorem iC {n : Nat} {x : Sup} (h : evB n = true) (h' : dW x = true) : jk n x = 0 := if_pos ⟨h, h'⟩
theorem jB {n : Nat} {x : Sup} (h : evB n = true) (h' : dW x = true) : dV n x = dO n (dd x) := if_pos ⟨h, h'⟩
theorem jr {n : Nat} {x : Sup} (h : ¬ (evB n = true /\ dW x = true)) : jk n x = 2 := if_neg h
theorem jx {n : Nat} {x : Sup} (h : ¬ (evB n = true /\ dW x = true)) : dV n x = aB := if_neg h
theorem wg {n : Nat} {x : Sup} (h : jk n x = 0) : evB n = true /\ dW x = true := by
 unfold jk at h
 split at h
 ·assumption
 ·omega
theorem fE {n : Nat} (x : Sup) (h : evB n = true) : dL n (dd x) = 0 := kY (by have := qG h; omega) (by rw [ec]; omega)
def gsE (b : Blk) : Nat := if dm b.toList ≠ 0 then dm b.toList else if evB (dM b.toList) = true /\ dW (cg (da b.toList)) = true /\ ch (cg (da b.toList)) = da b.toList then 0 else 5
def gsN (b : Blk) : Nat := if gsE b = 0 then dM b.toList else 0
def gsS (b : Blk) : Sup := if gsE b = 0 then cg (da b.toList) else bp
theorem qo {b : Blk} (h : dm b.toList ≠ 0) : gsE b = dm b.toList := if_pos h
theorem lT {b : Blk} (h : dm b.toList = 0) (h' : ¬ (evB (dM b.toList) = true /\ dW (cg (da b.toList)) = true /\ ch (cg (da b.toList)) = da b.toList)) : gsE b = 5 := by
 unfold gsE; rw [if_neg (by omega), if_neg h']
theorem xG {b : Blk} (h : dm b.toList = 0) (h' : evB (dM b.toList) = true /\ dW (cg (da b.toList)) = true /\ ch (cg (da b.toList)) = da b.toList) : gsE b = 0 := by
 unfold gsE; rw [if_neg (by omega), if_pos h']
theorem xu {b : Blk} (h : gsE b = 0) : dm b.toList = 0 /\ evB (dM b.toList) = true /\ dW (cg (da b.toList)) = true /\ ch (cg (da b.toList)) = da b.toList := by
 unfold gsE at h
 split at h
 ·omega
 ·rename_i h0
  split at h
  ·rename_i h1; exact ⟨by omega, h1⟩
  ·omega
theorem ow {b : Blk} (h : gsE b = 0) : gsN b = dM b.toList := if_pos h
theorem jd {b : Blk} (h : gsE b ≠ 0) : gsN b = 0 := if_neg h
theorem rq {b : Blk} (h : gsE b = 0) : gsS b = cg (da b.toList) := if_pos h
theorem j5 {b : Blk} (h : gsE b ≠ 0) : gsS b = bp := if_neg h
theorem lU {b : Blk} : gsN b = 0 ↔ gsE b ≠ 0 := by
 constructor
 ·intro h e;have := qG (xu e).2.1;rw [ow e] at h;omega
 ·exact jd
theorem fG {l : List UInt8} (h : 8 <= l.length) : (cg l).id < 18446744073709551616 := cK (b := l) (p := 0) (k := 8) (by omega)
theorem oM {b : Blk} (h : dm b.toList = 0) (hn : evB (dM b.toList) = true) (x : Sup) : dO (dM b.toList) (dd x) = b ↔ ch x = da b.toList := by
 have hp := fE (n := dM b.toList) x hn
 constructor
 ·intro e;have h2 := lB (nt b) hp;rw [e] at h2;exact h2.symm
 ·intro e;rw [jK hp, <- iN _ (by rw [ec]; omega)];have : dw (dd x) = da b.toList := e;rw [this];exact qu h
theorem wK {n : Nat} {x : Sup} (hid : x.id < 18446744073709551616) (h : jk n x = 0) : gsE (dV n x) = 0 /\ gsN (dV n x) = n /\ gsS (dV n x) = x := by
 obtain ⟨h1, h2⟩ := wg h;have hn : n < 18446744073709551616 := by have := qG h1; omega
 have hp := fE x h1;have e1 := vz hn hp;have e2 := wH hn hp;have e3 := lB hn hp;rw [jB h1 h2];have e4 : cg (da (dO n (dd x)).toList) = x := by rw [e3]; exact uZ hid h2
 have hE : gsE (dO n (dd x)) = 0 := xG e1 ⟨by rw [e2]; exact h1, by rw [e4]; exact h2, by rw [e4, e3]; rfl⟩;exact ⟨hE, by rw [ow hE, e2], by rw [rq hE, e4]⟩
theorem mE {b : Blk} (h : gsE b = 0) : jk (gsN b) (gsS b) = 0 /\ dV (gsN b) (gsS b) = b /\ dW (gsS b) = true /\ (gsS b).id < 18446744073709551616 := by
 obtain ⟨h1, h2, h3, h4⟩ := xu h;rw [ow h, rq h];exact ⟨iC h2 h3, by rw [jB h2 h3]; exact (oM h1 h2 _).2 h4, h3, fG (by rw [gZ h1]; omega)⟩
theorem ue (b : Blk) : (gsS b).id < 18446744073709551616 := by
 by_cases h : gsE b = 0
 ·exact (mE h).2.2.2
 ·rw [j5 h]; decide
theorem tq : gsE aB = 5 := by rw [qo (by rw [nx]; omega), nx]
def nwE (a b : Blk) : Nat := if gsN a = 0 /\ gsN b = 0 then 7 else 0
def nwN (a b : Blk) : Nat := if gsN a < gsN b then gsN b else gsN a
def nwS (a b : Blk) : Sup := if gsN a < gsN b then gsS b else gsS a
def kS (a b : Blk) : Nat := if gsN a ≠ 0 /\ ¬ gsN a < gsN b then 1 else 0
def km (l : List UInt8) (c : Int) : Nat -> Nat
 |0 => 0
 |k + 1 => km l c k + (if bt l k = c then 1 else 0)
theorem eY (l : List UInt8) (c : Int) (k : Nat) : km l c (k + 1) = km l c k + (if bt l k = c then 1 else 0) := rfl
theorem ym (l : List UInt8) (c : Int) (k : Nat) : km l c k <= k := by
 induction k with
 |zero => exact ai
 |succ k ih => rw [eY]; split <;> omega
theorem uo (l : List UInt8) (k : Nat) : fi l k = km l 2 k := by
 induction k with
 |zero => rfl
 |succ k ih => rw [eY, gC, ih]
def many (x : Ros) (c : Int) : Nat := km x.st.toList c 16
theorem xN (x : Ros) (c : Int) : many x c = km x.st.toList c 16 := rfl
theorem fJ (x : Ros) : cF x = many x 2 := uo _ _
def pV (l : List UInt8) : Nat -> Nat
 |0 => 0
 |k + 1 => pV l k + (if bt l k = 0 then 0 else 1)
theorem jY (l : List UInt8) (k : Nat) : pV l (k + 1) = pV l k + (if bt l k = 0 then 0 else 1) := rfl
theorem yI (l : List UInt8) (k : Nat) : pV l k <= k := by
 induction k with
 |zero => exact ai
 |succ k ih => rw [jY]; split <;> omega
def outs (x : Ros) : Nat := pV x.st.toList 16
theorem wk {l : List UInt8} {k : Nat} (h : ∀ j, j < k -> bt l j <= 2) : pV l k = km l 1 k + km l 2 k := by
 induction k with
 |zero => rfl
 |succ k ih =>
  have h1 := ih fun j hj => h j (by omega)
  have h2 := h k (by omega);have h3 := iY l k;rw [eY, eY, jY, h1]
  split <;> split <;> split <;> omega
theorem uw {x : Ros} (h : eN x = true) : outs x = many x 1 + many x 2 := wk (gF h).1
theorem rk {x : Ros} (h : eN x = true) : cF x <= outs x := by rw [uw h, fJ]; omega
def jL (l : List UInt8) : Nat -> Option Nat
 |0 => none
 |k + 1 => (jL l k).or (if bt l k = 2 then some k else none)
theorem iO (l : List UInt8) (k : Nat) : jL l (k + 1) = (jL l k).or (if bt l k = 2 then some k else none) := rfl
theorem tD (l : List UInt8) (k : Nat) : jL l k = none ↔ fi l k = 0 := by
 induction k with
 |zero => exact ⟨fun _ => rfl, fun _ => rfl⟩
 |succ k ih =>
  rw [iO, gC];cases hf : jL l k with
  |some i =>
   have h1 : ¬ fi l k = 0 := fun e => by have := ih.2 e; rw [hf] at this; cases this
   simp only [Option.some_or]
   constructor
   ·intro h; cases h
   ·intro h; omega
  |none =>
   have h1 := ih.1 hf;simp only [Option.none_or]
   split
   ·constructor
    ·intro h; cases h
    ·intro h; omega
   ·constructor
    ·intro _; omega
    ·intro _; rfl
theorem su {l : List UInt8} {i j : Nat} (h : jL l i = some j) : ∀ {k : Nat}, i <= k -> jL l k = some j
 |0, hk => by rw [show i = 0 from by omega] at h; exact h
 |k + 1, hk => by
  by_cases e : i = k + 1
  ·rw [<- e]; exact h
  ·rw [iO, su h (k := k) (by omega)]; rfl
theorem zW {l : List UInt8} {j : Nat} (h0 : jL l j = none) (h2 : bt l j = 2) {k : Nat} (hk : j < k) : jL l k = some j := by
 refine su (i := j + 1) ?_ (by omega);rw [iO, h0, if_pos h2]
 rfl
theorem ud {l : List UInt8} {j : Nat} (h0 : jL l j = none) (h2 : bt l j ≠ 2) : jL l (j + 1) = none := by
 rw [iO, h0, if_neg h2]
 rfl
def jN (x : Ros) : Option Nat := jL x.st.toList 16
theorem tP (x : Ros) : jN x = jL x.st.toList 16 := rfl
theorem r8 (x : Ros) : jN x = none ↔ cF x = 0 := tD _ _
def fo (x : Ros) (j : Nat) (u : UInt8) : Ros := ⟨x.m, x.s, x.r, x.st.setIfInBounds j u, x.cur, x.gone⟩
def ko (x : Ros) (c : Int) : Ros := ⟨x.m, x.s, x.r, x.st, c, x.gone⟩
theorem jR (x : Ros) (j : Nat) (u : UInt8) : (fo x j u).st.toList = x.st.toList.set j u := by
 unfold fo;simp
theorem wi {l : List UInt8} {j : Nat} (h : j < l.length) (u : UInt8) (k : Nat) : bt (l.set j u) k = if k = j then (u.toNat : Int) else bt l k := by
 unfold bt;simp only [List.getD, List.getElem?_set];by_cases e : k = j
 ·subst e; simp [h]
 ·rw [if_neg (fun e' => e e'.symm), if_neg e]
theorem jA (x : Ros) {j : Nat} (h : j < 16) (u : UInt8) (k : Nat) : sta (fo x j u) k = if k = j then (u.toNat : Int) else sta x k := by
 unfold sta;rw [jR];exact wi (by simpa using h) u k
theorem xL {l : List UInt8} {j : Nat} (h : j < l.length) (u : UInt8) (c : Int) (k : Nat) : km (l.set j u) c k + (if j < k /\ bt l j = c then 1 else 0) = km l c k + (if j < k /\ (u.toNat : Int) = c then 1 else 0) := by
 induction k with
 |zero => rw [if_neg (by omega), if_neg (by omega)]; rfl
 |succ k ih =>
  rw [eY, eY, wi h];by_cases e : k = j
  ·subst e;rw [if_neg (by omega), if_neg (by omega)] at ih;rw [if_pos rfl];by_cases h1 : bt l k = c <;> by_cases h2 : (u.toNat : Int) = c <;> simp [h1, h2] <;> omega
  ·rw [if_neg e];have e1 : (j < k + 1 /\ bt l j = c) ↔ (j < k /\ bt l j = c) := by omega
   have e2 : (j < k + 1 /\ (u.toNat : Int) = c) ↔ (j < k /\ (u.toNat : Int) = c) := by omega
   simp only [e1, e2];omega
theorem uI (x : Ros) {j : Nat} (h : j < 16) (u : UInt8) (c : Int) : many (fo x j u) c + (if sta x j = c then 1 else 0) = many x c + (if (u.toNat : Int) = c then 1 else 0) := by
 have := xL (l := x.st.toList) (j := j) (by simpa using h) u c 16;simp only [h, true_and] at this;unfold many;rw [jR];exact this
theorem nd {x : Ros} (hs : eN x = true) {j : Nat} (h : j < 16) (hm : (j : Int) < x.m) {u : UInt8} (hu : u.toNat <= 2) : eN (fo x j u) = true := by
 obtain ⟨h1, h2⟩ := gF hs;refine gp.2 ⟨fun k hk => ?_, fun k hk hkm => ?_⟩
 ·rw [jA x h]
  split
  ·omega
  ·exact h1 k hk
 ·have hne : k ≠ j := by
   intro e; subst e;have : x.m <= (k : Int) := hkm;omega
  rw [jA x h, if_neg hne];exact h2 k hk hkm
def fp (x : Ros) (m : Int) : Bool := decide (0 <= m /\ m < x.m)
def tZ (x : Ros) (s : Int) : Bool := decide (0 <= s /\ s < x.s)
theorem oh {x : Ros} {m : Int} (h : fp x m = true) : 0 <= m /\ m < x.m := of_decide_eq_true h
def gz (y : Ros) : Ros := ⟨y.m, y.s, y.r, Vector.replicate 16 0, 0, false⟩
theorem xo (y : Ros) : cF (gz y) = 0 := by
 show fi (Vector.replicate 16 (0 : UInt8)).toList 16 = 0
 decide
theorem rp (y : Ros) {j : Nat} (h : j < 16) : sta (gz y) j = 0 := by
 show bt (List.replicate 16 (0 : UInt8)) j = 0
 unfold bt;rw [List.getD, List.getElem?_replicate]
 split <;> rfl
theorem sy (y : Ros) : a8 (gz y) = ei y := by
 have hg : ei (gz y) = ei y := rfl;by_cases h : ei y = true
 ·rw [h];have := ez h;refine lM ⟨hg.trans h, gp.2 ⟨fun j hj => ?_, fun j hj _ => rp y hj⟩, by rw [xo]; omega, ?_⟩
  ·rw [rp y hj]; omega
  ·show 0 <= (0 : Int) /\ (0 : Int) < y.s /\ (cF (gz y) = 1 \/ (0 : Int) = 0)
   omega
 ·rw [Bool.eq_false_iff.2 h, Bool.eq_false_iff];intro hf;exact h (hg.symm.trans (du hf).1)
def xq (y : Ros) : Ros := if ei y then gz y else bO
def o6 (y : Ros) : Nat := if ei y then 0 else 2
def fF (x : Ros) : Nat := if a8 x then outs x else 0
def stN (x : Ros) : Nat :=
 if a8 x then if 2 <= outs x \/ (outs x = 1 /\ x.gone = true) then 5 else if x.gone = true then 4 else if cF x = 1 then 3 else if outs x = 1 then 2 else 1 else 0
def kb (x : Ros) : Nat := if a8 x then (jN x).getD 0 else 0
def gW (x : Ros) : Bool := a8 x && (jN x).isSome
def iV (x : Ros) (m : Int) : Bool := a8 x && (fp x m && decide (sta x m.toNat ≠ 1))
def dh (x : Ros) (m : Int) : Ros := if iV x m then (if sta x m.toNat = 2 then fo (ko x 0) m.toNat 1 else fo x m.toNat 1) else x
theorem mR (x : Ros) {j : Nat} (h : j < 16) (u : UInt8) : cF (fo x j u) + (if sta x j = 2 then 1 else 0) = cF x + (if (u.toNat : Int) = 2 then 1 else 0) := by
 rw [fJ, fJ]; exact uI x h u 2
theorem ug (x : Ros) (c : Int) : cF (ko x c) = cF x := rfl
theorem sD (x : Ros) (c : Int) (j : Nat) : sta (ko x c) j = sta x j := rfl
theorem u1 : (((1 : UInt8).toNat : Nat) : Int) = 1 := rfl
theorem wt {x : Ros} {m : Int} (hf : a8 x = true) (hq : fp x m = true) : m.toNat < 16 /\ ((m.toNat : Nat) : Int) < x.m /\ ((m.toNat : Nat) : Int) = m := by
 have h1 := oh hq;have h2 := ez (du hf).1;omega
theorem jF {x : Ros} (m : Int) (hf : a8 x = true) : a8 (dh x m) = true := by
 unfold dh
 split
 ·rename_i hb
  have hq : fp x m = true := by
   unfold iV at hb;rw [hf, Bool.true_and, Bool.and_eq_true] at hb;exact hb.1
  obtain ⟨h16, hlt, _⟩ := wt hf hq;obtain ⟨hg, hs, h1, c0, c1, c2⟩ := du hf;have g := ez hg
  split
  ·rename_i h2
   have hh := mR (ko x 0) h16 1;rw [sD, if_pos h2, ug, if_neg (by rw [u1]; omega)] at hh;refine lM ⟨hg, nd (x := ko x 0) hs h16 hlt (by decide), by omega, ?_⟩
   show (0 : Int) <= 0 /\ (0 : Int) < x.s /\ (cF _ = 1 \/ (0 : Int) = 0)
   omega
  ·rename_i h2
   have hh := mR x h16 1;rw [if_neg h2, if_neg (by rw [u1]; omega)] at hh;refine lM ⟨hg, nd hs h16 hlt (by decide), by omega, ?_⟩
   show 0 <= x.cur /\ x.cur < x.s /\ (cF _ = 1 \/ x.cur = 0)
   omega
 ·exact hf
structure Cod (Y : Type) where
 zero : Y
 may : Y -> Bool
 num : Y -> Nat
 body : Y -> List UInt8
 told : Nat -> List UInt8 -> Y
 fits : Y -> Prop
 may_num : ∀ y, may y = true -> 1 <= num y /\ num y <= 4611686018427387904
 len : ∀ y, (body y).length <= 44
 back : ∀ y, fits y -> may y = true -> told (num y) (dw (body y)) = y
 num_told : ∀ n l, num (told n l) = n
 fits_told : ∀ n l, l.length = 44 -> n < 18446744073709551616 -> fits (told n l)
 zero_no : may zero = false
 zero_num : num zero = 0
 zero_fits : fits zero
namespace Cod
variable {Y : Type} (C : Cod Y)
def full (y : Y) : List UInt8 := dw (C.body y)
theorem pI (y : Y) : (C.full y).length = 44 := dP (C.len y)
theorem iD (n : Nat) (y : Y) : dL n (C.full y) = dL n (C.body y) := by
 have h1 := C.pI y;have h2 := C.len y;unfold dL;rw [if_neg (show ¬ 44 < (C.full y).length by omega), if_neg (show ¬ 44 < (C.body y).length by omega)]
theorem nv (n : Nat) (y : Y) : dO n (C.full y) = dO n (C.body y) := by
 unfold dO; rw [C.iD]; unfold full; rw [iN n (C.len y)]
theorem fE {n : Nat} (y : Y) (h : n ≠ 0) : dL n (C.body y) = 0 := kY h (C.len y)
theorem oM {b : Blk} (h : dm b.toList = 0) (y : Y) : dO (dM b.toList) (C.body y) = b ↔ C.full y = da b.toList := by
 have hn : dM b.toList ≠ 0 := fun e => tJ.1 e h
 have hp := C.fE y hn
 constructor
 ·intro e;have h2 := lB (nt b) hp;rw [e] at h2;exact h2.symm
 ·intro e;rw [jK hp, <- iN _ (C.len y)];have : dw (C.body y) = da b.toList := e;rw [this];exact qu h
end Cod
open Go.RowKit
set_option maxRecDepth 100000
set_option linter.unusedVariables false
structure Mrk where
 id : Nat
 ring : Int
 first : Nat
 pos : Nat
deriving DecidableEq
open Go.RowKit
set_option maxRecDepth 100000
set_option linter.unusedVariables false
def hd (n : Nat) : Nat := (n + 15) / 16
open Go.RowKit
set_option maxRecDepth 100000
set_option linter.unusedVariables false
structure Nte where
 seq : Nat
 pos : Nat
 cells : Int
 sum : Nat
deriving DecidableEq
open Go.RowKit
set_option maxRecDepth 100000
set_option linter.unusedVariables false
inductive Stp where
 |wr (n : Int) (b : Blk)
 |fl
def oX (d : Int) (M : aM) : Stp -> Int
 |.wr n _ => iQ M d n
 |.fl => gr M d
def oy (d : Int) (M : aM) : Stp -> aM
 |.wr n b => dr M d n b
 |.fl => eO M d
def goE (d : Int) : aM -> List Stp -> Int
 |_, [] => 0
 |M, s :: l => if oX d M s = 0 then goE d (oy d M s) l else oX d M s
def goB (d : Int) : aM -> List Stp -> aM
 |M, [] => M
 |M, s :: l => if oX d M s = 0 then goB d (oy d M s) l else oy d M s
theorem go_ok {d : Int} {M : aM} {s : Stp} {l : List Stp} (h : oX d M s = 0) : goE d M (s :: l) = goE d (oy d M s) l /\ goB d M (s :: l) = goB d (oy d M s) l := ⟨if_pos h, if_pos h⟩
theorem aab {d : Int} {M : aM} {s : Stp} {l : List Stp} (h : oX d M s ≠ 0) : goE d M (s :: l) = oX d M s /\ goB d M (s :: l) = oy d M s := ⟨if_neg h, if_neg h⟩
structure LgS where
 d : Nat
 own : Nat
 size : Nat
 cnt : Nat
 fst : Nat
 pos : Nat
 nts : List Nte
end Go.Proofs.YtehefifamaofkaaGreatDoor
