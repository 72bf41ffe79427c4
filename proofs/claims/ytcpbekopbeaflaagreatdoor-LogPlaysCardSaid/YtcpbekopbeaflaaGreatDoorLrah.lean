import Derived.Test.YtcpbekopbeaflaaGreatDoorLrag
namespace Go.Proofs.YtcpbekopbeaflaaGreatDoor
set_option maxHeartbeats 8000000
open Go.Proofs.Tryz
open Go.RowKit
set_option linter.unusedVariables false
set_option maxRecDepth 100000
def cG : gY where
 K := ⟨Rv, Rv.lt, Rv.only⟩
 s := 83
 t := 86
 und := underlying83
 info := by kernel_rfl
 o := 85
 cs := fun v left dx steps => #[v, .int .i64 left, .bool dx, .int .i64 steps]
 ne := by decide
theorem sE {w : World} {b : Nat} {t : TypeId} {x y z u : Value} (h : w.heap[b]? = some (.cells #[x, y, z, u] t (0, 0))) : w.cell? ⟨b, 0, none⟩ = some x /\ w.cell? ⟨b, 1, none⟩ = some y /\ w.cell? ⟨b, 2, none⟩ = some z /\ w.cell? ⟨b, 3, none⟩ = some u := by
 refine ⟨?_, ?_, ?_, ?_⟩
 ·rw [cell_of_row w b 0 _ t (0, 0) h]; rfl
 ·rw [cell_of_row w b 1 _ t (0, 0) h]; rfl
 ·rw [cell_of_row w b 2 _ t (0, 0) h]; rfl
 ·rw [cell_of_row w b 3 _ t (0, 0) h]; rfl
theorem xZ {w : World} {F : Nat -> Prop} {p : Nat} {S : List Blk} {L : List (Int × Blk)} {g : Bool} (n : Int) (h : Rv w F p S L g) : Calls prog 123 #[.pointer (some ⟨p, 0, none⟩), .int .i64 n] w fun e w' => e = .returned (.int .i64 (dm S g n)) /\ w = w' := by
 obtain ⟨vS, vL, rfl, h, _⟩ := h;exact jw p vS vL S L g n w h
theorem mM {w : World} {F : Nat -> Prop} {p : Nat} {S : List Blk} {L : List (Int × Blk)} {g : Bool} (h : Rv w F p S L g) : ∃ A c, w.cell? ⟨p, 0, none⟩ = some (.slice A S.length c) /\ w.cell? ⟨p, 2, none⟩ = some (.bool g) := by
 obtain ⟨vS, vL, rfl, h, _⟩ := h;obtain ⟨c0, c1, c2⟩ := cells3 h.at_;obtain ⟨A, c, rfl, _, _⟩ := h.S_.form;exact ⟨A, c, c0, c2⟩
section
variable {w w' : World} {p : Nat} {v : Value} {Fs : Nat -> Nat -> Prop} {ps : List Nat} {M : aK}
theorem bz.el (h : bz cG w p v Fs ps M) : w.cell? ⟨p, 0, none⟩ = some v /\ w.cell? ⟨p, 1, none⟩ = some (.int .i64 M.left) /\ w.cell? ⟨p, 2, none⟩ = some (.bool M.dx) /\ w.cell? ⟨p, 3, none⟩ = some (.int .i64 M.steps) := sE h.at_
theorem ahY (h : bz cG w p v Fs ps M) :
  Calls prog 38 #[.pointer (some ⟨p, 0, none⟩)] w fun e w' => e = .returned (.bool M.dx) /\ w = w' := by
 obtain ⟨c0, c1, c2, c3⟩ := h.el;go_enter func38, ntmps38;go_wp2;go_ret;exact ⟨rfl, rfl⟩
theorem afi (h : bz cG w p v Fs ps M) :
  Calls prog 36 #[.pointer (some ⟨p, 0, none⟩)] w fun e w' => e = .returned (.int .i64 (M.steps : Int)) /\ w = w' := by
 obtain ⟨c0, c1, c2, c3⟩ := h.el;go_enter func36, ntmps36;go_wp2;go_ret;exact ⟨rfl, rfl⟩
theorem jE (h : bz cG w p v Fs ps M) {d : Int} (hd : ¬(0 <= d /\ d < M.ds.length)) :
  Calls prog 56 #[.pointer (some ⟨p, 0, none⟩), .int .i64 d] w fun e w' => e = .returned (.bool false) /\ w = w' := by
 obtain ⟨g, c, rfl, _, _⟩ := h.slice;obtain ⟨c0, c1, c2, c3⟩ := h.el;clear h;by_cases h0 : 0 <= d
 ·have h1 : ¬(d < (M.ds.length : Int)) := by omega
  clear hd;go_enter func56, ntmps56;go_wp2;go_ret;exact ⟨rfl, rfl⟩
 ·clear hd;go_enter func56, ntmps56;go_wp2;go_ret;exact ⟨rfl, rfl⟩
theorem jM (h : bz cG w p v Fs ps M) {k : Nat} (hk : k < M.ds.length) :
  Calls prog 56 #[.pointer (some ⟨p, 0, none⟩), .int .i64 k] w fun e w' => e = .returned (.bool true) /\ w = w' := by
 obtain ⟨g, c, rfl, _, _⟩ := h.slice;obtain ⟨c0, c1, c2, c3⟩ := h.el;clear h;go_enter func56, ntmps56;go_wp2;go_ret;exact ⟨rfl, rfl⟩
theorem nJ (d : Int) (h : bz cG w p v Fs ps M) :
  Calls prog 81 #[.pointer (some ⟨p, 0, none⟩), .int .i64 d] w fun e w' => e = .returned (.int .i64 (ec M d)) /\ w = w' := by
 obtain ⟨c0, c1, c2, c3⟩ := h.el;rcases dN M d with ⟨e, hdk⟩ | ⟨e, hdk, ho⟩ | ⟨e, hdk, k, rfl, hk⟩
 ·rw [e];rw [hdk] at c2;clear e hdk h;go_enter func81, ntmps81;go_wp2;go_ret;exact ⟨rfl, rfl⟩
 ·rw [e];rw [hdk] at c2;have HO := af (jE h ho);clear e hdk h ho;go_enter func81, ntmps81;go_wp2_with fail;refine HO.out.mono ?_;rintro e w1 ⟨rfl, rfl⟩;go_wp2_with fail;go_ret;exact ⟨rfl, rfl⟩
 ·rw [e];rw [hdk] at c2;have HO := af (jM h hk);clear e hdk h hk;go_enter func81, ntmps81;go_wp2_with fail;refine HO.out.mono ?_;rintro e w1 ⟨rfl, rfl⟩;go_wp2_with fail;go_ret;exact ⟨rfl, rfl⟩
theorem rC (d : Int) (h : bz cG w p v Fs ps M) :
  Calls prog 32 #[.pointer (some ⟨p, 0, none⟩), .int .i64 d] w fun e w' => e = .returned (.int .i64 (cw M d)) /\ w = w' := by
 rcases dS M d with ⟨e, ho⟩ | ⟨e, k, rfl, hk⟩
 ·have HS : Hid (cw M d = 0) := af (by unfold cw; rw [if_neg (by omega)]);have HO := af (jE h ho);clear e h ho;go_enter func32, ntmps32;go_wp2_with fail;refine HO.out.mono ?_;rintro e w1 ⟨rfl, rfl⟩;go_wp2_with fail;go_ret;exact ⟨br HS.out.symm, rfl⟩
 ·obtain ⟨x, hx⟩ : ∃ x, M.ds.getD k ch = x := ⟨_, rfl⟩;have hat := h.ey.at_ k hk;rw [hx] at hat
  have HS : Hid (cw M (k : Int) = (x.S.length : Int)) := af (by unfold cw; rw [if_pos e, M.ji, hx]);have HO := af (jM h hk);obtain ⟨g, c, rfl, _, _⟩ := h.slice;obtain ⟨c0, c1, c2, c3⟩ := h.el;have ck := h.cell hk;obtain ⟨AS, cS, d0, d2⟩ := mM hat
  clear e h hat hx;generalize ps.getD k 0 = q at *;go_enter func32, ntmps32;go_wp2_with fail;refine HO.out.mono ?_;rintro e w1 ⟨rfl, rfl⟩;go_wp2_with fail;go_ret;exact ⟨br HS.out.symm, rfl⟩
theorem ag5 (d n : Int) (h : bz cG w p v Fs ps M) :
  Calls prog 57 #[.pointer (some ⟨p, 0, none⟩), .int .i64 d, .int .i64 n] w fun e w' => e = .returned (.tuple #[blk (df M d n), .int .i64 (cM M d n)]) /\ Below w.heap.size w w' := by
 have hA := (Below.refl w.heap.size w).alloc aj (.cells (cel aE).toArray 64);have h1 := h.below hA;have HT := af (dj w aE 64);have HA := af hA;have HO := af (nJ d h1);by_cases hl : ec M d = 0
 ·rcases dN M d with ⟨e, _⟩ | ⟨e, _⟩ | ⟨e, hdk, k, rfl, hk⟩
  ·omega
  ·omega
  obtain ⟨x, hx⟩ : ∃ x, M.ds.getD k ch = x := ⟨_, rfl⟩;have hat := h1.ey.at_ k hk;rw [hx] at hat
  have HB : Hid (df M (k : Int) n = gl x.S x.L x.g n) := af (by unfold df; rw [if_pos e, <- hx]; rfl);have HE : Hid (cM M (k : Int) n = dm x.S x.g n) := af (by unfold cM; rw [if_pos e, <- hx]; rfl);rw [e] at HO;have HD := af (af3 n hat);have HSZ := af (World.size_alloc w (.cells (cel aE).toArray 64));obtain ⟨g, c, rfl, _, _⟩ := h1.slice;obtain ⟨c0, c1, c2, c3⟩ := h1.el;have ck := h1.cell hk;clear e h h1 hat hx hdk hA hl;rw [HB.out, HE.out];clear HB HE;generalize gl x.S x.L x.g n = y at *;generalize dm x.S x.g n = z at *;generalize ps.getD k 0 = q at *;go_enter func57, ntmps57;go_wp2_with (first | (refine ax rfl (aV rfl) ?_) | fail);refine HO.out.mono ?_;rintro e w1 ⟨rfl, rfl⟩;go_wp2_with fail;refine HD.out.mono ?_;rintro e w2 ⟨rfl, hb⟩;have HT2 := af (aS HT (by rw [HSZ.out]; omega) hb);have HB2 := af (HA.out.trans (hb.mono (by rw [HSZ.out]; omega)));clear hb;go_wp2_with (first | (refine aW rfl (aX rfl rfl rfl HT2.out) ?_) | fail);exact bodyPost_ret (b9 rfl _ _ _ rfl (World.rangeAt_setCells_same _ _ _ _ (by rw [aG]; exact HT2))) rfl ⟨rfl, below_setCells HB2 aj _⟩
 ·have HB : Hid (df M d n = aE) := af (by unfold df; rw [if_neg hl]);have HE : Hid (cM M d n = ec M d) := af (by unfold cM; rw [if_neg hl]);clear h h1 hA;rw [HB.out, HE.out];rcases dN M d with ⟨e, _⟩ | ⟨e, _⟩ | ⟨e, _⟩
  rotate_right 1
  ·exact absurd e hl
  all_goals
   rw [e] at HO ⊢;clear e hl;go_enter func57, ntmps57;go_wp2_with (first | (refine ax rfl (aV rfl) ?_) | fail);refine HO.out.mono ?_;rintro e w1 ⟨rfl, rfl⟩;go_wp2_with (first | (refine ax rfl (ca (c := aE) (parts := []) rfl rfl) ?_) | (refine aW rfl (aX rfl rfl rfl HT.out) ?_));exact bodyPost_ret (b9 rfl _ _ _ rfl (World.rangeAt_setCells_same _ _ _ _ (by rw [aG]; exact HT))) rfl ⟨rfl, below_setCells HA aj _⟩
theorem ah6 (d n : Int) (h : bz cG w p v Fs ps M) :
  Calls prog 34 #[.pointer (some ⟨p, 0, none⟩), .int .i64 d, .int .i64 n] w fun e w' => e = .returned (.tuple #[blk (oy M d n), .int .i64 (ov M d n)]) /\ Below w.heap.size w w' := by
 have hA := (Below.refl w.heap.size w).alloc aj (.cells (cel aE).toArray 64);have h1 := h.below hA;have HT := af (dj w aE 64);have HA := af hA;rcases dS M d with ⟨e, ho⟩ | ⟨e, k, rfl, hk⟩
 ·have HB : Hid (oy M d n = aE) := af (by unfold oy; rw [if_neg (by omega)]);have HE : Hid (ov M d n = 2) := af (by unfold ov; rw [if_neg (by omega), e]);have HO := af (jE h1 ho);clear e h h1 ho hA;rw [HB.out, HE.out];go_enter func34, ntmps34;go_wp2_with (first | (refine ax rfl (aV rfl) ?_) | fail);refine HO.out.mono ?_;rintro e w1 ⟨rfl, rfl⟩;go_wp2_with (first | (refine ax rfl (ca (c := aE) (parts := []) rfl rfl) ?_) | (refine aW rfl (aX rfl rfl rfl HT.out) ?_));exact bodyPost_ret (b9 rfl _ _ _ rfl (World.rangeAt_setCells_same _ _ _ _ (by rw [aG]; exact HT))) rfl ⟨rfl, below_setCells HA aj _⟩
 ·obtain ⟨x, hx⟩ : ∃ x, M.ds.getD k ch = x := ⟨_, rfl⟩;have hat := h1.ey.at_ k hk;rw [hx] at hat
  have HB : Hid (oy M (k : Int) n = gp x.S x.g n) := af (by unfold oy; rw [if_pos e, <- hx]; rfl);have HE : Hid (ov M (k : Int) n = dm x.S x.g n) := af (by unfold ov; rw [if_pos e, <- hx]; rfl);have HO := af (jM h1 hk);have HD := af (af4 n hat);have HSZ := af (World.size_alloc w (.cells (cel aE).toArray 64));obtain ⟨g, c, rfl, _, _⟩ := h1.slice;obtain ⟨c0, c1, c2, c3⟩ := h1.el;have ck := h1.cell hk;clear e h h1 hat hx hA;rw [HB.out, HE.out];clear HB HE;generalize gp x.S x.g n = y at *;generalize dm x.S x.g n = z at *;generalize ps.getD k 0 = q at *;go_enter func34, ntmps34;go_wp2_with (first | (refine ax rfl (aV rfl) ?_) | fail);refine HO.out.mono ?_;rintro e w1 ⟨rfl, rfl⟩;go_wp2_with fail;refine HD.out.mono ?_;rintro e w2 ⟨rfl, hb⟩;have HT2 := af (aS HT (by rw [HSZ.out]; omega) hb);have HB2 := af (HA.out.trans (hb.mono (by rw [HSZ.out]; omega)));clear hb;go_wp2_with (first | (refine aW rfl (aX rfl rfl rfl HT2.out) ?_) | fail);exact bodyPost_ret (b9 rfl _ _ _ rfl (World.rangeAt_setCells_same _ _ _ _ (by rw [aG]; exact HT2))) rfl ⟨rfl, below_setCells HB2 aj _⟩
theorem aja (n : Int) (h : bz cG w p v Fs ps M) :
  Calls prog 17 #[.pointer (some ⟨p, 0, none⟩), .int .i64 n] w fun e w' => e = .returned (.int .i64 (lD M n)) /\ bz cG w' p v Fs ps (iv M n) /\ Only (fun b => b = p) w w' := by
 obtain ⟨c0, c1, c2, c3⟩ := h.el;have f1 := frozen_of_row w p 1 _ _ h.at_;have HH := af h;cases hdk : M.dx
 ·rw [hdk] at c2;by_cases hn : n < 0
  ·have HE : Hid (lD M n = 2) := af (by unfold lD; rw [if_neg (by rw [hdk]; decide), if_pos hn]);have HS : Hid (iv M n = M) := af (by unfold iv; rw [HE.out, if_neg (by decide)]);clear h hdk;go_enter func17, ntmps17;go_wp2_with fail;go_ret;exact ⟨br HE.out.symm, by rw [HS.out]; exact HH, Only.refl _ _⟩
  ·have HE : Hid (lD M n = 0) := af (by unfold lD; rw [if_neg (by rw [hdk]; decide), if_neg hn]);have HS : Hid (iv M n = ⟨M.ds, n.toNat, M.dx, M.steps⟩) := af (by unfold iv; rw [HE.out, if_pos rfl]);have HN : Hid (((n.toNat : Nat) : Int) = n) := af (by omega);clear h hdk;go_enter func17, ntmps17;go_wp2_with fail;go_ret;have ho := dt w p 1 (.int .i64 n);refine ⟨br HE.out.symm, ?_, ho⟩;rw [HS.out];refine HH.out.obj _ _ _ ho ?_;have := heap_setCell_same w p 1 _ _ (.int .i64 n) HH.out.at_
   simpa [cG, HN.out] using this
 ·have HE : Hid (lD M n = 8) := af (by unfold lD; rw [if_pos hdk]);have HS : Hid (iv M n = M) := af (by unfold iv; rw [HE.out, if_neg (by decide)]);rw [hdk] at c2;clear h hdk;go_enter func17, ntmps17;go_wp2_with fail;go_ret;exact ⟨br HE.out.symm, by rw [HS.out]; exact HH, Only.refl _ _⟩
theorem aiA (d : Int) (h : bz cG w p v Fs ps M) :
  Calls prog 23 #[.pointer (some ⟨p, 0, none⟩), .int .i64 d] w fun e w' => e = .returned (.int .i64 (d8 M d)) /\ Left cG w p v Fs ps M.ds.length (kw M d) w' := by
 rcases dS M d with ⟨e, ho⟩ | ⟨e, k, rfl, hk⟩
 ·have HL := af (Left.same h (M' := kw M d) (by unfold kw; rw [if_neg (by omega)]));have HO := af (jE h ho);have HE := af e;clear e h ho;go_enter func23, ntmps23;go_wp2_with fail;refine HO.out.mono ?_;rintro e w1 ⟨rfl, rfl⟩;go_wp2_with fail;go_ret;exact ⟨br HE.out.symm, HL⟩
 ·obtain ⟨x, hx⟩ : ∃ x, M.ds.getD k ch = x := ⟨_, rfl⟩;have hat := h.ey.at_ k hk;rw [hx] at hat
  have HS : Hid (kw M (k : Int) = M.put k ⟨x.S, [], true⟩) := af (by unfold kw; rw [if_pos e, <- hx]; rfl);have HO := af (jM h hk);have HD := af (aeW hat);have HE := af e;have HH := af h;obtain ⟨g, c, rfl, _, _⟩ := h.slice;obtain ⟨c0, c1, c2, c3⟩ := h.el;have ck := h.cell hk;obtain ⟨q, hq⟩ : ∃ q, ps.getD k 0 = q := ⟨_, rfl⟩;rw [hq] at ck HD;have HQ := af hq;clear e h hat hx hq;go_enter func23, ntmps23;go_wp2_with fail;refine HO.out.mono ?_;rintro e w1 ⟨rfl, rfl⟩;go_wp2_with fail;refine HD.out.mono ?_;rintro e w2 ⟨⟨z, rfl⟩, F', h1, h2, h3⟩;go_wp2_with fail;go_ret;exact ⟨br HE.out.symm, Left.turn HH hk h2 h3 (d := ⟨x.S, [], true⟩) (by rw [HQ.out]; exact h1) HS⟩
theorem ajT (d n i : Int) (u : UInt8) (h : bz cG w p v Fs ps M) :
  Calls prog 21 #[.pointer (some ⟨p, 0, none⟩), .int .i64 d, .int .i64 n, .int .i64 i, .int .u8 (u.toNat : Int)] w fun e w' => e = .returned (.int .i64 (qm M d n i)) /\ Left cG w p v Fs ps M.ds.length (kz M d n i u) w' := by
 rcases dS M d with ⟨e, ho⟩ | ⟨e, k, rfl, hk⟩
 ·have HL := af (Left.same h (M' := kz M d n i u) (by unfold kz; rw [if_neg (by omega)]));have HO := af (jE h ho);have HE : Hid (qm M d n i = 2) := af (by unfold qm; rw [if_neg (by omega), e]);clear e h ho;go_enter func21, ntmps21;go_wp2_with fail;refine HO.out.mono ?_;rintro e w1 ⟨rfl, rfl⟩;go_wp2_with fail;go_ret;exact ⟨br HE.out.symm, HL⟩
 ·obtain ⟨x, hx⟩ : ∃ x, M.ds.getD k ch = x := ⟨_, rfl⟩;have hat := h.ey.at_ k hk;rw [hx] at hat
  have HS : Hid (kz M (k : Int) n i u = M.put k ⟨j6 x.S x.g n i u, x.L, x.g⟩) := af (by unfold kz; rw [if_pos e, <- hx]; rfl);have HO := af (jM h hk);have HD := af (ag9 n i u hat);have HE : Hid (qm M (k : Int) n i = fG x.S x.g n i) := af (by unfold qm; rw [if_pos e, <- hx]; rfl);have HH := af h;obtain ⟨g, c, rfl, _, _⟩ := h.slice;obtain ⟨c0, c1, c2, c3⟩ := h.el;have ck := h.cell hk;obtain ⟨q, hq⟩ : ∃ q, ps.getD k 0 = q := ⟨_, rfl⟩;rw [hq] at ck HD;have HQ := af hq;clear e h hat hx hq;go_enter func21, ntmps21;go_wp2_with fail;refine HO.out.mono ?_;rintro e w1 ⟨rfl, rfl⟩;go_wp2_with fail;refine HD.out.mono ?_;rintro e w2 ⟨rfl, F', h1, h2, h3⟩;go_wp2_with fail;go_ret;exact ⟨br HE.out.symm, Left.turn HH hk h2 h3 (d := ⟨j6 x.S x.g n i u, x.L, x.g⟩) (by rw [HQ.out]; exact h1) HS⟩
def aK.step (M : aK) : aK := if M.left = 1 then M.night else M.done
theorem acW (h : bz cG w p v Fs ps M) (hs : M.steps < 1000000) (hll : M.left < 9223372036854775808) :
  Calls prog 124 #[.pointer (some ⟨p, 0, none⟩)] w fun e w' => e = .returned (.int .i64 M.eQ) /\ bz cG w' p v Fs ps M.step /\ Only (fun b => b = p) w w' := by
 obtain ⟨c0, c1, c2, c3⟩ := h.el;have f1 := frozen_of_row w p 1 _ _ h.at_;have f2 := frozen_of_row w p 2 _ _ h.at_;have f3 := frozen_of_row w p 3 _ _ h.at_;have HH := af h;clear h;by_cases h1 : M.left = 1
 ·have HE : Hid (M.eQ = 8) := af (by unfold aK.eQ; rw [if_pos h1]);have HS : Hid (M.step = M.night) := af (by unfold aK.step; rw [if_pos h1]);rw [h1] at c1;clear h1 hs hll;go_enter func124, ntmps124;go_wp2_with fail;go_ret;have ho := dt w p 2 (.bool true);refine ⟨br HE.out.symm, ?_, ho⟩;rw [HS.out];refine HH.out.obj _ _ _ ho ?_;have := heap_setCell_same w p 2 _ _ (.bool true) HH.out.at_
  simpa [cG] using this
 ·have HE : Hid (M.eQ = 0) := af (by unfold aK.eQ; rw [if_neg h1]);have HS : Hid (M.step = M.done) := af (by unfold aK.step; rw [if_neg h1]);by_cases h2 : 1 < M.left
  ·have hl1 : ((M.left : Int) == 1) = false := by simpa using (by omega : ¬ (M.left : Int) = 1)
   go_enter func124, ntmps124;go_wp2_with fail;go_ret;have ho := (dt w p 1 (.int .i64 ((M.left : Int) - 1))).setCell (p := ⟨p, 3, none⟩) (.inl rfl) (.int .i64 ((M.steps : Int) + 1));refine ⟨br HE.out.symm, ?_, ho⟩;rw [HS.out];refine HH.out.obj _ _ _ ho ?_;have h3 := heap_setCell_same _ p 3 _ _ (.int .i64 ((M.steps : Int) + 1)) (heap_setCell_same w p 1 _ _ (.int .i64 ((M.left : Int) - 1)) HH.out.at_);have e : ((M.left - 1 : Nat) : Int) = (M.left : Int) - 1 := by omega
   simpa [cG, e] using h3
  ·have hl0 : M.left = 0 := by omega
   have HL0 := af hl0;rw [hl0] at c1;clear h1 hll h2 hl0;go_enter func124, ntmps124;go_wp2_with fail;go_ret;have ho := dt w p 3 (.int .i64 ((M.steps : Int) + 1));refine ⟨br HE.out.symm, ?_, ho⟩;rw [HS.out];refine HH.out.obj _ _ _ ho ?_;have h3 := heap_setCell_same w p 3 _ _ (.int .i64 ((M.steps : Int) + 1)) HH.out.at_
   simpa [cG, HL0.out] using h3
end
section
variable {w w' : World} {p : Nat} {v : Value} {Fs : Nat -> Nat -> Prop} {ps : List Nat} {M : aK}
theorem qG {d : Int} (h0 : ec M d ≠ 0) : ec M d = 8 \/ ec M d = 2 := by
 rcases dN M d with ⟨e, _⟩ | ⟨e, _⟩ | ⟨e, _⟩
 ·exact .inl e
 ·exact .inr e
 ·exact absurd e h0
theorem wn (d : Int) (h : bz cG w p v Fs ps M) (hl : iJ M d ≠ 0) :
  Calls prog 68 #[.pointer (some ⟨p, 0, none⟩), .int .i64 d] w fun e w' => e = .returned (.int .i64 (fM M d)) /\ Left cG w p v Fs ps M.ds.length (eJ M d) w' := by
 have HE : Hid (fM M d = iJ M d) := af (by unfold fM; rw [if_neg hl]);have HL := af (Left.same h (M' := eJ M d) (by unfold eJ; rw [if_neg hl]));have HO := af (nJ d h);by_cases h0 : ec M d = 0
 ·rcases dN M d with ⟨e, _⟩ | ⟨e, _⟩ | ⟨e, hdk, k, rfl, hk⟩
  ·omega
  ·omega
  obtain ⟨x, hx⟩ : ∃ x, M.ds.getD k ch = x := ⟨_, rfl⟩;have hat := h.ey.at_ k hk;rw [hx] at hat
  have hg : x.g = true := by
   cases hg : x.g
   ·exfalso; apply hl; unfold iJ; rw [if_pos e, show M.dev (k : Int) = x from hx, hg, if_neg (by decide)]
   ·rfl
  have H9 : Hid (iJ M (k : Int) = 9) := af (by unfold iJ; rw [if_pos e, show M.dev (k : Int) = x from hx, hg, if_pos rfl]);obtain ⟨g, c, rfl, _, _⟩ := h.slice;obtain ⟨c0, c1, c2, c3⟩ := h.el;have ck := h.cell hk;obtain ⟨AS, cS, d0, d2⟩ := mM hat
  rw [hg] at d2;rw [e] at HO;clear e h hat hx hdk hl h0 hg;generalize ps.getD k 0 = q at *;go_enter func68, ntmps68;go_wp2_with fail;refine HO.out.mono ?_;rintro e w1 ⟨rfl, rfl⟩;go_wp2_with fail;go_ret;exact ⟨br (by rw [HE.out, H9.out]), HL⟩
 ·have HA : Hid (iJ M d = ec M d) := af (by unfold iJ; rw [if_neg h0]);clear h hl;rw [HE.out, HA.out];rcases qG h0 with e | e
  all_goals
   rw [e] at HO ⊢;clear e h0;go_enter func68, ntmps68;go_wp2_with fail;refine HO.out.mono ?_;rintro e w1 ⟨rfl, rfl⟩;go_wp2_with fail;go_ret;exact ⟨rfl, HL⟩
theorem aex (d : Int) (h : bz cG w p v Fs ps M) (hs : M.steps < 1000000) (hll : M.left < 9223372036854775808) :
  Calls prog 68 #[.pointer (some ⟨p, 0, none⟩), .int .i64 d] w fun e w' => e = .returned (.int .i64 (fM M d)) /\ Left cG w p v Fs ps M.ds.length (eJ M d) w' := by
 by_cases hl : iJ M d = 0;rotate_left 1
 ·exact wn d h hl
 have hlit : ec M d = 0 := by
  unfold iJ at hl;by_cases h0 : ec M d = 0
  ·exact h0
  ·rw [if_neg h0] at hl; exact hl
 rcases dN M d with ⟨e, _⟩ | ⟨e, _⟩ | ⟨e, hdk, k, rfl, hk⟩
 ·omega
 ·omega
 obtain ⟨x, hx⟩ : ∃ x, M.ds.getD k ch = x := ⟨_, rfl⟩;have hat := h.ey.at_ k hk;rw [hx] at hat
 have hg : x.g = false := by
  cases hg : x.g
  ·rfl
  ·exfalso; unfold iJ at hl; rw [if_pos e, show M.dev (k : Int) = x from hx, hg, if_pos rfl] at hl; omega
 have HEE : Hid (fM M (k : Int) = M.eQ) := af (by unfold fM; rw [if_pos hl]);have HO := af (nJ (k : Int) h);rw [e] at HO;have HST := af (acW h hs hll);obtain ⟨q, hq⟩ : ∃ q, ps.getD k 0 = q := ⟨_, rfl⟩;obtain ⟨g, c, rfl, _, _⟩ := h.slice;obtain ⟨c0, c1, c2, c3⟩ := h.el;have ck := h.cell hk;obtain ⟨AS, cS, d0, d2⟩ := mM hat
 rw [hg] at d2;rw [hq] at ck d2 d0;by_cases h1 : M.left = 1
 ·have HE : Hid (M.eQ = 8) := af (by unfold aK.eQ; rw [if_pos h1]);have HN : Hid (M.step = M.night) := af (by unfold aK.step; rw [if_pos h1]);have HS : Hid (eJ M (k : Int) = M.night) := af (by unfold eJ; rw [if_pos hl, if_pos h1]);clear e h hat hx hdk hl hg h1 hlit hs hll hq;go_enter func68, ntmps68;go_wp2_with fail;refine HO.out.mono ?_;rintro e w1 ⟨rfl, rfl⟩;go_wp2_with fail;refine HST.out.mono ?_;rintro e w2 ⟨rfl, h2, ho2⟩;rw [HE.out];have H2 := af h2;have HO2 := af ho2;clear h2 ho2;go_wp2_with fail;go_ret;refine ⟨br (by rw [HEE.out, HE.out]), ?_⟩;rw [HS.out, <- HN.out];exact Left.obj H2 HO2 (by rw [HN.out]; rfl)
 ·have HE : Hid (M.eQ = 0) := af (by unfold aK.eQ; rw [if_neg h1]);have HN : Hid (M.step = M.done) := af (by unfold aK.step; rw [if_neg h1]);have HS : Hid (eJ M (k : Int) = M.done.put k ⟨flS x.S x.L, [], x.g⟩) := af (by unfold eJ; rw [if_pos hl, if_neg h1, show M.dev (k : Int) = x from hx]; rfl);have HX := af hx;have HG := af hg;have HQ := af hq;clear e h hat hx hdk hl hg h1 hlit hs hll hq;go_enter func68, ntmps68;go_wp2_with fail;refine HO.out.mono ?_;rintro e w1 ⟨rfl, rfl⟩;go_wp2_with fail;refine HST.out.mono ?_;rintro e w2 ⟨rfl, h2, ho2⟩;rw [HE.out];rw [HN.out] at h2;obtain ⟨e0, e1, e2, e3⟩ := h2.el;have ek := bz.cell (M := M.done) h2 (i := k) hk;rw [HQ.out] at ek;have hat2 := h2.ey.at_ k hk;rw [show M.done.ds.getD k ch = x from HX.out, HQ.out] at hat2;have HD := af (adx hat2);have H2 := af h2;have HO2 := af ho2;clear h2 ho2 hat2 c0 c1 c2 c3 ck d0 d2;go_wp2_with fail;refine HD.out.mono ?_;rintro e w3 ⟨rfl, F', g1, g2, g3⟩;rw [HG.out];have HL := af (Left.behind HO2 (Left.turn H2 (i := k) hk g2 g3 (d := ⟨flS x.S x.L, [], x.g⟩) (show Rv _ _ _ _ _ _ by rw [HQ.out]; simpa [HG.out] using g1) HS));clear g1 g2 g3;go_wp2_with fail;go_ret;exact ⟨br (by rw [HEE.out, HE.out]), HL⟩
theorem adT (d : Int) (h : bz cG w p v Fs ps M) (hcap : ∀ i, i < M.ds.length -> 1 <= (M.ds.getD i ch).S.length /\ (M.ds.getD i ch).S.length <= 512) :
  Calls prog 25 #[.pointer (some ⟨p, 0, none⟩), .int .i64 d] w fun e w' => e = .returned (.int .i64 (lB M d)) /\ Left cG w p v Fs ps M.ds.length (i9 M d) w' := by
 have HO := af (nJ d h);by_cases h0 : ec M d = 0
 ·rcases dN M d with ⟨e, _⟩ | ⟨e, _⟩ | ⟨e, hdk, k, rfl, hk⟩
  ·omega
  ·omega
  obtain ⟨x, hx⟩ : ∃ x, M.ds.getD k ch = x := ⟨_, rfl⟩;have hat := h.ey.at_ k hk;have hS := hcap k hk;rw [hx] at hat hS;obtain ⟨g, c, rfl, _, _⟩ := h.slice;obtain ⟨c0, c1, c2, c3⟩ := h.el;have ck := h.cell hk;have fk := h.frozen k;obtain ⟨AS, cS, d0, d2⟩ := mM hat
  obtain ⟨q, hq⟩ : ∃ q, ps.getD k 0 = q := ⟨_, rfl⟩;rw [hq] at ck d2 d0;rw [e] at HO;cases hg : x.g
  ·have HE : Hid (lB M (k : Int) = 17) := af (by unfold lB; rw [if_pos e, show M.dev (k : Int) = x from hx, hg, if_neg (by decide)]);have HL := af (Left.same h (M' := i9 M (k : Int)) (by unfold i9; rw [HE.out, if_neg (by decide)]));rw [hg] at d2;clear e h hat hx hdk h0 hg hq hS hcap;go_enter func25, ntmps25;go_wp2_with fail;refine HO.out.mono ?_;rintro e w1 ⟨rfl, rfl⟩;go_wp2_with fail;go_ret;exact ⟨br HE.out.symm, HL⟩
  ·have HE : Hid (lB M (k : Int) = 0) := af (by unfold lB; rw [if_pos e, show M.dev (k : Int) = x from hx, hg, if_pos rfl]);have HS : Hid (i9 M (k : Int) = M.put k ⟨List.replicate x.S.length aE, [], false⟩) := af (by unfold i9; rw [HE.out, if_pos rfl, show M.dev (k : Int) = x from hx]; rfl);obtain ⟨hS1, hS2⟩ := hS;have HH := af h;rw [hg] at d2;clear e h hat hx hdk h0 hg hq hcap;go_enter func25, ntmps25;go_wp2_with fail;refine HO.out.mono ?_;rintro e w1 ⟨rfl, rfl⟩;go_wp2_with fail;refine (ad8 x.S.length w hS1 hS2).mono ?_;rintro e w4 ⟨p', F', rfl, hd4, hb4, hF4⟩;have h4 := HH.out.below hb4;have HSW := af (HH.out.swap hk hb4 hF4 (d := ⟨List.replicate x.S.length aE, [], false⟩) hd4);have HB4 := af hb4;have HF4 := af hF4;obtain ⟨e0, e1, e2, e3⟩ := h4.el;have ek := h4.cell hk;have efk := h4.frozen k;clear hd4 hb4 hF4 h4 c0 c1 c2 c3 ck fk d0 d2;go_wp2_with fail;go_ret;refine ⟨br HE.out.symm, ?_⟩;rw [HS.out];refine ⟨_, _, HSW, ((Only.of_below _ HB4).setCell (p := ⟨g, k, none⟩) (.inl (.inr (.inl rfl))) _), fun b hb => ?_⟩;rcases hb with e | e | ⟨j, hj, e | e⟩
   ·exact .inl (.inl e)
   ·exact .inl (.inr (.inl e))
   ·exact .inr (HF4.out b e.2)
   ·exact .inl (.inr (.inr ⟨j, by rwa [M.lc] at hj, e.2⟩))
 ·have HA : Hid (lB M d = ec M d) := af (by unfold lB; rw [if_neg h0]);have HL := af (Left.same h (M' := i9 M d) (by unfold i9; rw [HA.out, if_neg h0]));clear h hcap;rw [HA.out];rcases qG h0 with e | e
  all_goals
   rw [e] at HO ⊢;clear e h0;go_enter func25, ntmps25;go_wp2_with fail;refine HO.out.mono ?_;rintro e w1 ⟨rfl, rfl⟩;go_wp2_with fail;go_ret;exact ⟨rfl, HL⟩
end
section
variable {w w' : World} {p : Nat} {v : Value} {Fs : Nat -> Nat -> Prop} {ps : List Nat} {M : aK}
theorem ajm {b : Nat} : (Instr.fieldAt 85 (.pointer (some ⟨b, 0, none⟩)) 0).run prog w = .ok (.pointer (some ⟨b, 0, none⟩)) w := by kernel_rfl
theorem akQ {a : Addr} {A : Option Addr} {n c : Nat} (h : w.cell? a = some (.slice A n c)) : (Instr.loadAt 83 (.pointer (some a))).run prog w = .ok (.slice A n c) w := by simp [go_sem, h]
theorem akM {a : Addr} {A : Option Addr} (h : w.cell? a = some (.pointer A)) : (Instr.loadAt 86 (.pointer (some a))).run prog w = .ok (.pointer A) w := by simp [go_sem, h]
theorem abN {k : gY} {ρ : Operand -> Value} {o : Oper} {x y : Operand} {w : World} {b n c j : Nat} (ho : o.op = .indexAddr k.E.s x y) (hx : ρ x = .slice (some ⟨b, 0, none⟩) n c) (hy : ρ y = .int .i64 (j : Int)) (hj : j < n) : (execOp ρ o).run prog w = .ok (.value (.pointer (some ⟨b, j, none⟩))) w := by
 have h := bH (E := k.E) (w := w) ho hx hy hj;rwa [show 0 + j * k.E.n = j from by show 0 + j * 1 = j; omega] at h
theorem vW (d n : Int) (x : Blk) (h : bz cG w p v Fs ps M) (hr : cM M d n ≠ 0) :
  Calls prog 67 #[.pointer (some ⟨p, 0, none⟩), .int .i64 d, .int .i64 n, blk x] w fun e w' => e = .returned (.int .i64 (cM M d n)) /\ Below w.heap.size w w' := by
 have hA := (Below.refl w.heap.size w).alloc aj (.cells (cel x).toArray 64);have h1 := h.below hA;have HO := af (nJ d h1);have HA := af hA;by_cases h0 : ec M d = 0
 ·rcases dN M d with ⟨e, _⟩ | ⟨e, _⟩ | ⟨e, hdk, k, rfl, hk⟩
  ·omega
  ·omega
  obtain ⟨y, hy⟩ : ∃ y, M.ds.getD k ch = y := ⟨_, rfl⟩;have hat := h1.ey.at_ k hk;rw [hy] at hat
  have hr0 : cM M (k : Int) n = dm y.S y.g n := by unfold cM; rw [if_pos e, M.ji, hy]
  rw [hr0] at hr ⊢;have HD := af (xZ n hat);obtain ⟨g, c, rfl, _, _⟩ := h1.slice;obtain ⟨c0, c1, c2, c3⟩ := h1.el;have ck := h1.cell hk;rw [e] at HO;clear e h h1 hA hat hy hdk h0 hr0;generalize ps.getD k 0 = q at *;rcases ft (S := y.S) (g := y.g) (n := n) with e | e | ⟨e, _⟩
  rotate_right 1
  ·exact absurd e hr
  all_goals
   rw [e] at HD ⊢;clear e hr;go_enter func67, ntmps67;go_wp2_with (first | (refine ax rfl (bW rfl rfl) ?_) | fail);refine HO.out.mono ?_;rintro e w1 ⟨rfl, rfl⟩;go_wp2_with fail;refine HD.out.mono ?_;rintro e w2 ⟨rfl, rfl⟩;go_wp2_with fail;go_ret;exact ⟨rfl, HA⟩
 ·have hr0 : cM M d n = ec M d := by unfold cM; rw [if_neg h0]
  rw [hr0];clear h h1 hA hr hr0;rcases qG h0 with e | e
  all_goals
   rw [e] at HO ⊢;clear e h0;go_enter func67, ntmps67;go_wp2_with (first | (refine ax rfl (bW rfl rfl) ?_) | fail);refine HO.out.mono ?_;rintro e w1 ⟨rfl, rfl⟩;go_wp2_with fail;go_ret;exact ⟨rfl, HA⟩
theorem wO (n : Int) (x : Blk) (h : bz cG w p v Fs ps M) {k : Nat} (hdk : M.dx = false) (hk : k < M.ds.length) (he : dm (M.ds.getD k ch).S (M.ds.getD k ch).g n = 0) (hs : M.steps < 1000000) (hll : M.left < 9223372036854775808) (hL : (M.ds.getD k ch).L.length < 1000000) :
  Calls prog 67 #[.pointer (some ⟨p, 0, none⟩), .int .i64 k, .int .i64 n, blk x] w fun e w' => e = .returned (.int .i64 M.eQ) /\ Left cG w p v Fs ps M.ds.length (eS M (k : Int) n x) w' := by
 obtain ⟨y, hy⟩ : ∃ y, M.ds.getD k ch = y := ⟨_, rfl⟩;obtain ⟨q, hq⟩ : ∃ q, ps.getD k 0 = q := ⟨_, rfl⟩;have hA := (Below.refl w.heap.size w).alloc aj (.cells (cel x).toArray 64);have h1 := h.below hA;have HO := af (nJ (k : Int) h1);rw [sn hdk hk] at HO;have hat := h1.ey.at_ k hk;have hr0 : cM M (k : Int) n = 0 := by unfold cM; rw [if_pos (sn hdk hk), M.ji]; exact he
 rw [hy, hq] at hat
 rw [hy] at he hL;have HD := af (xZ n hat);rw [he] at HD;have HST := af (acW h1 hs hll);obtain ⟨g, c, rfl, _, _⟩ := h1.slice;obtain ⟨c0, c1, c2, c3⟩ := h1.el;have ck := h1.cell hk;rw [hq] at ck;have HA := af hA;have HE := af he;have HL := af hL;have HY := af hy;have HQ := af hq;have HR := af hr0;have HB := af (ox w (cel x).toArray 64);have HPW := af (aR h.at_);by_cases h2 : M.left = 1
 ·have HE1 : Hid (M.eQ = 8) := af (by unfold aK.eQ; rw [if_pos h2]);have HN : Hid (M.step = M.night) := af (by unfold aK.step; rw [if_pos h2]);have HW : Hid (eS M (k : Int) n x = M.night) := af (by unfold eS; rw [if_pos hr0, if_pos h2]);clear h h1 h2 hA hat hr0 hy hq hdk he hs hll hL;go_enter func67, ntmps67;go_wp2_with (first | (refine ax rfl (bW rfl rfl) ?_) | fail);refine HO.out.mono ?_;rintro e w1 ⟨rfl, rfl⟩;go_wp2_with fail;refine HD.out.mono ?_;rintro e w2 ⟨rfl, rfl⟩;go_wp2_with fail;refine HST.out.mono ?_;rintro e w3 ⟨rfl, h3, ho3⟩;rw [HE1.out];have HLL := af (Left.above HA (Left.obj h3 ho3 (n := M.ds.length) (by rw [HN.out]; rfl)));clear h3 ho3;go_wp2_with fail;go_ret;exact ⟨br HE1.out.symm, by rw [HW.out, <- HN.out]; exact HLL⟩
 ·have HE1 : Hid (M.eQ = 0) := af (by unfold aK.eQ; rw [if_neg h2]);have HN : Hid (M.step = M.done) := af (by unfold aK.step; rw [if_neg h2]);have HW : Hid (eS M (k : Int) n x = M.done.put k ⟨y.S, wrL y.S y.L y.g n x, y.g⟩) := af (by unfold eS; rw [if_pos hr0, if_neg h2, show M.dev (k : Int) = y from hy]; rfl);clear h h1 h2 hA hat hr0 hy hq hdk he hs hll hL;go_enter func67, ntmps67;go_wp2_with (first | (refine ax rfl (bW rfl rfl) ?_) | fail);refine HO.out.mono ?_;rintro e w1 ⟨rfl, rfl⟩;go_wp2_with fail;refine HD.out.mono ?_;rintro e w2 ⟨rfl, rfl⟩;go_wp2_with fail;refine HST.out.mono ?_;rintro e w3 ⟨rfl, h3, ho3⟩;rw [HE1.out];rw [HN.out] at h3;have hb3 := ho3.keep HB (fun e => by have := HPW.out; omega);have H3 := af h3;have HB3 := af hb3;have HO3 := af (Only.trans (Only.of_below (fun b => b = p) HA) ho3 fun b hb => .inl hb);clear h3 ho3 hb3 c0 c1 c2 c3 ck;go_wp2_with fail;have hdr : bz cG w3.drew p (.slice (some ⟨g, 0, none⟩) M.ds.length c) Fs ps M.done := H3.out.below (bd ak);refine wp_region_still_tail 9 (by kernel_rfl) (by kernel_rfl) ?_;simp only [ae];refine aJ rfl (aB rfl alb) ?_;simp only [aa];refine aJ rfl (aM rfl alb) ?_;simp only [aa];refine aJ rfl (av rfl alb ajm) ?_;simp only [aa];refine aJ rfl (aA rfl alb (akQ hdr.el.1)) ?_;simp only [aa];refine aJ rfl (aB rfl alb) ?_;simp only [aa];refine aJ rfl (abN (k := cG) rfl alb alb hk) ?_;simp only [aa];refine aJ rfl (aA rfl alb (akM (bz.cell (M := M.done) hdr (i := k) hk))) ?_;simp only [aa];refine aJ rfl (aB rfl alb) ?_;simp only [aa];refine aJ rfl (aU rfl alb (jT HB3)) ?_;simp only [aa];refine wpStill_nil ?_;change wpList _ _ _ _ _ w3.drew;rw [HQ.out];have hat3 := hdr.ey.at_ k hk;rw [show M.done.ds.getD k ch = y from HY.out, HQ.out] at hat3;have HDR := af hdr;have HD3 := af (ad2 n x HL hat3);clear hdr hat3;go_wp2_with fail;refine HD3.out.mono ?_;rintro e w4 ⟨rfl, F', g1, g2, g3⟩;rw [HE.out];have HLT := af (Left.behind (HO3.out.drew) (Left.turn HDR (i := k) hk g2 g3 (d := ⟨y.S, wrL y.S y.L y.g n x, y.g⟩) (show Rv _ _ _ _ _ _ by rw [HQ.out]; exact g1) HW));clear g1 g2 g3;go_wp2_with fail;go_ret;exact ⟨br HE1.out.symm, HLT⟩
theorem agq (d n : Int) (x : Blk) (h : bz cG w p v Fs ps M) (hr : ∀ i, i < M.ds.length -> (M.ds.getD i ch).L.length < 1000000) (hs : M.steps < 1000000) (hll : M.left < 9223372036854775808) :
  Calls prog 67 #[.pointer (some ⟨p, 0, none⟩), .int .i64 d, .int .i64 n, blk x] w fun e w' => e = .returned (.int .i64 (f9 M d n)) /\ Left cG w p v Fs ps M.ds.length (eS M d n x) w' := by
 by_cases hr0 : cM M d n = 0
 ·have hlit : ec M d = 0 := by
   by_cases h0 : ec M d = 0
   ·exact h0
   ·unfold cM at hr0; rw [if_neg h0] at hr0; exact hr0
  rcases dN M d with ⟨e, _⟩ | ⟨e, _⟩ | ⟨e, hdk, k, rfl, hk⟩
  ·omega
  ·omega
  have he : dm (M.ds.getD k ch).S (M.ds.getD k ch).g n = 0 := by unfold cM at hr0; rwa [if_pos e, M.ji] at hr0
  refine (wO n x h hdk hk he hs hll (hr k hk)).mono ?_;rintro e w' ⟨rfl, hl⟩;exact ⟨by unfold f9; rw [if_pos hr0], hl⟩
 ·refine (vW d n x h hr0).mono ?_;rintro e w' ⟨rfl, hb⟩;exact ⟨by unfold f9; rw [if_neg hr0], Left.qa h hb (by unfold eS; rw [if_neg hr0])⟩
theorem afP {A : Option Addr} {n c : Nat} {P : List Int} (h : bz cG w p v Fs ps M) (hP : Pk w (fc p v Fs M.ds.length) A n c P) :
  Calls prog 19 #[.pointer (some ⟨p, 0, none⟩), .slice A n c] w fun e w' => e = .returned (.int .i64 0) /\ Left cG w p v Fs ps M.ds.length (vH M P) w' := by
 obtain ⟨g, cc, rfl, _, hcm⟩ := h.slice;unfold maxLen at hcm;have HH := af h;have HP := af hP;have hlen : M.ds.length <= 17 := h.cap;clear h hP;go_enter func19, ntmps19;go_wp2_with fail
 go_loopw [1, 5] (fun pk i wr => ∃ (j : Nat) (A' : Option Addr) (n' c' : Nat) (Fs' : Nat -> Nat -> Prop), j <= M.ds.length /\ i = .int .i64 j /\ pk = .slice A' n' c' /\ Pk w (fc p (.slice (some ⟨g, 0, none⟩) M.ds.length cc) Fs M.ds.length) A' n' c' (d5 M.ds P j).2 /\ gh cG w wr p (.slice (some ⟨g, 0, none⟩) M.ds.length cc) Fs ps M P j Fs') (fun _ i _ => M.ds.length - (intOf i).toNat)
 case atStart => exact ⟨0, A, n, c, Fs, Nat.zero_le _, rfl, rfl, by rw [show (d5 M.ds P 0).2 = P from by rw [d5]]; exact HP, gh.zero HH P⟩
 case round =>
  obtain ⟨j, A', n', c', Fs', hj, rfl, rfl, hpk, hct⟩ := hrel;obtain ⟨c0, c1, c2, c3⟩ := hct.1.el;by_cases hlt : j < M.ds.length
  ·have hlj : (j : Int) < (M.ds.length : Int) := by omega
   have hcell : wr.cell? ⟨g, j, none⟩ = some (.pointer (some ⟨ps.getD j 0, 0, none⟩)) := by
    have h1 := hct.1;have hl : (d5 M.ds P j).1.length = M.ds.length := g8 j M.ds P;have h2 : bz cG wr p (.slice (some ⟨g, 0, none⟩) (⟨(d5 M.ds P j).1, M.left, M.dx, M.steps⟩ : aK).ds.length cc) Fs' ps ⟨(d5 M.ds P j).1, M.left, M.dx, M.steps⟩ := by
     rw [show (⟨(d5 M.ds P j).1, M.left, M.dx, M.steps⟩ : aK).ds.length = M.ds.length from hl]; exact h1
    exact h2.cell (by show j < (d5 M.ds P j).1.length; rw [hl]; exact hlt)
   obtain ⟨x, hx⟩ : ∃ x, M.ds.getD j ch = x := ⟨_, rfl⟩;obtain ⟨Q, hQ⟩ : ∃ Q, (d5 M.ds P j).2 = Q := ⟨_, rfl⟩;have hdv := hct.dev hlt;rw [hx] at hdv;rw [hQ] at hpk;have hnx := (k9 j M.ds P hlt).2;rw [hx, hQ] at hnx;have hrd := hpk.only hct.2.1;have HC := af (ab2 (c := c') hrd (hpk.grown (w' := w) fun b hb => hct.2.2 b (.inr (.inr ⟨j, hlt, hb⟩))) hdv);have HCT := af hct;have HPK := af hpk;have HX := af hx;have HQ := af hQ;have HNX := af hnx;have hql : (min x.L.length n' : Nat) <= n' := Nat.min_le_right _ _;have hpl := hpk.len;have HPL := af hpl;clear hx hQ hdv hrd hct hpk hnx hpl;generalize hqq : ps.getD j 0 = q at *;have HQQ := af hqq;clear hqq;generalize hmm : min x.L.length n' = m at *;have HMM := af hmm;clear hmm;go_wp2_with fail;refine HC.out.mono ?_;rintro e w2 ⟨rfl, F'', g1, g2, g3⟩;go_wp2_with (first | (refine ax rfl (p4 rfl rfl rfl hql) ?_) | fail);go_roundw
   case rel => exact ⟨j + 1, _, _, _, _, by omega, by go_num, rfl, by rw [HNX.out, HPL.out, HMM.out]; exact HPK.out.tail hql, HCT.out.next hlt g2 g3 (by rw [HQQ.out, HX.out, HQ.out]; exact g1)⟩
   case measure => simp [intOf]; omega
  ·have hjn : j = M.ds.length := by omega
   subst hjn;have hlj : ¬((M.ds.length : Int) < (M.ds.length : Int)) := by omega
   have h1 := hct.1;rw [jz] at h1;have f1 := frozen_of_row wr p 1 _ _ h1.at_;have f2 := frozen_of_row wr p 2 _ _ h1.at_;have HH1 := af h1;have HCT := af hct;clear h1 hct hpk;go_wp2_with fail;go_ret;have ho : Only (fun b => b = p) wr ((wr.setCell ⟨p, 1, none⟩ (.int .i64 0)).setCell ⟨p, 2, none⟩ (.bool false)) := (dt wr p 1 (.int .i64 0)).setCell (p := ⟨p, 2, none⟩) (.inl rfl) (.bool false);have h3 := heap_setCell_same _ p 2 _ _ (.bool false) (heap_setCell_same wr p 1 _ _ (.int .i64 0) HH1.out.at_);refine ⟨rfl, Fs', ps, HH1.out.obj 0 false M.steps ho (by simpa [cG] using h3), HCT.out.2.1.trans ho fun b hb => .inl (.inl hb), ?_⟩;have hl : (fR M.ds P).length = M.ds.length := by rw [<- jz, g8]
   show Grow w _ (fc p _ Fs' (fR M.ds P).length)
   rw [hl];exact HCT.out.2.2
end
section
variable {w w' : World}
theorem aiW {A : Option Addr} {n c : Nat} {ks : List Int} (hl : RdE dw w w.heap.size A n ks) (hnc : n <= c) (hc : c <= maxLen) :
  Calls prog 10 #[.slice A n c] w (fH cG w ks) := by
 have hlen : ks.length = n := hl.1;unfold maxLen at hc;by_cases h1 : n < 1
 ·have HN := af (show ¬ jK ks from fun h => by have := h.1; omega);have h0 : n = 0 := by omega
  subst h0;clear hl hlen h1;go_enter func10, ntmps10;go_wp2;go_ret2;exact fH.no ak HN rfl
 by_cases h2 : 17 < n
 ·have HN := af (show ¬ jK ks from fun h => by have := h.2.1; omega);have h1' : ¬((n : Int) < 1) := by omega
  have h2' : ((n : Int) > 17) := by omega
  clear hl hlen h1 h2;go_enter func10, ntmps10;go_wp2;go_ret2;exact fH.no ak HN rfl
 have h1' : ¬((n : Int) < 1) := by omega
 have h2' : ¬((n : Int) > 17) := by omega
 have h3' : ¬(17 < (n : Int)) := by omega
 have HL := af hl;have HLEN := af hlen;have HMK := af (show Making cG w (w.alloc (.cells #[.slice none 0 0, .int .i64 0, .bool false, .int .i64 0] 85)) (.slice none 0 0) (fun _ _ => False) [] [] 0 false 0 from
  ⟨heap_alloc_new w _, aO.nil _ _, ⟨rfl, fun i hi => absurd hi (Nat.not_lt_zero i), fun i j hi => absurd hi (Nat.not_lt_zero i)⟩, fun i hi => absurd hi (Nat.not_lt_zero i), (Below.refl _ w).alloc aj _⟩)
 clear hl hlen;go_enter func10, ntmps10;go_wp2_with fail;generalize w.alloc (.cells #[.slice none 0 0, .int .i64 0, .bool false, .int .i64 0] 85) = w0 at *;clear h1' h2' h3'
 go_loopw [5] (fun i wr => ∃ (j : Nat) (v : Value) (Fs : Nat -> Nat -> Prop) (ps : List Nat), j <= n /\ i = .int .i64 j /\ Making cG w wr v Fs ps ((ks.take j).map qp) 0 false 0 /\ ∀ q, q < j -> 1 <= ks.getD q 0 /\ ks.getD q 0 <= 512) (fun i _ => n - (intOf i).toNat)
 case atStart => exact ⟨0, _, _, _, Nat.zero_le _, rfl, HMK, fun q hq => absurd hq (Nat.not_lt_zero q)⟩
 case round =>
  obtain ⟨j, v, Fs, ps, hj, rfl, hmk, hall⟩ := hrel;have HALL := af hall;clear hall HMK;by_cases hlt : j < n
  ·have hlj : (j : Int) < (n : Int) := by omega
   obtain ⟨bA, oA, rfl, hbA, hcA⟩ := (HL.out.below hmk.below).int hlt;have HM := af hmk;obtain ⟨AS, cS, rfl, hs1, hs2⟩ := hmk.row.form;unfold maxLen at hs2;have hpl : ps.length = j := by have := hmk.ey.len; rw [List.length_map, List.length_take] at this; have := HLEN.out; omega
   have HPL := af hpl;obtain ⟨z, hz⟩ : ∃ z, ks.getD j 0 = z := ⟨_, rfl⟩;rw [hz] at hcA;have HZ := af hz;clear hmk hz hpl;by_cases hok : 1 <= z /\ z <= 512
   ·obtain ⟨k, rfl⟩ : ∃ k : Nat, z = k := ⟨z.toNat, by omega⟩;have hk1 : 1 <= k := by omega
    have hk2 : k <= 512 := by omega
    clear hok;go_wp2_with fail;refine (ad8 k wr hk1 hk2).mono ?_;rintro e w1 ⟨p', F', rfl, hd1, hb1, hF1⟩;have hat1 := cC HM.out.at_ hb1;obtain ⟨c0, c1, c2, c3⟩ := sE hat1;have hrow1 := HM.out.row.below hb1;have hrow2 := hrow1.below ((Below.refl _ w1).alloc aj (.cells (cG.E.cel p').toArray cG.E.t));have HR := af hrow2;have HNEW := af (fp (E := cG.E) (l := [p']) w1 (cG.E.cel p').toArray cG.E.t (by rw [eH]; simp [bY]));have HSZ := af (show w.heap.size <= (w1.alloc (.cells (cG.E.cel p').toArray cG.E.t)).heap.size by rw [World.size_alloc]; have := HM.out.below.size; have := hb1.size; omega);have HD1 := af hd1;have HB1 := af hb1;have HF1 := af hF1;have HAT := af hat1;have HPS := af (show ps.length + 1 <= 34359738368 by have := HPL.out; omega);clear hd1 hb1 hF1 hat1 hrow1 hrow2;have hal : w.heap.size < w1.heap.size := aR HAT;go_wp2_with (first | (refine ax rfl (dZ (E := cG.E) (a := p') rfl rfl rfl (by decide)) ?_) | (at_builtin; refine ku cG.E rfl _ _ rfl w.heap.size _ _ _ _ ps [p'] _ rfl rfl HR HNEW HSZ HPS ?_) | fail);intro v' w3 hm3 hg3 ho3;have hxv : v'.ownBlock ≠ some w.heap.size := fun e => by
     rcases ho3 _ e with e' | e'
     ·exact HM.out.row.dl HM.out.at_ cG.ne e'
     ·omega
    have HNX := af (HM.out.next (fun _ _ => rfl) HB1 HF1 (d := qp k) HD1 hm3 hg3 ho3);have hvx : (Value.slice AS ps.length cS).ownBlock ≠ some w.heap.size := HM.out.row.dl HM.out.at_ cG.ne;have hat3 : w3.heap[w.heap.size]? = some _ := (hg3.block w.heap.size (by rw [World.size_alloc]; omega) (fun e => hvx e.symm)).trans (cE HAT _);obtain ⟨AV, cV, rfl, _, _⟩ := hm3.form;obtain ⟨d0, d1, d2, d3⟩ := sE hat3;have f0 := frozen_of_row w3 w.heap.size 0 _ _ hat3;clear hm3 hg3 ho3 hat3 c0 c1 c2 c3;go_wp2_with fail;go_roundw
    case rel =>
     refine ⟨j + 1, .slice AV (ps.length + 1) cV, upF Fs (List.map qp (List.take j ks)).length F', ps ++ [p'], by omega, by go_num, ?_, fun q hq => ?_⟩
     ·rw [lH (by have := HLEN.out; omega), HZ.out];have h6 := HNX.out;rw [show (ps ++ [p']).length = ps.length + 1 from by simp] at h6;exact h6
     ·by_cases e : q = j
      ·subst e; rw [HZ.out]; omega
      ·exact HALL.out q (by omega)
    case measure => simp [intOf]; omega
   ·have HB := af HM.out.below;have HN := af (show ¬ jK ks from fun h => hok (by have := h.2.2 z (by rw [<- HZ.out]; exact jG (by have := HLEN.out; omega)); exact this));go_wp2_with fail;refine (adY z wr hok).mono ?_;rintro e w1 ⟨rfl, rfl⟩;have HB1 := af HB;clear hok;go_wp2_with fail;go_ret2;exact fH.no HB1 HN rfl
  ·have hjn : j = n := by omega
   subst hjn;have hlj : ¬((j : Int) < (j : Int)) := by omega
   have HM := af hmk;clear hmk;go_wp2_with fail;go_ret2;have h5 := HM.out;have hLL := HLEN.out;rw [<- hLL, List.take_length] at h5;obtain ⟨g1, g2, g3⟩ := h5.done (by rw [List.length_map]; omega) (by rw [List.length_map]; omega);refine ⟨g3, .inl ⟨⟨by omega, by omega, fun k hk => ?_⟩, _, _, _, _, rfl, g1, g2⟩⟩;obtain ⟨i, hi, rfl⟩ := List.getElem_of_mem hk;have := HALL.out i (by omega);rwa [List.getD_eq_getElem?_getD, List.getElem?_eq_getElem hi] at this
end
def ai7 : abL where
 read := 57
 write := 67
 flush := 68
 fail := 23
 insert := 25
 arm := 17
 kL := 19
 sure := 34
 rot := 21
 fI := 32
 dx := 38
 steps := 36
def RB (w : World) (F : Nat -> Prop) (p : Nat) (M : aK) : Prop := InB cG w F p M /\ M.Wf
theorem kS {M : aK} {k : Nat} {d : fF} (h : M.Wf) (hd : d.S.length = (M.ds.getD k ch).S.length) : (M.put k d).Wf := by
 refine ⟨by rw [M.lc]; exact h.one, by rw [M.lc]; exact h.cap, fun i hi => ?_⟩;rw [M.lc] at hi
 show 1 <= ((M.ds.set k d).getD i ch).S.length /\ ((M.ds.set k d).getD i ch).S.length <= 512
 by_cases e : i = k
 ·subst e; rw [jh hi, hd]; exact h.len i hi
 ·rw [ik e]; exact h.len i hi
theorem x8 {M : aK} (h : M.Wf) : M.done.Wf := ⟨h.one, h.cap, h.len⟩
theorem ul {M : aK} (h : M.Wf) : M.night.Wf := ⟨h.one, h.cap, h.len⟩
theorem ajf {M : aK} (h : M.Wf) (d n : Int) (b : Blk) : (eS M d n b).Wf := by
 unfold eS
 split
 ·split
  ·exact ul h
  ·exact kS (x8 h) rfl
 ·exact h
theorem ajY {M : aK} (h : M.Wf) (d : Int) : (eJ M d).Wf := by
 unfold eJ
 split
 ·split
  ·exact ul h
  ·exact kS (x8 h) (by rw [mJ]; rfl)
 ·exact h
theorem ajD {M : aK} (h : M.Wf) (d : Int) : (kw M d).Wf := by
 unfold kw
 split
 ·exact kS h rfl
 ·exact h
theorem ajb {M : aK} (h : M.Wf) (d : Int) : (i9 M d).Wf := by
 unfold i9
 split
 ·exact kS h (by rw [List.length_replicate]; rfl)
 ·exact h
theorem ajg {M : aK} (h : M.Wf) (n : Int) : (iv M n).Wf := by
 unfold iv
 split
 ·exact ⟨h.one, h.cap, h.len⟩
 ·exact h
theorem ai8 {M : aK} (h : M.Wf) (d n i : Int) (u : UInt8) : (kz M d n i u).Wf := by
 unfold kz
 split
 ·exact kS h (by rw [kZ]; rfl)
 ·exact h
theorem uD : ∀ (ds : List fF) (P : List Int) (i : Nat), ((fR ds P).getD i ch).S.length = (ds.getD i ch).S.length
 |[], P, i => rfl
 |d :: ds, P, 0 => m8 _ _ _ _
 |d :: ds, P, i + 1 => uD ds _ i
theorem ns (ds : List fF) (P : List Int) : (fR ds P).length = ds.length := by rw [<- jz, g8]
theorem ai0 {M : aK} (h : M.Wf) (P : List Int) : (vH M P).Wf := by
 refine ⟨by show 1 <= (fR M.ds P).length; rw [ns]; exact h.one, by show (fR M.ds P).length <= 17; rw [ns]; exact h.cap, fun i hi => ?_⟩;have hi' : i < M.ds.length := by have : i < (fR M.ds P).length := hi; rwa [ns] at this
 show 1 <= ((fR M.ds P).getD i ch).S.length /\ ((fR M.ds P).getD i ch).S.length <= 512
 rw [uD];exact h.len i hi'
theorem ag1 {ks : List Int} (h : jK ks) : (jB ks).Wf := by
 refine ⟨by rw [mf, List.length_map]; exact h.1, by rw [mf, List.length_map]; exact h.2.1, fun i hi => ?_⟩;rw [mf, List.length_map] at hi;have : ((jB ks).ds.getD i ch) = qp (ks.getD i 0) := by
  rw [mf, List.getD, List.getD, List.getElem?_map, List.getElem?_eq_getElem hi]; rfl
 rw [this];have h2 := h.2.2 _ (jG (x := 0) hi)
 show 1 <= (List.replicate _ _).length /\ (List.replicate _ _).length <= 512
 rw [List.length_replicate];omega
def aku : Ben ai7 where
 Bn := RB
 lt := fun h => h.1.lt
 only := fun h ho hn => ⟨h.1.only ho hn, h.2⟩
 wf := fun h => h.2
 read := fun d n ⟨⟨_, _, _, _, h⟩, _⟩ => ag5 d n h
 sure := fun d n ⟨⟨_, _, _, _, h⟩, _⟩ => ah6 d n h
 write := fun d n b hr ⟨⟨_, _, _, e, h⟩, hw⟩ => by
  subst e;exact (agq d n b h (fun i hi => hr.at_ hi) (by have := hr.1; omega) hr.2.1).mono fun e w' ⟨h1, h2⟩ => ⟨h1, by obtain ⟨F', g1, g2⟩ := h2.out; exact ⟨F', ⟨g1, ajf hw _ _ _⟩, g2⟩⟩
 flush := fun d hr ⟨⟨_, _, _, e, h⟩, hw⟩ => by
  subst e;exact (aex d h (by have := hr.1; omega) hr.2.1).mono fun e w' ⟨h1, h2⟩ => ⟨h1, by obtain ⟨F', g1, g2⟩ := h2.out; exact ⟨F', ⟨g1, ajY hw _⟩, g2⟩⟩
 fail := fun d ⟨⟨_, _, _, e, h⟩, hw⟩ => by
  subst e;exact (aiA d h).mono fun e w' ⟨h1, h2⟩ => ⟨h1, by obtain ⟨F', g1, g2⟩ := h2.out; exact ⟨F', ⟨g1, ajD hw _⟩, g2⟩⟩
 insert := fun d ⟨⟨_, _, _, e, h⟩, hw⟩ => by
  subst e;exact (adT d h hw.len).mono fun e w' ⟨h1, h2⟩ => ⟨h1, by obtain ⟨F', g1, g2⟩ := h2.out; exact ⟨F', ⟨g1, ajb hw _⟩, g2⟩⟩
 arm := fun {w F p M} n ⟨⟨_, _, _, e, h⟩, hw⟩ => by
  subst e;exact (aja n h).mono fun e w' ⟨h1, h2, h3⟩ => ⟨h1, by obtain ⟨F', g1, g2⟩ := (Left.obj h2 h3 (n := M.ds.length) (by unfold iv; split <;> rfl)).out; exact ⟨F', ⟨g1, ajg hw _⟩, g2⟩⟩
 kL := fun hP ⟨⟨_, _, _, e, h⟩, hw⟩ => by
  subst e;exact (afP h hP).mono fun e w' ⟨h1, h2⟩ => ⟨h1, by obtain ⟨F', g1, g2⟩ := h2.out; exact ⟨F', ⟨g1, ai0 hw _⟩, g2⟩⟩
 rot := fun d n i u ⟨⟨_, _, _, e, h⟩, hw⟩ => by
  subst e;exact (ajT d n i u h).mono fun e w' ⟨h1, h2⟩ => ⟨h1, by obtain ⟨F', g1, g2⟩ := h2.out; exact ⟨F', ⟨g1, ai8 hw _ _ _ _⟩, g2⟩⟩
 fI := fun d ⟨⟨_, _, _, _, h⟩, _⟩ => (rC d h).mono fun e w' ⟨h1, h2⟩ => ⟨h1, by subst h2; exact ak⟩
 dx := fun ⟨⟨_, _, _, _, h⟩, _⟩ => (ahY h).mono fun e w' ⟨h1, h2⟩ => ⟨h1, by subst h2; exact ak⟩
 steps := fun ⟨⟨_, _, _, _, h⟩, _⟩ => (afi h).mono fun e w' ⟨h1, h2⟩ => ⟨h1, by subst h2; exact ak⟩
structure akj extends Ben ai7 where
 new : ∀ {w A n c ks}, RdE dw w w.heap.size A n ks -> n <= c -> c <= maxLen -> Calls prog 10 #[.slice A n c] w (ahf Bn w ks)
def bD : akj where
 toBen := aku
 new := fun h1 h2 h3 => (aiW h1 h2 h3).mono fun e w' h => by
  obtain ⟨g1, g | g⟩ := h
  ·obtain ⟨g0, p, v, Fs, ps, g2, g3, g4⟩ := g;exact ⟨g1, .inl ⟨g0, p, _, g2, ⟨⟨v, Fs, ps, rfl, g3⟩, ag1 g0⟩, g4⟩⟩
  ·exact ⟨g1, .inr g⟩
set_option linter.unusedSimpArgs false
theorem ym (n : Nat) (w : World) (h : n <= 1000) : Calls prog 114 #[.int .i64 (n : Int)] w fun e w' => e = .returned (.int .i64 (hd n : Nat)) /\ w = w' := by
 go_enter func114, ntmps114;go_wp2
 go_loop [3] (fun i => ∃ k : Nat, i = .int .i64 k /\ 16 * k <= n + 15) (fun i => n + 16 - (intOf i).toNat)
 case atStart => exact ⟨0, rfl, by omega⟩
 case round =>
  obtain ⟨k, rfl, hk⟩ := hrel;by_cases hlt : 16 * k < n
  ·go_wp2
   go_round
   case rel => exact ⟨k + 1, by go_num, by omega⟩
   case measure => simp [intOf]; omega
  ·go_wp2;go_ret;refine ⟨br ?_, rfl⟩;unfold hd;omega
theorem lK (n : Int) (w : World) : Calls prog 62 #[.int .i64 n] w fun e w' => e = .returned (.int .i64 (ez n : Nat)) /\ w = w' := by
 by_cases h1 : n < 1
 ·have HS := af (mN (.inl h1));go_enter func62, ntmps62;go_wp2;go_ret;exact ⟨by rw [HS.out]; rfl, rfl⟩
 ·by_cases h2 : 32 < n
  ·have HS := af (mN (.inr h2));go_enter func62, ntmps62;go_wp2;go_ret;exact ⟨by rw [HS.out]; rfl, rfl⟩
  ·obtain ⟨k, rfl⟩ := Int.eq_ofNat_of_zero_le (show 0 <= n by omega);have hk1 : 1 <= k := by omega
   have hk2 : k <= 32 := by omega
   have HS := af (gM hk1 hk2);have hh : hd k <= 2 := by unfold hd; omega
   clear h1 h2;go_enter func62, ntmps62;go_wp2_with fail;refine (ym k w (by omega)).mono ?_;rintro e w' ⟨rfl, rfl⟩;go_wp2;go_ret;exact ⟨by rw [HS.out]; simp, rfl⟩
theorem wX (n : Nat) (w : World) (h : n <= 1000) : Calls prog 174 #[.int .i64 (n : Int)] w fun e w' => e = .returned (.int .i64 (hd n : Nat)) /\ w = w' := by
 go_enter func174, ntmps174;go_wp2;go_ret;refine ⟨br ?_, rfl⟩;unfold hd;omega
theorem nT (n : Int) (w : World) : Calls prog 141 #[.int .i64 n] w fun e w' => e = .returned (.int .i64 (ez n : Nat)) /\ w = w' := by
 by_cases h1 : n < 1
 ·have HS := af (mN (.inl h1));go_enter func141, ntmps141;go_wp2;go_ret;exact ⟨by rw [HS.out]; rfl, rfl⟩
 ·by_cases h2 : 32 < n
  ·have HS := af (mN (.inr h2));go_enter func141, ntmps141;go_wp2;go_ret;exact ⟨by rw [HS.out]; rfl, rfl⟩
  ·obtain ⟨k, rfl⟩ := Int.eq_ofNat_of_zero_le (show 0 <= n by omega);have hk1 : 1 <= k := by omega
   have hk2 : k <= 32 := by omega
   have HS := af (gM hk1 hk2);have hh : hd k <= 2 := by unfold hd; omega
   clear h1 h2;go_enter func141, ntmps141;go_wp2_with fail;refine (wX k w (by omega)).mono ?_;rintro e w' ⟨rfl, rfl⟩;go_wp2;go_ret;exact ⟨by rw [HS.out]; simp, rfl⟩
theorem ahs (i : Nat) (h : i <= 1000) : IntKind.i64.wrap ((i : Int).tdiv 16) = ((i / 16 : Nat) : Int) := by
 rw [Int.tdiv_eq_ediv_of_nonneg (by omega), IntKind.wrap_i64];omega
theorem aif (i : Nat) : (i : Int).tmod 16 = ((i % 16 : Nat) : Int) := by
 rw [Int.tmod_eq_emod_of_nonneg (by omega)];omega
theorem wrap_small (k : Nat) (h : k <= 1000000) (x : Int) (e : x = (k : Int)) : IntKind.i64.wrap x = (k : Int) := by
 subst e;rw [IntKind.wrap_i64];omega
theorem tC {w w1 w2 : World} {B : Nat} {row : Option Nat} (hb : Below w.heap.size w w1) (hg : w1.grownBy w2 row) : w.grownBy w2 row :=
 ⟨hg.os.trans hb.os, hg.tape.trans hb.tape, hg.output.trans hb.output, ap hb.size hg.size, fun k hk hn => (hg.block k (aq hk hb.size) hn).trans (hb.block k hk)⟩
theorem acQ (b off n c i : Nat) (w : World) (hi : i / 16 < n) (h : i <= 1000) :
  Calls prog 175 #[.slice (some ⟨b, off, none⟩) n c, .int .i64 (i : Int)] w fun e w' => e = .returned (.slice (some ⟨b, off + 4 * i, none⟩) 4 (64 - i % 16 * 4)) /\ w = w' := by
 have HQ := af (ahs i h);have HR := af (aif i);have HM := af (wrap_small (i % 16 * 4) (by omega) (((i % 16 : Nat) : Int) * 4) (by omega));have HA := af (wrap_small (i % 16 * 4 + 4) (by omega) (((i % 16 * 4 : Nat) : Int) + 4) (by omega));have HI := af hi;have HE := af (show off + i / 16 * 64 + i % 16 * 4 = off + 4 * i by omega);have HL := af (show i % 16 * 4 + 4 - i % 16 * 4 = 4 by omega);have H64 := af (show i % 16 * 4 + 4 <= 64 by omega);clear hi;go_enter func175, ntmps175;go_upto_region 1 with fail;refine aY 2 ?_;refine ak1 (uC rfl alb evk (by decide) HQ) ?_;refine ak1 (d6 rfl alb alb HI) ?_;refine ak1 (k8 rfl alb) ?_;refine aQ 1 ?_;go_upto_region 2 with fail;refine aY 1 ?_;refine ak1 (tt rfl alb evk (by decide) HR) ?_;refine ak1 (gW rfl alb evk HM) ?_;refine aQ 1 ?_;go_upto_region 3 with fail;refine aY 3 ?_;refine ak1 (cQ rfl alb evk HA) ?_;refine ak1 (nG (i % 16 * 4) (i % 16 * 4 + 4) rfl alb alb alb (by omega) H64 (by have := H64.out; omega)) ?_;refine aQ 1 ?_;go_wp2_with fail;go_ret;refine ⟨?_, rfl⟩;rw [HE.out, HL.out]
 rfl
theorem agt (A : Option Addr) (n c N : Nat) (b : List UInt8) (w : World) (hb : Rd w N A n b) (h1 : 1 <= n) (h2 : n <= 2) :
  Calls prog 180 #[.slice A n c] w fun e w' => e = .returned (.int .i64 (val 8 b : Nat)) /\ w = w' := by
 have HL := af hb.1;have hv : val 8 b < 65536 := by
  have h3 := acn (mw b);have h4 : 2 ^ (8 * b.length) <= 2 ^ (8 * 2) := Nat.pow_le_pow_right (by omega) (by have := hb.1; omega);omega
 have HV := af hv;have HP : Hid (piece b 0 n = b) := af (by
  unfold piece;rw [List.drop_zero, List.take_of_length_le (by have := hb.1; omega)])
 clear hv;go_enter func180, ntmps180;go_wp2_with fail;refine (jX A n c N b 0 n w hb (by unfold maxLen; omega) h1 (by omega) (by omega)).mono ?_;rintro e w1 ⟨rfl, rfl⟩;rw [HP.out];have hv := HV.out;clear HV hb HL HP;generalize hvv : val 8 b = v at *;have HVV := af hvv;clear hvv;go_wp2;go_ret;exact ⟨by rw [HVV.out]; rfl, rfl⟩
theorem akf (g off k c : Nat) (t : TypeId) (L : List UInt8) (n : Nat) (w : World) (hr : ci w g t L) (h1 : 1 <= k) (h2 : k <= 2) (hn : n < 256 ^ k) (hf : off + k <= L.length) :
  Calls prog 176 #[.slice (some ⟨g, off, none⟩) k c, .int .i64 (n : Int)] w fun e w' => e = .returned (.tuple #[]) /\ ci w' g t (splice L off (bw 8 k n)) /\ w.grownBy w' (some g) := by
 have HR := af hr;have HL := af (aL 8 k n);have HF := af hf;have hn2 : n < 65536 := by
  have h4 : 256 ^ k <= 256 ^ 2 := Nat.pow_le_pow_right (by omega) h2;omega
 have HN := af hn;clear hr hf hn;go_enter func176, ntmps176;go_wp2_with fail;refine (j3 n k w h1 (by omega) HN).mono ?_;rintro e w1 ⟨v, rfl, hv, hb⟩;have hvm := hv.made;obtain ⟨A, cc, rfl, hrd, _, _⟩ := hvm.open_ HL;have HRD := af hrd;have HR1 := af (HR.out.below HR.out.lt hb);have HB := af hb;clear hv hvm hrd hb HR HN;go_wp2_with (first | (refine du rfl _ _ rfl g off k c k cc _ A t L (bw 8 k n) rfl rfl HR1 HRD aj ?_ ?_) | fail)
 ·exact HF
 intro w2 hr2 hg2;have HR2 := af hr2;have HG2 := af (tC (B := 0) HB hg2);clear hr2 hg2;go_wp2_with fail
 go_end0
 exact ⟨rfl, HR2, HG2⟩
section
variable {ρ : Operand -> Value} {o : Oper} {x y : Operand} {w : World} {c d : Blk} {t : TypeId}
theorem ry (b : Bool) (ho : o.op = .binOp .neq 64 x y t) (hx : ρ x = blk c) (hy : ρ y = blk d) (h : (!decide (c = d)) = b) : (execOp ρ o).run prog w = .ok (.value (.bool b)) w := by
 rw [uY ho hx hy, h]
end
theorem kA {id : Nat} {Q : Exit -> Act -> World -> Prop} {a : Act} {w : World} {l : List Oper} (hB : Region.lexB .any l.toArray = true) (h : wpStill prog l.toArray w.drew (fun a' => Q .normal a' w.drew) l a) :
  (Code.region id l.toArray true).wp prog Q a w := wp_region_still_lit (by kernel_rfl) hB h
theorem acT {a b : List Blk} (hl : a.length = b.length) (h : ∀ k, k < a.length -> a.getD k aE = b.getD k aE) : a = b := by
 apply List.ext_getElem hl;intro k h1 h2;have := h k h1;rw [List.getD, List.getD, List.getElem?_eq_getElem h1, List.getElem?_eq_getElem h2] at this
 simpa using this
def zer (n : Nat) : List UInt8 := List.replicate n 0
theorem gG (n : Nat) : (zer n).length = n := by simp [zer]
theorem j2 (a b : Nat) : zer (a + b) = zer a ++ zer b := by simp [zer]
theorem aep : zer 1 = [0] := rfl
theorem ni {a z c x : List UInt8} {p : Nat} (hp : a.length = p) (hz : z.length = x.length) : splice (a ++ (z ++ c)) p x = a ++ (x ++ c) := by
 subst hp;unfold splice;rw [List.take_left' rfl, <- List.drop_drop, List.drop_left' rfl, List.drop_left' hz]
def lyL (l : List Cl) (k : Nat) : List UInt8 := eX (l.take k) ++ (zer (64 * hd l.length - 4 * k) ++ (cj (iI (l.take k)) ++ zer (64 * l.length - 64 * k)))
def lyA (l : List Cl) (k : Nat) (s : Nat) : List UInt8 := splice (lyL l k) (4 * k) (bw 8 2 s)
def lyB (l : List Cl) (k : Nat) (s m : Nat) : List UInt8 := splice (lyA l k s) (4 * k + 2) (bw 8 1 m)
theorem adz (l : List Cl) : lyL l 0 = zer (64 * (hd l.length + l.length)) := by
 unfold lyL;rw [List.take_zero, Nat.mul_add, j2]
 rfl
theorem afb (l : List Cl) : lyL l l.length = cj (dC l) := by
 unfold lyL;rw [z8, List.take_length, Nat.sub_self, show zer 0 = [] from rfl, List.append_nil, List.append_assoc]
 rfl
section
variable {l : List Cl} {k s m : Nat} {b : Blk} (hk : k < l.length)
include hk
theorem aa3 : lyL l k = eX (l.take k) ++ (zer 2 ++ (zer 1 ++ (zer 1 ++ (zer (64 * hd l.length - 4 * (k + 1)) ++ (cj (iI (l.take k)) ++ (zer 64 ++ zer (64 * l.length - 64 * (k + 1)))))))) := by
 have hle := ol l.length;have e1 : zer (64 * hd l.length - 4 * k) = zer 2 ++ (zer 1 ++ (zer 1 ++ zer (64 * hd l.length - 4 * (k + 1)))) := by
  rw [<- j2, <- j2, <- j2]
  congr 1
  omega
 have e2 : zer (64 * l.length - 64 * k) = zer 64 ++ zer (64 * l.length - 64 * (k + 1)) := by
  rw [<- j2]
  congr 1
  omega
 unfold lyL;rw [e1, e2];simp only [List.append_assoc]
theorem mx : (eX (l.take k)).length = 4 * k := by rw [fa, List.length_take, Nat.min_eq_left (by omega)]
theorem z4 : lyA l k s = (eX (l.take k) ++ bw 8 2 s) ++ (zer 1 ++ (zer 1 ++ (zer (64 * hd l.length - 4 * (k + 1)) ++ (cj (iI (l.take k)) ++ (zer 64 ++ zer (64 * l.length - 64 * (k + 1))))))) := by
 unfold lyA;rw [aa3 hk, ni (mx hk) (by rw [gG, aL]), List.append_assoc]
theorem z6 : lyB l k s m = (eX (l.take k) ++ (bw 8 2 s ++ (bw 8 1 m ++ (zer 1 ++ (zer (64 * hd l.length - 4 * (k + 1)) ++ cj (iI (l.take k))))))) ++ (zer 64 ++ zer (64 * l.length - 64 * (k + 1))) := by
 unfold lyB;rw [z4 hk, ni (by rw [List.length_append, mx hk, aL]) (by rw [gG, aL])];simp only [List.append_assoc]
theorem ab3 (hx : l.getD k cO = ⟨(s : Int), (m : Int), b⟩) : splice (lyB l k s m) (64 * (hd l.length + k)) b.toList = lyL l (k + 1) := by
 have hle := ol l.length;have hlb : (cj (iI (l.take k))).length = 64 * k := by rw [dh, ef, List.length_take, Nat.min_eq_left (by omega)]
 rw [z6 hk, ni (by simp only [List.length_append, mx hk, aL, gG, hlb]; omega) (by rw [gG, bR])];have hx2 : l[k] = ⟨(s : Int), (m : Int), b⟩ := by simpa [List.getD, hk] using hx
 have et : l.take (k + 1) = l.take k ++ [⟨(s : Int), (m : Int), b⟩] := by rw [List.take_succ_eq_append_getElem hk, hx2]
 unfold lyL;rw [et, nR, show iI (l.take k ++ [⟨(s : Int), (m : Int), b⟩]) = iI (l.take k) ++ [b] from by simp [iI], fS, show cj [b] = b.toList from by simp [cj]];rw [show eX [⟨(s : Int), (m : Int), b⟩] = bw 8 2 s ++ (bw 8 1 m ++ zer 1) from by simp [eX, pl4, aep]];simp only [List.append_assoc]
theorem l5 : (lyL l k).length = 64 * (hd l.length + l.length) := by
 have hle := ol l.length;unfold lyL;simp only [List.length_append, mx hk, gG, dh, ef, List.length_take];rw [Nat.min_eq_left (by omega)];omega
theorem lZ : (lyA l k s).length = 64 * (hd l.length + l.length) := by
 have hle := ol l.length;unfold lyA;rw [length_splice _ _ _ (by rw [l5 hk, aL]; omega), l5 hk]
theorem xU : (lyB l k s m).length = 64 * (hd l.length + l.length) := by
 have hle := ol l.length;unfold lyB;rw [length_splice _ _ _ (by rw [lZ hk, aL]; omega), lZ hk]
end
theorem rB (l : List Blk) : vals (cj l) = flat l := aak l
theorem zA (n : Nat) : cj (List.replicate n aE) = zer (64 * n) := by
 induction n with
 |zero => rfl
 |succ n ih =>
  rw [List.replicate_succ, iG, ih, show aE.toList = zer 64 from by decide, <- j2]
  congr 1
  omega
theorem zz (w : World) (n : Nat) : ci (w.alloc (.cells (madeCells (cel aE).toArray (n * 64)) 64)) w.heap.size 64 (zer (64 * n)) := by
 have h := oh w n;unfold dp at h;unfold ci;rw [h, <- zA, rB]
theorem ci.holds {w : World} {g : Nat} {l : List Blk} (h : ci w g 64 (cj l)) : dp w g l := by
 unfold dp;unfold ci at h;rw [h, rB]
theorem dp.made {w : World} {g B : Nat} {l : List Blk} (h : dp w g l) (hB : B <= g) (hm : l.length <= maxLen) : cX w B (.slice (some ⟨g, 0, none⟩) l.length l.length) l := by
 refine ⟨eC l, .inr ⟨g, l.length, _, rfl, hB, h, aj, hm, by rw [List.size_toArray, eC], ?_⟩⟩;exact List.take_of_length_le (by rw [eC]; exact aj)
section
variable {ρ : Operand -> Value} {o : Oper} {x y : Operand} {w : World} {n m : Nat}
theorem xR (ho : o.op = .makeSlice 120 x y) (hx : ρ x = .int .i64 (n : Int)) (hy : ρ y = .int .i64 (m : Int)) (hn : n <= m) (hm : m <= 4398046511104) :
  (execOp ρ o).run prog w = .ok (.value (.slice (some ⟨w.heap.size, 0, none⟩) n m)) (w.alloc (.cells (madeCells (cel aE).toArray (m * 64)) 64)) := by
 obtain ⟨i0, hi, hz0, hz1, hz2⟩ := info_parts qT;have hr := run_make (P := prog) w 120 64 i0 (blk aE) ki hi hz0 .i64 .i64 n m (by omega) (by omega) (by rw [hz2]; omega) (by omega);rw [hz1, fm] at hr;simp only [Int.toNat_natCast] at hr;unfold execOp;simp only [ho, hx, hy, Sem.run_bind, hr, Result.andThen_ok, Sem.run_pure]
end
section
variable {ρ : Operand -> Value} {o : Oper} {x : Operand} {w : World} {t e : TypeId} {A : Option Addr} {n c : Nat}
theorem cI (hu : prog.underlying t = some (.slice e)) (ho : o.op = .call { callee := .builtin .len, args := #[x], argTypes := #[t] }) (hx : ρ x = .slice A n c) : (execOp ρ o).run prog w = .ok (.value (.int .i64 (n : Int))) w := by
 simp [execOp, ho, resolve, invoke, builtin, hx, Builtin.len_, run_underlying hu, Result.andThen]
 rfl
theorem iE (ho : o.op = .call { callee := .builtin .len, args := #[x], argTypes := #[34] }) (hx : ρ x = .slice A n c) : (execOp ρ o).run prog w = .ok (.value (.int .i64 (n : Int))) w := cI underlying34 ho hx
theorem fh (ho : o.op = .call { callee := .builtin .len, args := #[x], argTypes := #[120] }) (hx : ρ x = .slice A n c) : (execOp ρ o).run prog w = .ok (.value (.int .i64 (n : Int))) w := cI underlying120 ho hx
theorem la (ho : o.op = .call { callee := .builtin .len, args := #[x], argTypes := #[143] }) (hx : ρ x = .slice A n c) : (execOp ρ o).run prog w = .ok (.value (.int .i64 (n : Int))) w := cI underlying143 ho hx
end
theorem iB {ρ : Operand -> Value} {o : Oper} {x : Operand} {w : World} {b : Blk} (ho : o.op = .buildSlice 120 1 #[(0, x)]) (hx : ρ x = blk b) :
  (execOp ρ o).run prog w = .ok (.value (.slice (some ⟨w.heap.size, 0, none⟩) 1 1)) (w.alloc (.cells (cel b).toArray 64)) := by
 have h := vh (ρ := ρ) (o := o) (w := w) (n := 1) (parts := [(0, x)]) [b] ho (by simp [hx]) rfl (by omega) (by omega);rw [h];simp [flat]
theorem ud {w : World} {ops : Array Oper} {rest : List Oper} {o : Oper} {a : Act} {Q : Exit -> Act -> World -> Prop} (hgd : o.guard = none) (s x : Operand)
  (ho : o.op = .call { callee := .builtin .append, args := #[s, x], argTypes := #[120, 120] })
  (g n c q : Nat) (L : List UInt8) (b : Blk) (hs : a.eval s = .slice (some ⟨g, 0, none⟩) n c) (hx : a.eval x = .slice (some ⟨q, 0, none⟩) 1 1) (hr : ci w g 64 L) (hq : w.rangeAt q 0 (cel b)) (hn : n + 1 <= c) (hf : 64 * (n + 1) <= L.length)
  (h : ∀ w', ci w' g 64 (splice L (64 * n) b.toList) -> w.grownBy w' (some g) -> wpList prog ops Q rest (a.put o.dst (.slice (some ⟨g, 0, none⟩) (n + 1) c)) w') : wpList prog ops Q (o :: rest) a w := by
 obtain ⟨i0, hi, hz0, hz1, hz2⟩ := info_parts qT;refine wpList_plain hgd fun K hK => ?_
 have hrun := run_append_room (P := prog) w 120 o.type 64 i0 ki hi g n c (vals L).toArray hr ⟨q, 0, none⟩ 1 1 (cel b) (by rw [aG, hz1]) (fun j u hu => by
  rw [Addr.add_mid];exact hq j u hu) (je b) hn (by rw [hz1, aG, List.size_toArray, bZ]; omega)
 have e : (vals L).toArray.toList.take (n * i0.size) ++ cel b ++ (vals L).toArray.toList.drop (n * i0.size + (cel b).length) = vals (splice L (64 * n) b.toList) := by
  rw [<- nY, hz1, Nat.mul_comm n 64, aG];unfold splice;rw [bZ, bR, List.append_assoc]
  rfl
 rw [e] at hrun;have hrow := setRow_heap w g (vals L).toArray (vals (splice L (64 * n) b.toList)).toArray 64 (0, 0) hr;unfold Oper.wp;simp [execOp, ho, resolve, invoke, builtin, hs, hx, hrun, Result.andThen];exact hK _ _ (h _ hrow ⟨rfl, rfl, rfl, by simp [World.setRow], fun k hk hne => setRow_other w g k _ (fun e => hne (by rw [e]))⟩)
structure ij (B : Nat) (w0 w : World) (g q : Nat) (x : Cl) (L : List UInt8) : Prop where
 row : ci w g 64 L
 cl : w.heap[q]? = some (.cells (dq x).toArray 72 (0, 0))
 bel : Below B w0 w
 g0 : B <= g
 ne : q ≠ g
section
variable {B : Nat} {w0 w w' : World} {g q : Nat} {x : Cl} {L L' : List UInt8}
theorem ij.grow (h : ij B w0 w g q x L) (hB : B <= w0.heap.size) (hr : ci w' g 64 L') (hg : w.grownBy w' (some g)) : ij B w0 w' g q x L' :=
 ⟨hr, gy h.cl hg h.ne, h.bel.grown hg (ap hB h.bel.size) (fun k hk => by injection hk with e; have := h.g0; omega), h.g0, h.ne⟩
theorem ij.draw (h : ij B w0 w g q x L) : ij B w0 w.drew g q x L := ⟨h.row, h.cl, bd h.bel, h.g0, h.ne⟩
theorem ij.past (h : ij B w0 w g q x L) (hB : B <= w0.heap.size) (o : Obj) : ij B w0 (w.alloc o) g q x L := ⟨h.row.past o, cE h.cl o, h.bel.alloc (ap hB h.bel.size) o, h.g0, h.ne⟩
theorem ij.rng (h : ij B w0 w g q x L) : w.rangeAt q 0 (dq x) := dW h.cl
theorem ij.cells (h : ij B w0 w g q x L) : w.cell? ⟨q, 0, none⟩ = some (.int .i64 x.s) /\ w.cell? ⟨q, 1, none⟩ = some (.int .i64 x.m) /\ w.rangeAt q 2 (cel x.b) := by
 have h1 := eg (gU h.rng);have h2 := adV h.rng;exact ⟨h1.1, h1.2, h2⟩
end
section
variable {P : Program} {ops : Array Oper} {C : World -> Prop} {Q : Act -> Prop} {a : Act} {o : Oper} {rest l : List Oper} {v : Value}
theorem oe : ∀ (rs : List Oper) (a : Act), unw ops rs a = true -> wpQuiet P ops C Q rest (aP rs a) -> wpQuiet P ops C Q (rs ++ rest) a
 |[], _, _, h => h
 |r :: rs, a, hu, h => by
  simp only [unw, Bool.and_eq_true, Bool.not_eq_true'] at hu;exact aey hu.1 (oe rs _ hu.2 h)
theorem dr (n : Nat) (hw : Region.wanted o (yielded ops a.tmps) = true) (h : ∀ w, C w -> (execOp a.eval o).run P w = .ok (.value v) w) (hu : unw ops (l.take n) (a.put o.dst v) = true) (hr : wpQuiet P ops C Q (l.drop n) (aP (l.take n) (a.put o.dst v))) : wpQuiet P ops C Q (o :: l) a :=
 aF hw h (by have := oe (P := P) (C := C) (Q := Q) (l.take n) _ hu hr; rwa [List.take_append_drop] at this)
end
end Go.Proofs.YtcpbekopbeaflaaGreatDoor
