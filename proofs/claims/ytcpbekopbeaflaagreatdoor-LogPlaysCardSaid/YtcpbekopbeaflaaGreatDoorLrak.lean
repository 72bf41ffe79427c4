import Derived.Test.YtcpbekopbeaflaaGreatDoorLraj
import Derived.Test.YtcpbekopbeaflaaGreatDoorLrag
namespace Go.Proofs.YtcpbekopbeaflaaGreatDoor
set_option maxHeartbeats 8000000
open Go.Proofs.Tryz
open Go.RowKit Go.Shelf
set_option linter.unusedVariables false
attribute [local go_sem] Oper.semAt_some
theorem xh {L : List (Int × Blk)} {n : Int} {b : Blk} (h : ∀ q ∈ L, q.1 ≠ n) : kP L n b = b := by
 unfold kP
 induction L generalizing b with
 |nil => rfl
 |cons q L ih =>
  rw [List.foldl_cons, if_neg (h q (by simp)), ih fun q hq => h q (by simp [hq])]
theorem abH {L : List (Int × Blk)} {n : Int} {b : Blk} {i : Nat} (hi : i < L.length) (h : (L.getD i (0, aE)).1 = n) (hb : ∀ j, i < j -> j < L.length -> (L.getD j (0, aE)).1 ≠ n) : kP L n b = (L.getD i (0, aE)).2 := by
 have key : ∀ m, i + 1 + m <= L.length -> kP (L.take (i + 1 + m)) n b = (L.getD i (0, aE)).2 := by
  intro m
  induction m with
  |zero => intro _; rw [Nat.add_zero, lO n b hi, if_pos h]
  |succ m ih =>
   intro hm;rw [<- Nat.add_assoc, lO n b (by omega), if_neg (hb _ (by omega) (by omega))];exact ih (by omega)
 have := key (L.length - (i + 1)) (by omega);rwa [show i + 1 + (L.length - (i + 1)) = L.length from by omega, List.take_length] at this
def NoK (k : Int) (pre : List (Nat × (Int × Blk))) : Prop := ∀ x ∈ pre, x.2.1 ≠ k
def akm (s : Nat) (k : Int) (pre : List (Nat × (Int × Blk))) (W : World) : Prop := ∃ ini last, pre = ini ++ [last] /\ NoK k ini /\ last.2.1 = k /\ W.rangeAt (s + 1) 0 (cel last.2.2) /\ W.cell? ⟨s + 1 + 1, 0, none⟩ = some (.int .i64 0)
theorem af1 {w : World} {b : Nat} {q : Int × Blk} {t : TypeId} (h : w.heap[b]? = some (.cells (eP q).toArray t (0, 0))) : w.cell? ⟨b, 0, none⟩ = some (.int .i64 q.1) /\ w.rangeAt b 1 (cel q.2) := by
 have hr : w.rangeAt b 0 (eP q) := fun j v hj => by
  rw [cell_of_row _ _ (0 + j) (eP q).toArray t (0, 0) h]
  simpa using hj
 refine ⟨hr 0 _ rfl, fun j v hj => ?_⟩;have := hr (j + 1) v hj;rwa [show 0 + (j + 1) = 1 + j from by omega] at this
theorem iV (b : Nat) : ∀ (vs : List Value) (o : Nat) (w : World), KeepsOthers w (w.setCells b o vs)
 |[], _, w => KeepsOthers.refl w
 |v :: r, o, w => (KeepsOthers.setCell w ⟨b, o, none⟩ v).trans (iV b r (o + 1) _)
set_option maxRecDepth 100000 in
theorem aan (p k : Nat) (vS vL : Value) (S : List Blk) (L : List (Int × Blk)) (w : World) (h : PD w p vS vL S L false) (hk : k < S.length) (hLl : L.length <= 1000000) :
  Calls prog 155 #[.pointer (some ⟨p, 0, none⟩), .int .i64 k] w fun e w' => e = .returned (.tuple #[blk (gl S L false k), .int .i64 0]) /\ Below w.heap.size w w' := by
 obtain ⟨gS, cS, rfl⟩ := h.alive.slice rfl (by omega);obtain ⟨hA, k0, k1, k2, hsz⟩ := qU w (k : Int);have h1 := h.below hA;have HA := af hA;have HE := af (lz (S := S) (n := (k : Int)) (by omega));have HK0 := af k0;have HK1 := af k1;have HK2 := af k2;obtain ⟨c0, f0⟩ := one_cell k0;obtain ⟨AL, cL, rfl, hl1, hl2⟩ := h1.L_.form;obtain ⟨d0, d1, d2, d3⟩ := dQ h1.at_;clear hA k0 k1 k2;refine (callsIn_wide (n := 3)).1 ?_;refine callsIn_of_wp_marks func155 rfl trivial ?_ rfl;refine wpIn_wide.2 ?_;simp only [ntmps155, List.size_toArray, List.length_cons, List.length_nil, Nat.reduceAdd, Nat.reduceSub, Array.replicate_succ, Array.replicate_zero, List.push_toArray, List.append_toArray, List.nil_append, List.cons_append];unfold rd3 at *;go_wp2_with (first | (refine ax rfl (aV rfl) ?_) | fail);generalize ((w.alloc (.cells #[.int .i64 (k : Int)] 3)).alloc (.cells (cel aE).toArray 64)).alloc (.cells #[.int .i64 0] 41) = w3 at *;refine (gr p _ _ S L false k w3 h1).mono ?_;rintro e w4 ⟨rfl, rfl⟩;rw [HE.out];go_wp2_with fail;refine (callsIn_wide.1 (uG Fence.wide 3 trivial rfl AL L.length cL w3)).mono ?_;rintro e w4 ⟨rfl, rfl⟩;go_wp2_with fail;have hB0 := HA.out.alloc HA.out.size (.cells #[.slice AL L.length cL] 136);have hbox := ox w3 #[.slice AL L.length cL] 136;have h2 := h1.below ((Below.refl _ w3).alloc aj (.cells #[.slice AL L.length cL] 136));have k0 := cE HK0 (.cells #[.slice AL L.length cL] 136);have k1 := cE HK1 (.cells #[.slice AL L.length cL] 136);have k2 := cE HK2 (.cells #[.slice AL L.length cL] 136);have hsz0 := World.size_alloc w3 (.cells #[.slice AL L.length cL] 136);rw [hsz] at hbox hsz0;generalize w3.alloc (.cells #[.slice AL L.length cL] 136) = W0 at *;clear c0 f0 d0 d1 d2 d3 h1 HA HK0 HK1 HK2 hsz;have HK0 := af k0;have HK1 := af k1;have HK2 := af k2;have HH2 := af h2;have HB0 := af hB0;have hpw : p < w.heap.size := h.lt p (.inl rfl);have HH := af h;refine (wpIn_wide (n := 3)).1 ?_;refine wpIn_rangeFunc_ownH rfl (by omega) (gf := 194) (lb := #[.pointer (some ⟨w.heap.size + 1 + 1 + 1, 0, none⟩)]) rfl trivial (enters_of func194 (by kernel_rfl) rfl)
  (xe Fence.wide 2 trivial rfl (by omega) (w.heap.size + 1 + 1 + 1) AL cL L hLl W0 (by omega) (one_cell hbox).1 h2.L_.rd) belowK_t (belowK_b aj) ak (fun _ => rfl)
  (fun pre W => NoK (k : Int) pre /\ Below W0.heap.size W0 W)
  (fun c pre W => (c = .ret /\ akm w.heap.size (k : Int) pre W) /\ Below w.heap.size w W)
  (OwnFrom.and (ownFrom_pure _ _) (ownFrom_below aj aj))
  (fun c => OwnFrom.and (Own.from (fun s A B row hs hg hr => by obtain ⟨hc, ini, last, e1, e2, e3, e4, e5⟩ := hs; exact ⟨hc, ini, last, e1, e2, e3, fun j v hj => cell_kept (e4 j v hj) hg hr, cell_kept e5 hg hr⟩) _) (ownFrom_below aj (by omega)))
  ⟨fun x hx => absurd hx (by simp), ak⟩
  (fun x a' W => ∃ Bx, W0.heap.size <= Bx /\ W.heap[Bx]? = some (.cells (eP x.2).toArray LwE.t) /\ a' = { tmps := #[.pointer (some ⟨p, 0, none⟩), .int .i64 (k : Int), undef, .pointer (some ⟨w.heap.size, 0, none⟩), .pointer (some ⟨w.heap.size + 1, 0, none⟩), .pointer (some ⟨w.heap.size + 1 + 1, 0, none⟩), .int .i64 0, undef, .pointer (some ⟨Bx, 0, none⟩), .pointer (some ⟨p, 0, none⟩), .int .i64 (k : Int), .int .i64 0, .int .i64 0, .bool false, undef, undef, .pointer (some ⟨p, 0, none⟩), .pointer (some ⟨p, 0, none⟩), .pointer (some ⟨p, 2, none⟩), .slice AL L.length cL, .func (.func 194) #[] #[.pointer (some ⟨w.heap.size + 1 + 1 + 1, 0, none⟩)], .int .i64 (x.1 : Int), .agg (eP x.2).toArray, undef, undef, undef, undef, undef, undef, undef, undef, undef, undef, undef, undef, undef], defers := [] })
  (fun x a' _ X Y row hs hg hr => by
   obtain ⟨Bx, e1, e2, e3⟩ := hs;exact ⟨Bx, e1, (hg.block Bx (aR e2) (fun e => by obtain ⟨_, o, ho, hc⟩ := hr Bx e.symm; rw [e2] at ho; cases ho; cases hc)).trans e2, e3⟩)
  ?assign ?body ?done ?stop
 case assign =>
  rintro l pre x W K ⟨hne, hb⟩ hK;simp only [aeN, List.zip_toArray, List.zip_cons_cons, List.zip_nil_right, List.foldl_toArray, List.foldl_cons, List.foldl_nil, List.setIfInBounds_toArray, List.set_cons_succ, List.set_cons_zero];refine wpIn_region_lit ?_;refine ej rfl rfl rfl (kN rfl) ?_;refine mC rfl rfl rfl (mc (a := x.2) rfl rfl rfl) ?_;refine wpListIn_nil ?_;exact hK _ _ ((KeepsOthers.alloc _ _).from _) ((Below.refl _ W).alloc hb.size _) ⟨hne, hb.alloc hb.size _⟩ ⟨W.heap.size, hb.size, heap_alloc_new W _, rfl⟩
 case body =>
  rintro l pre x a' W hl _ ⟨hne, hb⟩ ⟨Bx, hBx, hbx, rfl⟩ hlt;obtain ⟨i, q1, qb⟩ := x;have hn : W.cell? ⟨w.heap.size, 0, none⟩ = some (.int .i64 (k : Int)) := (one_cell (cC HK0 hb)).1;have hk1 := cC HK1 hb;have hk2 := cC HK2 hb;obtain ⟨hx1, hx2⟩ := af1 hbx;have HX2 := af hx2;have HT := af (jy hk1);have hO : Only (fun b => b = w.heap.size + 1) W (W.setCells (w.heap.size + 1) 0 (cel qb)) := (Only.refl (fun b => b = w.heap.size + 1) W).setCells (.inl rfl) _ _;have hk2' := hO.keep hk2 (by omega);obtain ⟨c2, f2⟩ := one_cell hk2';have HB := af hb;have HNE := af hne;have HK2' := af hk2';clear hb hne hbx hx2 hk1 hk2 hO hk2';by_cases hq : q1 = (k : Int)
  ·subst hq
   gi_wp2_with (first | (refine ej rfl rfl rfl (av rfl rfl afR) ?_) | (refine ej rfl rfl rfl (av rfl rfl ae9) ?_) | (refine ej rfl rfl rfl (aU rfl rfl HX2.out) ?_) | (refine mC rfl rfl rfl (aX rfl rfl rfl ?ht) ?_; (case ht => exact HT.out)) | fail)
   have hr1 : (W.setCells (w.heap.size + 1) 0 (cel qb)).rangeAt (w.heap.size + 1) 0 (cel qb) := World.rangeAt_setCells_same _ _ _ _ (by rw [aG]; exact HT);have hr2 := kH (b' := w.heap.size + 1 + 1) (i := 0) hr1 (by omega);have hbw := HB0.out.trans (HB.out.mono (by omega));have hb2 := below_setCells hbw (show w.heap.size <= w.heap.size + 1 by omega) (o := 0) (cel qb);exact ⟨((iV _ _ _ _).trans (KeepsOthers.setCell _ _ _)).from _, ⟨rfl, pre, (i, (k : Int), qb), rfl, HNE, rfl, hr2 _, World.cell?_setCell_same' _ _ _ (by rw [c2]; rfl)⟩, hb2.setCell (p := ⟨w.heap.size + 1 + 1, 0, none⟩) (by show _ <= w.heap.size + 1 + 1; omega) _⟩
  ·have hq' : (q1 == (k : Int)) = false := by simpa using hq
   gi_wp2_with (first | (refine ej rfl rfl rfl (av rfl rfl afR) ?_) | (refine ej rfl rfl rfl (av rfl rfl ae9) ?_) | fail)
   exact ⟨KeepsFrom.refl _ _, ak, fun y hy => (List.mem_append.1 hy).elim (HNE.out y) (fun e => by simp at e; subst e; exact hq), by have := HB.out; rwa [hsz0] at this⟩
 case done =>
  rintro D ys W hD rfl ⟨hne, hb⟩ hK;have hrd : gl S L false (k : Int) = S.getD k aE := by
   rw [p8 HE.out];refine xh fun q hq => ?_
   obtain ⟨j, hj, rfl⟩ := List.getElem_of_mem hq;have := hne _ (yr L L.length j (by omega) hj)
   simpa [List.getD, List.getElem?_eq_getElem hj] using this
  have h3 := HH2.out.below hb;obtain ⟨c0, c1, c2, c3⟩ := dQ h3.at_;have hn : W.cell? ⟨w.heap.size, 0, none⟩ = some (.int .i64 (k : Int)) := (one_cell (cC HK0 hb)).1;obtain ⟨b, off, hbe, _, hr⟩ := h3.alive.rd.blk hk;injection hbe with hbe;injection hbe with hb1 hb2;subst hb1 hb2;rw [Nat.zero_add] at hr;have HRD0 := hrd;generalize S.getD k aE = x at *;have HRD := af HRD0;clear HRD0;have hk1 := cC HK1 hb;have hk2 := cC HK2 hb;have HT := af (jy hk1);have hO : Only (fun b => b = w.heap.size + 1) W (W.setCells (w.heap.size + 1) 0 (cel x)) := (Only.refl (fun b => b = w.heap.size + 1) W).setCells (.inl rfl) _ _;have hk2' := hO.keep hk2 (by omega);have HK2W := af hk2;have HA := af c1;have HN := af hn;have HR := af hr;have HB := af hb;have HKD := af hK;clear hrd h3 c0 c1 c2 c3 hn hr hk1 hk2 hO hk2' hne hb hK;go_wp2_with fail;refine wp_region_still_tail 7 (by kernel_rfl) (by kernel_rfl) ?_;simp only [ae];refine aJ rfl (aB rfl alb) ?_;simp only [aa];refine aJ rfl (aM rfl alb) ?_;simp only [aa];refine aJ rfl (av rfl alb aeQ) ?_;simp only [aa];refine aJ rfl (aA rfl alb (ldB HA)) ?_;simp only [aa];refine aJ rfl (aA rfl alb (ldI HN)) ?_;simp only [aa];refine aJ rfl (iC rfl alb alb hk) ?_;simp only [aa];refine aJ rfl (aU rfl alb HR) ?_;simp only [aa];refine wpStill_nil ?_;change wpList _ _ _ _ _ W.drew;have HTd : W.drew.there (w.heap.size + 1) 0 64 := HT.out;have HTd' := af HTd;have hk2d : (W.drew.setCells (w.heap.size + 1) 0 (cel x)).heap[w.heap.size + 1 + 1]? = some (.cells #[.int .i64 0] 41) := (fi _ _ _ W.drew _ (by omega)).trans HK2W;obtain ⟨c2, f2⟩ := one_cell hk2d;have HKd := ((iV (w.heap.size + 1) (cel x) 0 W.drew).trans (KeepsOthers.setCell _ ⟨w.heap.size + 1 + 1, 0, none⟩ (.int .i64 0))).same D _ HKD rfl;have HKH := af HKd;have hr1 : (W.drew.setCells (w.heap.size + 1) 0 (cel x)).rangeAt (w.heap.size + 1) 0 (cel x) := World.rangeAt_setCells_same _ _ _ _ (by rw [aG]; exact HTd);have HR2 := af (kH (b' := w.heap.size + 1 + 1) (i := 0) hr1 (by omega) (.int .i64 0));have HE2 := af (World.cell?_setCell_same' (W.drew.setCells (w.heap.size + 1) 0 (cel x)) ⟨w.heap.size + 1 + 1, 0, none⟩ (.int .i64 0) (by rw [c2]; rfl));have hbw := bd (HB0.out.trans (HB.out.mono (by omega)));have HB2 := af ((below_setCells hbw (show w.heap.size <= w.heap.size + 1 by omega) (o := 0) (cel x)).setCell (p := ⟨w.heap.size + 1 + 1, 0, none⟩) (by show _ <= w.heap.size + 1 + 1; omega) (.int .i64 0));clear hk2d HKd hr1 hbw HTd;go_wp2_with (first | (refine aW rfl (aX rfl rfl rfl ?ht) ?_; (case ht => exact HTd'.out)) | fail);refine ⟨by simp, .inl ⟨_, _, rfl, run_takeDeferred HKH, ?_⟩⟩;refine ⟨.tuple #[blk x, .int .i64 0], p3 rfl _ _ _ _ rfl rfl (fun j v hj => cell_kept (HR2.out j v hj) (grownBy_putObj' _ D (.deferred none)) (fun r e => by cases e; exact ⟨_, HKH, rfl⟩)) (cell_kept HE2 (grownBy_putObj' _ D (.deferred none)) (fun r e => by cases e; exact ⟨_, HKH, rfl⟩)), by rw [HRD.out], HB2.out.trans (belowK_b (w := w) aj _ D _ _ (by omega) HKH rfl rfl)⟩
 case stop =>
  rintro D c pre W hD ⟨d, hd, rfl⟩ ⟨⟨rfl, ini, last, e1, e2, e3, e4, e5⟩, hb⟩ hK;have hrd : gl S L false (k : Int) = last.2.2 := by
   rw [p8 HE.out];cases d with
   |zero => simp [cmd] at e1
   |succ d =>
    rw [cmd] at e1;obtain ⟨e6, e7⟩ := List.append_inj' e1 rfl;subst e6;have e8 : (L.length - 1 - d, L.getD (L.length - 1 - d) (0, aE)) = last := by simpa using e7
    subst e8;refine abH (i := L.length - 1 - d) (by omega) e3 fun j h1 h2 => ?_
    exact e2 _ (yr L d j (by omega) h2)
  gi_wp2
  refine ⟨by simp, .inl ⟨_, _, rfl, run_takeDeferred hK, ?_⟩⟩;refine ⟨.tuple #[blk last.2.2, .int .i64 0], p3 rfl _ _ _ _ rfl rfl (fun j v hj => cell_kept (e4 j v hj) (grownBy_putObj' _ D (.deferred none)) (fun r e => by cases e; exact ⟨_, hK, rfl⟩)) (cell_kept e5 (grownBy_putObj' _ D (.deferred none)) (fun r e => by cases e; exact ⟨_, hK, rfl⟩)), by rw [hrd], hb.trans (belowK_b (w := w) aj W D _ _ (by omega) hK rfl rfl)⟩
open Go.RowKit
set_option maxRecDepth 100000
theorem ahv (p : Nat) (vS vL : Value) (S : List Blk) (L : List (Int × Blk)) (g : Bool) (n : Int) (w : World) (h : PD w p vS vL S L g) (hLl : L.length <= 1000000) :
  Calls prog 155 #[.pointer (some ⟨p, 0, none⟩), .int .i64 n] w fun e w' => e = .returned (.tuple #[blk (gl S L g n), .int .i64 (dm S g n)]) /\ Below w.heap.size w w' := by
 by_cases he : dm S g n = 0
 ·rcases ft (S := S) (g := g) (n := n) with h1 | h1 | ⟨_, rfl, k, rfl, hk⟩
  ·omega
  ·omega
  ·rw [he];exact aan p k vS vL S L w h hk hLl
 ·exact zQ p vS vL S L g n w h he
def Pv (w : World) (F : Nat -> Prop) (p : Nat) (S : List Blk) (L : List (Int × Blk)) (g : Bool) : Prop := ∃ vS vL, F = foot p vS vL /\ PD w p vS vL S L g /\ Fit S L /\ S.length <= 512 /\ L.length <= 1000000
section
variable {w w' : World} {F G : Nat -> Prop} {p : Nat} {S : List Blk} {L : List (Int × Blk)} {g : Bool}
theorem Pv.lt (h : Pv w F p S L g) : ∀ b, F b -> b < w.heap.size := by
 obtain ⟨vS, vL, rfl, h, _⟩ := h;exact h.lt
theorem Pv.only (h : Pv w F p S L g) (k : Only G w w') (hn : ∀ b, F b -> ¬ G b) : Pv w' F p S L g := by
 obtain ⟨vS, vL, rfl, h, hF⟩ := h;exact ⟨vS, vL, rfl, h.only k hn, hF⟩
theorem fQ (h : w = w') : Below w.heap.size w w' := by subst h; exact ak
end
def ahP : Dev where
 Dv := Pv
 lt := Pv.lt
 only := Pv.only
 fit := fun ⟨_, _, _, h, hF, _⟩ => ⟨hF, h.one⟩
 cap := fun ⟨_, _, _, _, _, hS, _⟩ => hS
 new_ok := fun k w h1 h2 => by
  refine (ac9 k w h1 h2).mono ?_;rintro e w' ⟨p, vS, he, hr, hb, hf⟩;exact ⟨p, _, he, ⟨vS, _, rfl, hr, Fit.nil _, by rw [List.length_replicate]; exact h2, Nat.zero_le _⟩, hb, hf⟩
 new_no := fun n w h => (adQ n w h).mono fun e w' ⟨h1, h2⟩ => ⟨h1, fQ h2⟩
 read := fun n ⟨vS, vL, _, h, _, _, hL⟩ => ahv _ vS vL _ _ _ n _ h hL
 sure := fun n ⟨vS, vL, _, h, _⟩ => ahJ _ vS vL _ _ _ n _ h
 write := fun {w F p S L g} n b hL ⟨vS, vL, e0, h, hF, hS, _⟩ => by
  subst e0;refine (afX p vS vL S L g n b w h hL).mono ?_;rintro e w' ⟨he, vL', h1, h2, h3⟩;refine ⟨he, _, ⟨vS, vL', rfl, h1, hF.wr g n b, hS, ?_⟩, h2, fun k hk => ?_⟩
  ·unfold wrL
   split
   ·rw [List.length_append]; simp; omega
   ·omega
  ·rcases hk with e | e | e
   ·exact .inl (.inl e)
   ·exact .inl (.inr (.inl e))
   ·rcases h3 k e with e | e
    ·exact .inl (.inr (.inr e))
    ·exact .inr e
 flush := fun {w F p S L g} ⟨vS, vL, e0, h, hF, hS, hL⟩ => by
  subst e0;cases g
  ·refine (wu p vS vL S L w h hF).mono ?_;rintro e w' ⟨he, h1, h2⟩;refine ⟨he, _, ⟨vS, _, rfl, h1, Fit.nil _, by rw [if_neg (by simp), mJ]; exact hS, Nat.zero_le _⟩, h2, fun k hk => ?_⟩;rcases hk with e | e | e
   ·exact .inl (.inl e)
   ·exact .inl (.inr (.inl e))
   ·simp [Value.ownBlock] at e
  ·refine (sw p vS vL S L w h).mono ?_;rintro e w' ⟨he, rfl⟩;exact ⟨he, _, ⟨vS, vL, rfl, h, hF, hS, hL⟩, Only.refl _ _, Grow.same _ _⟩
 fail := fun {w F p S L g} ⟨vS, vL, e0, h, hF, hS, hL⟩ => by
  subst e0;refine (ahV p vS vL S L g w h).mono ?_;rintro e w' ⟨he, h1, h2⟩;refine ⟨he, _, ⟨_, _, rfl, h1, Fit.nil _, hS, Nat.zero_le _⟩, h2, fun k hk => ?_⟩;rcases hk with e | e | e
  ·exact .inl (.inl e)
  ·simp [Value.ownBlock] at e
  ·simp [Value.ownBlock] at e
 rot := fun {w F p S L g} n i u ⟨vS, vL, e0, h, hF, hS, hL⟩ => by
  subst e0;refine (ajJ p n i u vS vL S L g w h).mono ?_;rintro e w' ⟨he, h1, h2⟩;exact ⟨he, _, ⟨vS, vL, rfl, h1, hF.len (kZ _ _ _ _ _), by rw [kZ]; exact hS, hL⟩, h2, Grow.same _ _⟩
 kL := fun {w F p S L g A n c P} hP hc1 hc2 hN ⟨vS, vL, e0, h, hF, hS, hL⟩ => by
  subst e0;refine (aeE p vS vL S L g A n c P w h hF hP hc1 hc2 hN).mono ?_;rintro e w' ⟨he, h1, h2⟩;refine ⟨he, _, ⟨vS, _, rfl, h1, Fit.nil _, by rw [m8]; exact hS, Nat.zero_le _⟩, h2, fun k hk => ?_⟩;rcases hk with e | e | e
  ·exact .inl (.inl e)
  ·exact .inl (.inr (.inl e))
  ·simp [Value.ownBlock] at e
 dead := fun ⟨vS, vL, _, h, _⟩ => (ahu _ vS vL _ _ _ _ h).mono fun e w' ⟨h1, h2⟩ => ⟨h1, fQ h2⟩
 fI := fun ⟨vS, vL, _, h, _⟩ => (zx _ vS vL _ _ _ _ h).mono fun e w' ⟨h1, h2⟩ => ⟨h1, fQ h2⟩
def ajO : Array Value := #[.int .i64 0, .slice none 0 0, .slice none 0 0, .bool false]
def NoP (w : World) (v : Value) : Prop := v = .pointer none \/ ∃ p, v = .pointer (some ⟨p, 0, none⟩) /\ w.heap[p]? = some (.cells ajO 138)
theorem ag2 {w : World} {v : Value} (h : NoP w v) : Calls prog 129 #[v] w fun e w' => e = .returned (.bool false) /\ w = w' := by
 rcases h with rfl | ⟨p, rfl, h⟩
 ·go_enter func129, ntmps129;go_wp2;go_ret;exact ⟨rfl, rfl⟩
 ·obtain ⟨c0, c1, c2, c3⟩ := dQ h;go_enter func129, ntmps129;go_wp2;go_ret;exact ⟨rfl, rfl⟩
theorem zg {w : World} {v : Value} (h : NoP w v) : Calls prog 80 #[v] w fun e w' => e = .returned (.int .i64 0) /\ Below w.heap.size w w' := by
 go_enter func80, ntmps80;go_wp2_with fail;refine (ag2 h).mono ?_;rintro e w1 ⟨rfl, rfl⟩;go_wp2_with fail;go_ret;exact ⟨rfl, ak⟩
def Dev.K (D : Dev) : DvK := ⟨D.Dv, D.lt, D.only⟩
def ce (D : Dev) : gY where
 K := D.K
 s := 77
 t := 80
 und := underlying77
 info := by kernel_rfl
 o := 79
 cs := fun v left dx steps => #[v, .int .i64 steps, .int .i64 left, .bool dx]
 ne := by decide
section
variable {D : Dev} {w w' : World} {p : Nat} {v : Value} {Fs : Nat -> Nat -> Prop} {ps : List Nat} {M : aK}
theorem bz.iK (h : bz (ce D) w p v Fs ps M) : w.cell? ⟨p, 0, none⟩ = some v /\ w.cell? ⟨p, 1, none⟩ = some (.int .i64 M.steps) /\ w.cell? ⟨p, 2, none⟩ = some (.int .i64 M.left) /\ w.cell? ⟨p, 3, none⟩ = some (.bool M.dx) := dQ h.at_
theorem rm (h : bz (ce D) w p v Fs ps M) :
  Calls prog 102 #[.pointer (some ⟨p, 0, none⟩)] w fun e w' => e = .returned (.int .i64 (M.ds.length : Int)) /\ w = w' := by
 obtain ⟨g, c, rfl, _, _⟩ := h.slice;obtain ⟨c0, c1, c2, c3⟩ := h.iK;go_enter func102, ntmps102;go_wp2;go_ret;exact ⟨rfl, rfl⟩
theorem sW (h : bz (ce D) w p v Fs ps M) :
  Calls prog 70 #[.pointer (some ⟨p, 0, none⟩)] w fun e w' => e = .returned (.bool true) /\ w = w' := by
 have h1 : 0 < M.ds.length := h.one;go_enter func70, ntmps70;go_wp2_with fail;refine (rm h).mono ?_;rintro e w1 ⟨rfl, rfl⟩;go_wp2_with fail;go_ret;exact ⟨rfl, rfl⟩
theorem vJ (h : bz (ce D) w p v Fs ps M) :
  Calls prog 37 #[.pointer (some ⟨p, 0, none⟩)] w fun e w' => e = .returned (.bool M.dx) /\ w = w' := by
 obtain ⟨c0, c1, c2, c3⟩ := h.iK;go_enter func37, ntmps37;go_wp2;go_ret;exact ⟨rfl, rfl⟩
theorem ae2 (h : bz (ce D) w p v Fs ps M) :
  Calls prog 35 #[.pointer (some ⟨p, 0, none⟩)] w fun e w' => e = .returned (.int .i64 (M.steps : Int)) /\ w = w' := by
 obtain ⟨c0, c1, c2, c3⟩ := h.iK;go_enter func35, ntmps35;go_wp2;go_ret;exact ⟨rfl, rfl⟩
theorem hI (h : bz (ce D) w p v Fs ps M) {d : Int} (hd : ¬(0 <= d /\ d < M.ds.length)) :
  Calls prog 73 #[.pointer (some ⟨p, 0, none⟩), .int .i64 d] w fun e w' => e = .returned (.tuple #[.pointer none, .int .i64 2]) /\ w = w' := by
 have hm := af (sW h);obtain ⟨g, c, rfl, _, _⟩ := h.slice;obtain ⟨c0, c1, c2, c3⟩ := h.iK;clear h;by_cases h0 : d < 0
 ·clear hd;go_enter func73, ntmps73;go_wp2_with fail;refine hm.out.mono ?_;rintro e w1 ⟨rfl, rfl⟩;go_wp2_with fail;go_ret2;exact ⟨rfl, rfl⟩
 ·have h1 : ¬(d < (M.ds.length : Int)) := by omega
  clear hd;go_enter func73, ntmps73;go_wp2_with fail;refine hm.out.mono ?_;rintro e w1 ⟨rfl, rfl⟩;go_wp2_with fail;go_ret2;exact ⟨rfl, rfl⟩
theorem gZ (h : bz (ce D) w p v Fs ps M) {k : Nat} (hk : k < M.ds.length) :
  Calls prog 73 #[.pointer (some ⟨p, 0, none⟩), .int .i64 k] w fun e w' => e = .returned (.tuple #[.pointer (some ⟨ps.getD k 0, 0, none⟩), .int .i64 0]) /\ w = w' := by
 have hm := af (sW h);obtain ⟨g, c, rfl, _, _⟩ := h.slice;obtain ⟨c0, c1, c2, c3⟩ := h.iK;have hc := h.cell hk;generalize ps.getD k 0 = q at *;clear h;go_enter func73, ntmps73;go_wp2_with fail;refine hm.out.mono ?_;rintro e w1 ⟨rfl, rfl⟩;go_wp2_with fail;go_ret2;exact ⟨rfl, rfl⟩
theorem mo (h : bz (ce D) w p v Fs ps M) {d : Int} (hd : ec M d ≠ 0) :
  Calls prog 78 #[.pointer (some ⟨p, 0, none⟩), .int .i64 d] w fun e w' => e = .returned (.tuple #[.pointer none, .int .i64 (ec M d)]) /\ w = w' := by
 have hm := af (vJ h);rcases dN M d with ⟨e, hdk⟩ | ⟨e, hdk, ho⟩ | ⟨e, _⟩
 ·rw [e];have HD := af hdk;clear e hdk hd h;go_enter func78, ntmps78;go_wp2_with fail;refine hm.out.mono ?_;rintro e w1 ⟨rfl, rfl⟩;rw [HD.out];go_wp2_with fail;go_ret2;exact ⟨rfl, rfl⟩
 ·rw [e];have HD := af hdk;have HO := af (hI h ho);clear e hdk hd h ho;go_enter func78, ntmps78;go_wp2_with fail;refine hm.out.mono ?_;rintro e w1 ⟨rfl, rfl⟩;rw [HD.out];go_wp2_with fail;refine HO.out.mono ?_;rintro e w1 ⟨rfl, rfl⟩;go_wp2_with fail;go_ret2;exact ⟨rfl, rfl⟩
 ·exact absurd e hd
theorem jR (h : bz (ce D) w p v Fs ps M) {k : Nat} (hdk : M.dx = false) (hk : k < M.ds.length) :
  Calls prog 78 #[.pointer (some ⟨p, 0, none⟩), .int .i64 k] w fun e w' => e = .returned (.tuple #[.pointer (some ⟨ps.getD k 0, 0, none⟩), .int .i64 0]) /\ w = w' := by
 have hm := af (vJ h);have HD := af hdk;have HO := af (gZ h hk);clear hdk h;generalize ps.getD k 0 = q at *;go_enter func78, ntmps78;go_wp2_with fail;refine hm.out.mono ?_;rintro e w1 ⟨rfl, rfl⟩;rw [HD.out];go_wp2_with fail;refine HO.out.mono ?_;rintro e w1 ⟨rfl, rfl⟩;go_wp2_with fail;go_ret2;exact ⟨rfl, rfl⟩
end
section
variable {D : Dev} {w w' : World} {p : Nat} {v : Value} {Fs : Nat -> Nat -> Prop} {ps : List Nat} {M : aK}
theorem zT (d : Int) (h : bz (ce D) w p v Fs ps M) :
  Calls prog 103 #[.pointer (some ⟨p, 0, none⟩), .int .i64 d] w fun e w' => e = .returned (.int .i64 (cw M d)) /\ Below w.heap.size w w' := by
 rcases dS M d with ⟨e, ho⟩ | ⟨e, k, rfl, hk⟩
 ·have HS : Hid (cw M d = 0) := af (by unfold cw; rw [if_neg (by omega)]);have HO := af (hI h ho);clear e h ho;go_enter func103, ntmps103;go_wp2_with fail;refine HO.out.mono ?_;rintro e w1 ⟨rfl, rfl⟩;go_wp2_with fail;refine (zg (.inl rfl)).mono ?_;rintro e w2 ⟨rfl, hb⟩;go_wp2_with fail;go_ret;exact ⟨br HS.out.symm, hb⟩
 ·obtain ⟨x, hx⟩ : ∃ x, M.ds.getD k ch = x := ⟨_, rfl⟩;have hat := h.ey.at_ k hk;rw [hx] at hat
  have HS : Hid (cw M (k : Int) = (x.S.length : Int)) := af (by unfold cw; rw [if_pos e, M.ji, hx]);have HO := af (gZ h hk);have HD := af (D.fI hat);clear e h hat hx;generalize ps.getD k 0 = q at *;go_enter func103, ntmps103;go_wp2_with fail;refine HO.out.mono ?_;rintro e w1 ⟨rfl, rfl⟩;go_wp2_with fail;refine HD.out.mono ?_;rintro e w2 ⟨rfl, hb⟩;go_wp2_with fail;go_ret;exact ⟨br HS.out.symm, hb⟩
theorem aj5 (n : Int) (h : bz (ce D) w p v Fs ps M) :
  Calls prog 16 #[.pointer (some ⟨p, 0, none⟩), .int .i64 n] w fun e w' => e = .returned (.int .i64 (lD M n)) /\ bz (ce D) w' p v Fs ps (iv M n) /\ Only (fun b => b = p) w w' := by
 have hm := af (sW h);obtain ⟨c0, c1, c2, c3⟩ := h.iK;have f2 := frozen_of_row w p 2 _ _ h.at_;have HH := af h;cases hdk : M.dx
 ·by_cases hn : n < 0
  ·have HE : Hid (lD M n = 2) := af (by unfold lD; rw [if_neg (by rw [hdk]; decide), if_pos hn]);have HS : Hid (iv M n = M) := af (by unfold iv; rw [HE.out, if_neg (by decide)]);rw [hdk] at c3;clear h hdk;go_enter func16, ntmps16;go_wp2_with fail;refine hm.out.mono ?_;rintro e w1 ⟨rfl, rfl⟩;go_wp2_with fail;go_ret;exact ⟨br HE.out.symm, by rw [HS.out]; exact HH, Only.refl _ _⟩
  ·have HE : Hid (lD M n = 0) := af (by unfold lD; rw [if_neg (by rw [hdk]; decide), if_neg hn]);have HS : Hid (iv M n = ⟨M.ds, n.toNat, M.dx, M.steps⟩) := af (by unfold iv; rw [HE.out, if_pos rfl]);have HN : Hid (((n.toNat : Nat) : Int) = n) := af (by omega);have HC : Hid (M.dx = false) := af hdk;rw [hdk] at c3;clear h hdk;go_enter func16, ntmps16;go_wp2_with fail;refine hm.out.mono ?_;rintro e w1 ⟨rfl, rfl⟩;go_wp2_with fail;go_ret;have ho := dt w p 2 (.int .i64 n);refine ⟨br HE.out.symm, ?_, ho⟩;rw [HS.out];refine HH.out.obj _ _ _ ho ?_;have := heap_setCell_same w p 2 _ _ (.int .i64 n) HH.out.at_
   simpa [ce, HN.out] using this
 ·have HE : Hid (lD M n = 8) := af (by unfold lD; rw [if_pos hdk]);have HS : Hid (iv M n = M) := af (by unfold iv; rw [HE.out, if_neg (by decide)]);rw [hdk] at c3;clear h hdk;go_enter func16, ntmps16;go_wp2_with fail;refine hm.out.mono ?_;rintro e w1 ⟨rfl, rfl⟩;go_wp2_with fail;go_ret;exact ⟨br HE.out.symm, by rw [HS.out]; exact HH, Only.refl _ _⟩
theorem aip (d : Int) (h : bz (ce D) w p v Fs ps M) :
  Calls prog 22 #[.pointer (some ⟨p, 0, none⟩), .int .i64 d] w fun e w' => e = .returned (.int .i64 (d8 M d)) /\ Left (ce D) w p v Fs ps M.ds.length (kw M d) w' := by
 rcases dS M d with ⟨e, ho⟩ | ⟨e, k, rfl, hk⟩
 ·have HL := af (Left.same h (M' := kw M d) (by unfold kw; rw [if_neg (by omega)]));have HO := af (hI h ho);have HE := af e;clear e h ho;go_enter func22, ntmps22;go_wp2_with fail;refine HO.out.mono ?_;rintro e w1 ⟨rfl, rfl⟩;go_wp2_with fail;go_ret;exact ⟨br HE.out.symm, HL⟩
 ·obtain ⟨x, hx⟩ : ∃ x, M.ds.getD k ch = x := ⟨_, rfl⟩;have hat := h.ey.at_ k hk;rw [hx] at hat
  have HS : Hid (kw M (k : Int) = M.put k ⟨x.S, [], true⟩) := af (by unfold kw; rw [if_pos e, <- hx]; rfl);have HO := af (gZ h hk);have HD := af (D.fail hat);have HE := af e;have HH := af h;clear e h hat hx;go_enter func22, ntmps22;go_wp2_with fail;refine HO.out.mono ?_;rintro e w1 ⟨rfl, rfl⟩;go_wp2_with fail;refine HD.out.mono ?_;rintro e w2 ⟨rfl, F', h1, h2, h3⟩;go_wp2_with fail;go_ret;exact ⟨br HE.out.symm, Left.turn HH hk h2 h3 (d := ⟨x.S, [], true⟩) h1 HS⟩
theorem ajQ (d n i : Int) (u : UInt8) (h : bz (ce D) w p v Fs ps M) :
  Calls prog 20 #[.pointer (some ⟨p, 0, none⟩), .int .i64 d, .int .i64 n, .int .i64 i, .int .u8 (u.toNat : Int)] w fun e w' => e = .returned (.int .i64 (qm M d n i)) /\ Left (ce D) w p v Fs ps M.ds.length (kz M d n i u) w' := by
 rcases dS M d with ⟨e, ho⟩ | ⟨e, k, rfl, hk⟩
 ·have HL := af (Left.same h (M' := kz M d n i u) (by unfold kz; rw [if_neg (by omega)]));have HO := af (hI h ho);have HE : Hid (qm M d n i = 2) := af (by unfold qm; rw [if_neg (by omega), e]);clear e h ho;go_enter func20, ntmps20;go_wp2_with fail;refine HO.out.mono ?_;rintro e w1 ⟨rfl, rfl⟩;go_wp2_with fail;go_ret;exact ⟨br HE.out.symm, HL⟩
 ·obtain ⟨x, hx⟩ : ∃ x, M.ds.getD k ch = x := ⟨_, rfl⟩;have hat := h.ey.at_ k hk;rw [hx] at hat
  have HS : Hid (kz M (k : Int) n i u = M.put k ⟨j6 x.S x.g n i u, x.L, x.g⟩) := af (by unfold kz; rw [if_pos e, <- hx]; rfl);have HO := af (gZ h hk);have HD := af (D.rot n i u hat);have HE : Hid (qm M (k : Int) n i = fG x.S x.g n i) := af (by unfold qm; rw [if_pos e, <- hx]; rfl);have HH := af h;clear e h hat hx;go_enter func20, ntmps20;go_wp2_with fail;refine HO.out.mono ?_;rintro e w1 ⟨rfl, rfl⟩;go_wp2_with fail;refine HD.out.mono ?_;rintro e w2 ⟨rfl, F', h1, h2, h3⟩;go_wp2_with fail;go_ret;exact ⟨br HE.out.symm, Left.turn HH hk h2 h3 (d := ⟨j6 x.S x.g n i u, x.L, x.g⟩) h1 HS⟩
theorem pF (f : Value) (h : bz (ce D) w p v Fs ps M) (hl : M.left = 1) :
  Calls prog 164 #[.pointer (some ⟨p, 0, none⟩), f] w fun e w' => e = .returned (.int .i64 8) /\ bz (ce D) w' p v Fs ps M.night /\ Only (fun b => b = p) w w' := by
 obtain ⟨c0, c1, c2, c3⟩ := h.iK;have f3 := frozen_of_row w p 3 _ _ h.at_;rw [hl] at c2;have HH := af h;have HL := af hl;clear h hl;go_enter func164, ntmps164;go_wp2_with fail;go_ret;have ho := dt w p 3 (.bool true);refine ⟨rfl, HH.out.obj _ _ _ ho ?_, ho⟩;have := heap_setCell_same w p 3 _ _ (.bool true) HH.out.at_
 simpa [ce] using this
theorem abo (h : bz (ce D) w p v Fs ps M) (h2 : 1 < M.left) : bz (ce D) ((w.setCell ⟨p, 2, none⟩ (.int .i64 ((M.left : Int) - 1))).setCell ⟨p, 1, none⟩ (.int .i64 ((M.steps : Int) + 1))) p v Fs ps M.done /\ Only (fun b => b = p) w ((w.setCell ⟨p, 2, none⟩ (.int .i64 ((M.left : Int) - 1))).setCell ⟨p, 1, none⟩ (.int .i64 ((M.steps : Int) + 1))) := by
 have ho := (dt w p 2 (.int .i64 ((M.left : Int) - 1))).setCell (p := ⟨p, 1, none⟩) (.inl rfl) (.int .i64 ((M.steps : Int) + 1));refine ⟨h.obj _ _ _ ho ?_, ho⟩;have h3 := heap_setCell_same _ p 1 _ _ (.int .i64 ((M.steps : Int) + 1)) (heap_setCell_same w p 2 _ _ (.int .i64 ((M.left : Int) - 1)) h.at_);have e : ((M.left - 1 : Nat) : Int) = (M.left : Int) - 1 := by omega
 simpa [ce, e] using h3
theorem z0 (h : bz (ce D) w p v Fs ps M) (h2 : M.left = 0) : bz (ce D) (w.setCell ⟨p, 1, none⟩ (.int .i64 ((M.steps : Int) + 1))) p v Fs ps M.done /\ Only (fun b => b = p) w (w.setCell ⟨p, 1, none⟩ (.int .i64 ((M.steps : Int) + 1))) := by
 have ho := dt w p 1 (.int .i64 ((M.steps : Int) + 1));refine ⟨h.obj _ _ _ ho ?_, ho⟩;have h3 := heap_setCell_same w p 1 _ _ (.int .i64 ((M.steps : Int) + 1)) h.at_
 simpa [ce, h2] using h3
theorem rX (fid : FuncId) (bs cs : Array Value) (h : bz (ce D) w p v Fs ps M) (hl : M.left ≠ 1) (hs : M.steps < 1000000) (hll : M.left < 9223372036854775808) (hf : ∀ (args : Array Value) (w : World), (callFunc fid args).run prog w = .ok (.enter fid args) w) (Q : Int -> World -> Prop)
  (hdo : ∀ w1, bz (ce D) w1 p v Fs ps M.done -> Only (fun b => b = p) w w1 -> Calls prog fid (bs ++ cs) w1 fun e w2 => ∃ x, e = .returned (.int .i64 x) /\ Q x w2) :
  Calls prog 164 #[.pointer (some ⟨p, 0, none⟩), .func (.func fid) bs cs] w fun e w2 => ∃ x, e = .returned (.int .i64 x) /\ Q x w2 := by
 obtain ⟨c0, c1, c2, c3⟩ := h.iK;have f2 := frozen_of_row w p 2 _ _ h.at_;have f1 := frozen_of_row w p 1 _ _ h.at_;have HH := af h;clear h;have hl1 : ((M.left : Int) == 1) = false := by simpa using (by omega : ¬ (M.left : Int) = 1)
 by_cases h2 : 1 < M.left
 ·have HT := af (abo HH h2);go_enter func164, ntmps164;go_wp2_with fail;refine (hdo _ HT.out.1 HT.out.2).mono ?_;rintro e w3 ⟨x, rfl, hq⟩;go_wp2_with fail;go_ret;exact ⟨x, rfl, hq⟩
 ·have hl0 : M.left = 0 := by omega
  have HT := af (z0 HH hl0);rw [hl0] at c2;clear hl1 hl hll h2 hl0;go_enter func164, ntmps164;go_wp2_with fail;refine (hdo _ HT.out.1 HT.out.2).mono ?_;rintro e w3 ⟨x, rfl, hq⟩;go_wp2_with fail;go_ret;exact ⟨x, rfl, hq⟩
end
section
variable {D : Dev} {w w' : World} {p : Nat} {v : Value} {Fs : Nat -> Nat -> Prop} {ps : List Nat} {M : aK}
theorem ahg (d n : Int) (h : bz (ce D) w p v Fs ps M) :
  Calls prog 104 #[.pointer (some ⟨p, 0, none⟩), .int .i64 d, .int .i64 n] w fun e w' => e = .returned (.tuple #[blk (df M d n), .int .i64 (cM M d n)]) /\ Below w.heap.size w w' := by
 have hA := (Below.refl w.heap.size w).alloc aj (.cells (cel aE).toArray 64);have h1 := h.below hA;have HT := af (dj w aE 64);have HA := af hA;by_cases hl : ec M d = 0
 ·rcases dN M d with ⟨e, _⟩ | ⟨e, _⟩ | ⟨e, hdk, k, rfl, hk⟩
  ·omega
  ·omega
  obtain ⟨x, hx⟩ : ∃ x, M.ds.getD k ch = x := ⟨_, rfl⟩;have hat := h1.ey.at_ k hk;rw [hx] at hat
  have HB : Hid (df M (k : Int) n = gl x.S x.L x.g n) := af (by unfold df; rw [if_pos e, <- hx]; rfl);have HE : Hid (cM M (k : Int) n = dm x.S x.g n) := af (by unfold cM; rw [if_pos e, <- hx]; rfl);have HO := af (jR h1 hdk hk);have HD := af (D.read n hat);have HSZ := af (World.size_alloc w (.cells (cel aE).toArray 64));clear e h h1 hat hx hdk hA hl;rw [HB.out, HE.out];clear HB HE;generalize gl x.S x.L x.g n = y at *;generalize dm x.S x.g n = z at *;generalize ps.getD k 0 = q at *;go_enter func104, ntmps104;go_wp2_with (first | (refine ax rfl (aV rfl) ?_) | fail);refine HO.out.mono ?_;rintro e w1 ⟨rfl, rfl⟩;go_wp2_with fail;refine HD.out.mono ?_;rintro e w2 ⟨rfl, hb⟩;have HT2 := af (aS HT (by rw [HSZ.out]; omega) hb);have HB2 := af (HA.out.trans (hb.mono (by rw [HSZ.out]; omega)));clear hb;go_wp2_with (first | (refine aW rfl (aX rfl rfl rfl HT2.out) ?_) | fail);exact bodyPost_ret (b9 rfl _ _ _ rfl (World.rangeAt_setCells_same _ _ _ _ (by rw [aG]; exact HT2))) rfl ⟨rfl, below_setCells HB2 aj _⟩
 ·have HB : Hid (df M d n = aE) := af (by unfold df; rw [if_neg hl]);have HE : Hid (cM M d n = ec M d) := af (by unfold cM; rw [if_neg hl]);have HO := af (mo h1 hl);clear h h1 hA;rw [HB.out, HE.out];rcases dN M d with ⟨e, _⟩ | ⟨e, _⟩ | ⟨e, _⟩
  rotate_right 1
  ·exact absurd e hl
  all_goals
   rw [e] at HO ⊢;clear e hl;go_enter func104, ntmps104;go_wp2_with (first | (refine ax rfl (aV rfl) ?_) | fail);refine HO.out.mono ?_;rintro e w1 ⟨rfl, rfl⟩;go_wp2_with (first | (refine ax rfl (ca (c := aE) (parts := []) rfl rfl) ?_) | (refine aW rfl (aX rfl rfl rfl HT.out) ?_));exact bodyPost_ret (b9 rfl _ _ _ rfl (World.rangeAt_setCells_same _ _ _ _ (by rw [aG]; exact HT))) rfl ⟨rfl, below_setCells HA aj _⟩
theorem ahk (d n : Int) (h : bz (ce D) w p v Fs ps M) :
  Calls prog 33 #[.pointer (some ⟨p, 0, none⟩), .int .i64 d, .int .i64 n] w fun e w' => e = .returned (.tuple #[blk (oy M d n), .int .i64 (ov M d n)]) /\ Below w.heap.size w w' := by
 have hA := (Below.refl w.heap.size w).alloc aj (.cells (cel aE).toArray 64);have h1 := h.below hA;have HT := af (dj w aE 64);have HA := af hA;rcases dS M d with ⟨e, ho⟩ | ⟨e, k, rfl, hk⟩
 ·have HB : Hid (oy M d n = aE) := af (by unfold oy; rw [if_neg (by omega)]);have HE : Hid (ov M d n = 2) := af (by unfold ov; rw [if_neg (by omega), e]);have HO := af (hI h1 ho);clear e h h1 ho hA;rw [HB.out, HE.out];go_enter func33, ntmps33;go_wp2_with (first | (refine ax rfl (aV rfl) ?_) | fail);refine HO.out.mono ?_;rintro e w1 ⟨rfl, rfl⟩;go_wp2_with (first | (refine ax rfl (ca (c := aE) (parts := []) rfl rfl) ?_) | (refine aW rfl (aX rfl rfl rfl HT.out) ?_));exact bodyPost_ret (b9 rfl _ _ _ rfl (World.rangeAt_setCells_same _ _ _ _ (by rw [aG]; exact HT))) rfl ⟨rfl, below_setCells HA aj _⟩
 ·obtain ⟨x, hx⟩ : ∃ x, M.ds.getD k ch = x := ⟨_, rfl⟩;have hat := h1.ey.at_ k hk;rw [hx] at hat
  have HB : Hid (oy M (k : Int) n = gp x.S x.g n) := af (by unfold oy; rw [if_pos e, <- hx]; rfl);have HE : Hid (ov M (k : Int) n = dm x.S x.g n) := af (by unfold ov; rw [if_pos e, <- hx]; rfl);have HO := af (gZ h1 hk);have HD := af (D.sure n hat);have HSZ := af (World.size_alloc w (.cells (cel aE).toArray 64));clear e h h1 hat hx hA;rw [HB.out, HE.out];clear HB HE;generalize gp x.S x.g n = y at *;generalize dm x.S x.g n = z at *;generalize ps.getD k 0 = q at *;go_enter func33, ntmps33;go_wp2_with (first | (refine ax rfl (aV rfl) ?_) | fail);refine HO.out.mono ?_;rintro e w1 ⟨rfl, rfl⟩;go_wp2_with fail;refine HD.out.mono ?_;rintro e w2 ⟨rfl, hb⟩;have HT2 := af (aS HT (by rw [HSZ.out]; omega) hb);have HB2 := af (HA.out.trans (hb.mono (by rw [HSZ.out]; omega)));clear hb;go_wp2_with (first | (refine aW rfl (aX rfl rfl rfl HT2.out) ?_) | fail);exact bodyPost_ret (b9 rfl _ _ _ rfl (World.rangeAt_setCells_same _ _ _ _ (by rw [aG]; exact HT2))) rfl ⟨rfl, below_setCells HB2 aj _⟩
theorem vN (d : Int) (h : bz (ce D) w p v Fs ps M) (hl : iJ M d ≠ 0) :
  Calls prog 118 #[.pointer (some ⟨p, 0, none⟩), .int .i64 d] w fun e w' => e = .returned (.int .i64 (fM M d)) /\ Left (ce D) w p v Fs ps M.ds.length (eJ M d) w' := by
 have HE : Hid (fM M d = iJ M d) := af (by unfold fM; rw [if_neg hl]);have HL : Hid (∀ w', Below w.heap.size w w' -> Left (ce D) w p v Fs ps M.ds.length (eJ M d) w') := af (fun w' hb => by
  have e : eJ M d = M := by unfold eJ; rw [if_neg hl]
  rw [e];exact ⟨Fs, ps, h.below hb, Only.of_below _ hb, Grow.same _ _⟩)
 by_cases h0 : ec M d = 0
 ·rcases dN M d with ⟨e, _⟩ | ⟨e, _⟩ | ⟨e, hdk, k, rfl, hk⟩
  ·omega
  ·omega
  obtain ⟨x, hx⟩ : ∃ x, M.ds.getD k ch = x := ⟨_, rfl⟩;have hat := h.ey.at_ k hk;rw [hx] at hat
  have hg : x.g = true := by
   cases hg : x.g
   ·exfalso; apply hl; unfold iJ; rw [if_pos e, show M.dev (k : Int) = x from hx, hg, if_neg (by decide)]
   ·rfl
  have H9 : Hid (iJ M (k : Int) = 9) := af (by unfold iJ; rw [if_pos e, show M.dev (k : Int) = x from hx, hg, if_pos rfl]);have HO := af (jR h hdk hk);have HD := af (D.dead hat);have HG := af hg;clear e h hat hx hdk hl h0 hg;generalize ps.getD k 0 = q at *;go_enter func118, ntmps118;go_wp2_with fail;refine HO.out.mono ?_;rintro e w1 ⟨rfl, rfl⟩;go_wp2_with fail;refine HD.out.mono ?_;rintro e w2 ⟨rfl, hb⟩;rw [HG.out];have HBB := af hb;clear hb;go_wp2_with fail;go_ret;exact ⟨br (by rw [HE.out, H9.out]), HL.out _ HBB⟩
 ·have HA : Hid (iJ M d = ec M d) := af (by unfold iJ; rw [if_neg h0]);have HO := af (mo h h0);clear h hl;rw [HE.out, HA.out];rcases dN M d with ⟨e, _⟩ | ⟨e, _⟩ | ⟨e, _⟩
  rotate_right 1
  ·exact absurd e h0
  all_goals
   rw [e] at HO ⊢;clear e h0;go_enter func118, ntmps118;go_wp2_with fail;refine HO.out.mono ?_;rintro e w1 ⟨rfl, rfl⟩;go_wp2_with fail;go_ret;exact ⟨rfl, HL.out _ ak⟩
theorem aez (d : Int) (h : bz (ce D) w p v Fs ps M) (hs : M.steps < 1000000) (hll : M.left < 9223372036854775808) :
  Calls prog 118 #[.pointer (some ⟨p, 0, none⟩), .int .i64 d] w fun e w' => e = .returned (.int .i64 (fM M d)) /\ Left (ce D) w p v Fs ps M.ds.length (eJ M d) w' := by
 by_cases hl : iJ M d = 0;rotate_left 1
 ·exact vN d h hl
 have hlit : ec M d = 0 := by
  unfold iJ at hl;by_cases h0 : ec M d = 0
  ·exact h0
  ·rw [if_neg h0] at hl; exact hl
 rcases dN M d with ⟨e, _⟩ | ⟨e, _⟩ | ⟨e, hdk, k, rfl, hk⟩
 ·omega
 ·omega
 obtain ⟨x, hx⟩ : ∃ x, M.ds.getD k ch = x := ⟨_, rfl⟩;have hat := h.ey.at_ k hk;rw [hx] at hat
 have hg : x.g = false := by
  cases hg : x.g
  ·rfl
  ·exfalso; unfold iJ at hl; rw [if_pos e, show M.dev (k : Int) = x from hx, hg, if_pos rfl] at hl; omega
 have HEE : Hid (fM M (k : Int) = M.eQ) := af (by unfold fM; rw [if_pos hl]);have HO := af (jR h hdk hk);have HD := af (D.dead hat);have HG := af hg;obtain ⟨q, hq⟩ : ∃ q, ps.getD k 0 = q := ⟨_, rfl⟩;rw [hq] at HO HD;by_cases h1 : M.left = 1
 ·have HE : Hid (M.eQ = 8) := af (by unfold aK.eQ; rw [if_pos h1]);have HS : Hid (eJ M (k : Int) = M.night) := af (by unfold eJ; rw [if_pos hl, if_pos h1]);have HH := af h;have H1 := af h1;clear e h hat hx hdk hl hg h1 hlit hs hll hq;go_enter func118, ntmps118;go_wp2_with fail;refine HO.out.mono ?_;rintro e w1 ⟨rfl, rfl⟩;go_wp2_with fail;refine HD.out.mono ?_;rintro e w2 ⟨rfl, hb⟩;rw [HG.out];have HBB := af hb;clear hb;go_wp2_with fail;refine (pF _ (HH.out.below HBB) H1).mono ?_;rintro e w3 ⟨rfl, h3, ho3⟩;go_wp2_with fail;go_ret;refine ⟨br (by rw [HEE.out, HE.out]), ?_⟩;rw [HS.out];exact ⟨Fs, ps, h3, (Only.of_below _ HBB).trans (nf _ ho3) fun b hb => .inl hb, Grow.same _ _⟩
 ·have HE : Hid (M.eQ = 0) := af (by unfold aK.eQ; rw [if_neg h1]);have HS : Hid (eJ M (k : Int) = M.done.put k ⟨flS x.S x.L, [], x.g⟩) := af (by unfold eJ; rw [if_pos hl, if_neg h1, show M.dev (k : Int) = x from hx]; rfl);have HH := af h;have H1 := af h1;have HX := af hx;have HSS := af hs;have HLL := af hll;have HQ := af hq;clear e h hat hx hdk hl hg h1 hlit hs hll hq;go_enter func118, ntmps118;go_wp2_with fail;refine HO.out.mono ?_;rintro e w1 ⟨rfl, rfl⟩;go_wp2_with fail;refine HD.out.mono ?_;rintro e w2 ⟨rfl, hb⟩;rw [HG.out];have HBB := af hb;clear hb;go_wp2_with fail;refine (rX 165 #[.pointer (some ⟨q, 0, none⟩)] #[] (HH.out.below HBB) H1 HSS HLL call165 (fun z w3 => z = 0 /\ Left (ce D) w2 p v Fs ps M.ds.length (eJ M (k : Int)) w3) ?_).mono ?_
  ·intro w3 h3 ho3;have hat3 := h3.ey.at_ k hk;rw [show M.done.ds.getD k ch = x from HX.out, HG.out, HQ.out] at hat3;refine (D.flush hat3).mono ?_;rintro e w4 ⟨he, F', g1, g2, g3⟩;refine ⟨0, by simpa using he, rfl, Left.behind ho3 (Left.turn h3 hk g2 g3 (d := ⟨flS x.S x.L, [], x.g⟩) (show D.Dv _ _ _ _ _ _ by rw [HG.out, HQ.out]; simpa using g1) HS)⟩
  ·rintro e w4 ⟨z, rfl, rfl, Fs', ps', h4, ho4, hg4⟩;go_wp2_with fail;go_ret;refine ⟨br (by rw [HEE.out, HE.out]), Fs', ps', h4, (Only.of_below _ HBB).trans ho4 fun b hb => .inl hb, fun b hb => ?_⟩;rcases hg4 b hb with e | e
   ·exact .inl e
   ·exact .inr (ap HBB.out.size e)
end
section
variable {D : Dev} {w w' : World} {p : Nat} {v : Value} {Fs : Nat -> Nat -> Prop} {ps : List Nat} {M : aK}
theorem adF (d : Int) (h : bz (ce D) w p v Fs ps M) :
  Calls prog 24 #[.pointer (some ⟨p, 0, none⟩), .int .i64 d] w fun e w' => e = .returned (.int .i64 (lB M d)) /\ Left (ce D) w p v Fs ps M.ds.length (i9 M d) w' := by
 by_cases h0 : ec M d = 0
 ·rcases dN M d with ⟨e, _⟩ | ⟨e, _⟩ | ⟨e, hdk, k, rfl, hk⟩
  ·omega
  ·omega
  obtain ⟨x, hx⟩ : ∃ x, M.ds.getD k ch = x := ⟨_, rfl⟩;have hat := h.ey.at_ k hk;rw [hx] at hat
  have HO := af (jR h hdk hk);have HD := af (D.dead hat);obtain ⟨q, hq⟩ : ∃ q, ps.getD k 0 = q := ⟨_, rfl⟩;rw [hq] at HO HD hat
  cases hg : x.g
  ·have HE : Hid (lB M (k : Int) = 17) := af (by unfold lB; rw [if_pos e, show M.dev (k : Int) = x from hx, hg, if_neg (by decide)]);have HL : Hid (∀ w', Below w.heap.size w w' -> Left (ce D) w p v Fs ps M.ds.length (i9 M (k : Int)) w') := af (fun w' hb => Left.qa h hb (by unfold i9; rw [HE.out, if_neg (by decide)]));have HG := af hg;clear e h hat hx hdk h0 hg hq;go_enter func24, ntmps24;go_wp2_with fail;refine HO.out.mono ?_;rintro e w1 ⟨rfl, rfl⟩;go_wp2_with fail;refine HD.out.mono ?_;rintro e w2 ⟨rfl, hb⟩;rw [HG.out];have HBB := af hb;clear hb;go_wp2_with fail;go_ret;exact ⟨br HE.out.symm, HL.out _ HBB⟩
  ·have HE : Hid (lB M (k : Int) = 0) := af (by unfold lB; rw [if_pos e, show M.dev (k : Int) = x from hx, hg, if_pos rfl]);have HS : Hid (i9 M (k : Int) = M.put k ⟨List.replicate x.S.length aE, [], false⟩) := af (by unfold i9; rw [HE.out, if_pos rfl, show M.dev (k : Int) = x from hx]; rfl);have HG := af hg;have hS1 := (D.fit hat).2;have hS2 := D.cap hat
   obtain ⟨g, c, rfl, hc1, hc2⟩ := h.slice;have HH := af h;have HAT := af hat
   clear e h hat hx hdk h0 hg hq hc1 hc2;go_enter func24, ntmps24;go_wp2_with fail;refine HO.out.mono ?_;rintro e w1 ⟨rfl, rfl⟩;go_wp2_with fail;refine HD.out.mono ?_;rintro e w2 ⟨rfl, hb⟩;rw [HG.out];have HBB := af hb;clear hb;go_wp2_with fail;refine (D.fI (D.below HAT HBB)).mono ?_;rintro e w3 ⟨rfl, hb⟩;have HB3 := af (HBB.out.trans (hb.mono HBB.out.size));clear hb;go_wp2_with fail;refine (D.new_ok x.S.length w3 hS1 hS2).mono ?_;rintro e w4 ⟨p', F', rfl, hd4, hb4, hF4⟩;have hb4' := HB3.out.trans (hb4.mono HB3.out.size);have h4 := HH.out.below hb4';have hF4' : ∀ b, F' b -> w.heap.size <= b := fun b hb => ap HB3.out.size (hF4 b hb)
   have HSW := af (HH.out.swap hk hb4' hF4' (d := ⟨List.replicate x.S.length aE, [], false⟩) hd4);have HB4 := af hb4';have HF4 := af hF4';obtain ⟨c0, c1, c2, c3⟩ := h4.iK;have ck := h4.cell hk;have fk := h4.frozen k;have HGL := af (HH.out.row.ie g rfl);clear hd4 hb4 hF4 hb4' h4 hF4';go_wp2_with fail;go_ret;refine ⟨br HE.out.symm, ?_⟩;rw [HS.out];refine ⟨_, _, HSW, ((Only.of_below _ HB4).setCell (p := ⟨g, k, none⟩) (.inl (.inr (.inl rfl))) _), fun b hb => ?_⟩;rcases hb with e | e | ⟨j, hj, e | e⟩
   ·exact .inl (.inl e)
   ·exact .inl (.inr (.inl e))
   ·exact .inr (HF4.out b e.2)
   ·exact .inl (.inr (.inr ⟨j, by rwa [M.lc] at hj, e.2⟩))
 ·have HA : Hid (lB M d = ec M d) := af (by unfold lB; rw [if_neg h0]);have HL : Hid (∀ w', Below w.heap.size w w' -> Left (ce D) w p v Fs ps M.ds.length (i9 M d) w') := af (fun w' hb => Left.qa h hb (by unfold i9; rw [HA.out, if_neg h0]));have HO := af (mo h h0);clear h;rw [HA.out];rcases dN M d with ⟨e, _⟩ | ⟨e, _⟩ | ⟨e, _⟩
  rotate_right 1
  ·exact absurd e h0
  all_goals
   rw [e] at HO ⊢;clear e h0;go_enter func24, ntmps24;go_wp2_with fail;refine HO.out.mono ?_;rintro e w1 ⟨rfl, rfl⟩;go_wp2_with fail;go_ret;exact ⟨rfl, HL.out _ ak⟩
def wr3 (w : World) (n : Int) (b : Blk) (q : Option Addr) : World := ((w.alloc (.cells #[.int .i64 n] 3)).alloc (.cells (cel b).toArray 64)).alloc (.cells #[.pointer q] 80)
theorem nq (w : World) (n : Int) (b : Blk) (q : Option Addr) : Below w.heap.size w (wr3 w n b q) /\ (wr3 w n b q).heap[w.heap.size]? = some (.cells #[.int .i64 n] 3) /\ (wr3 w n b q).heap[w.heap.size + 1]? = some (.cells (cel b).toArray 64) /\ (wr3 w n b q).heap[w.heap.size + 1 + 1]? = some (.cells #[.pointer q] 80) /\ (wr3 w n b q).heap.size = w.heap.size + 1 + 1 + 1 := by
 unfold wr3;have e1 := World.size_alloc (w := w) (o := .cells #[.int .i64 n] 3);have e2 := World.size_alloc (w := w.alloc (.cells #[.int .i64 n] 3)) (o := .cells (cel b).toArray 64);have e3 := World.size_alloc (w := (w.alloc (.cells #[.int .i64 n] 3)).alloc (.cells (cel b).toArray 64)) (o := .cells #[.pointer q] 80);have n1 := ox w #[.int .i64 n] 3;have n2 := ox (w.alloc (.cells #[.int .i64 n] 3)) (cel b).toArray 64;have n3 := ox ((w.alloc (.cells #[.int .i64 n] 3)).alloc (.cells (cel b).toArray 64)) #[.pointer q] 80;rw [e2, e1] at n3;rw [e1] at n2;refine ⟨(((Below.refl _ w).alloc aj _).alloc (by omega) _).alloc (by omega) _, cE (cE n1 _) _, cE n2 _, n3, by omega⟩
theorem akc {q a b c : Nat} {n : Int} {x : Blk} {F : Nat -> Prop} {S : List Blk} {L : List (Int × Blk)} {g : Bool} (h : D.Dv w F q S L g) (hL : L.length < 1000000) (hq : w.heap[a]? = some (.cells #[.pointer (some ⟨q, 0, none⟩)] 80)) (hn : w.heap[b]? = some (.cells #[.int .i64 n] 3)) (hx : w.heap[c]? = some (.cells (cel x).toArray 64)) :
  Calls prog 169 #[.pointer (some ⟨a, 0, none⟩), .pointer (some ⟨b, 0, none⟩), .pointer (some ⟨c, 0, none⟩)] w fun e w' => e = .returned (.int .i64 (dm S g n)) /\ ∃ F', D.Dv w' F' q S (wrL S L g n x) g /\ Only F w w' /\ Grow w F F' := by
 obtain ⟨c1, f1⟩ := one_cell hq;obtain ⟨c2, f2⟩ := one_cell hn;have HR := af (jT hx);have HD := af (D.write n x hL h);clear h hq hn hx;go_enter func169, ntmps169;go_wp2_with (first | (refine ax rfl (aU rfl rfl HR) ?_) | fail);refine HD.out.mono ?_;rintro e w4 ⟨rfl, F', g1, g2, g3⟩;go_wp2_with fail;go_ret;exact ⟨rfl, F', g1, g2, g3⟩
theorem tU (d n : Int) (x : Blk) (h : bz (ce D) w p v Fs ps M) (h0 : ec M d ≠ 0) :
  Calls prog 121 #[.pointer (some ⟨p, 0, none⟩), .int .i64 d, .int .i64 n, blk x] w fun e w' => e = .returned (.int .i64 (ec M d)) /\ Below w.heap.size w w' := by
 have hA : Below w.heap.size w ((w.alloc (.cells #[.int .i64 n] 3)).alloc (.cells (cel x).toArray 64)) := ((Below.refl _ w).alloc aj _).alloc (by rw [World.size_alloc]; omega) _;have HO := af (mo (h.below hA) h0);have HF := af (nq w n x none).1;clear h hA;rcases dN M d with ⟨e, _⟩ | ⟨e, _⟩ | ⟨e, _⟩
 rotate_right 1
 ·exact absurd e h0
 all_goals
  rw [e] at HO ⊢;clear e h0;go_enter func121, ntmps121;go_wp2_with (first | (refine ax rfl (bW rfl rfl) ?_) | fail);refine HO.out.mono ?_;rintro e w1 ⟨rfl, rfl⟩;go_wp2_with fail;go_ret;exact ⟨rfl, HF⟩
end
section
variable {D : Dev} {w w' : World} {p : Nat} {v : Value} {Fs : Nat -> Nat -> Prop} {ps : List Nat} {M : aK}
theorem tG (n : Int) (x : Blk) (h : bz (ce D) w p v Fs ps M) {k : Nat} (hdk : M.dx = false) (hk : k < M.ds.length) (he : dm (M.ds.getD k ch).S (M.ds.getD k ch).g n ≠ 0) :
  Calls prog 121 #[.pointer (some ⟨p, 0, none⟩), .int .i64 k, .int .i64 n, blk x] w fun e w' => e = .returned (.int .i64 (dm (M.ds.getD k ch).S (M.ds.getD k ch).g n)) /\ Below w.heap.size w w' := by
 obtain ⟨y, hy⟩ : ∃ y, M.ds.getD k ch = y := ⟨_, rfl⟩;obtain ⟨q, hq⟩ : ∃ q, ps.getD k 0 = q := ⟨_, rfl⟩;have hA : Below w.heap.size w ((w.alloc (.cells #[.int .i64 n] 3)).alloc (.cells (cel x).toArray 64)) := ((Below.refl _ w).alloc aj _).alloc (by rw [World.size_alloc]; omega) _;have HO := af (jR (h.below hA) hdk hk);obtain ⟨hB, k0, k1, k2, hsz⟩ := nq w n x (some ⟨q, 0, none⟩);have hat := (h.below hB).ey.at_ k hk;rw [hy, hq] at hat
 rw [hy] at he ⊢;rw [hq] at HO;have HD := af (D.sure n hat);have HB := af hB;obtain ⟨c0, f0⟩ := one_cell k0;obtain ⟨c2, f2⟩ := one_cell k2;rcases ft (S := y.S) (g := y.g) (n := n) with e | e | ⟨e, _⟩
 rotate_right 1
 ·exact absurd e he
 all_goals
  rw [e] at HD ⊢;clear e he h hA hB k0 k1 k2 hat hy hq hdk;go_enter func121, ntmps121;unfold wr3 at *;go_wp2_with (first | (refine ax rfl (bW rfl rfl) ?_) | fail);refine HO.out.mono ?_;rintro e w1 ⟨rfl, rfl⟩;go_wp2_with fail;refine HD.out.mono ?_;rintro e w2 ⟨rfl, hb⟩;have HBB := af (HB.out.trans (hb.mono (by rw [hsz]; omega)));clear hb;go_wp2_with (first | (refine ax rfl (aV rfl) ?_) | (refine aW rfl (jL rfl rfl rfl) ?_) | fail);go_ret;exact ⟨rfl, HBB.out.alloc HBB.out.size _⟩
theorem wV (n : Int) (x : Blk) (h : bz (ce D) w p v Fs ps M) {k : Nat} (hdk : M.dx = false) (hk : k < M.ds.length) (he : dm (M.ds.getD k ch).S (M.ds.getD k ch).g n = 0) (hs : M.steps < 1000000) (hll : M.left < 9223372036854775808) (hL : (M.ds.getD k ch).L.length < 1000000) :
  Calls prog 121 #[.pointer (some ⟨p, 0, none⟩), .int .i64 k, .int .i64 n, blk x] w fun e w' => e = .returned (.int .i64 M.eQ) /\ Left (ce D) w p v Fs ps M.ds.length (eS M (k : Int) n x) w' := by
 obtain ⟨y, hy⟩ : ∃ y, M.ds.getD k ch = y := ⟨_, rfl⟩;obtain ⟨q, hq⟩ : ∃ q, ps.getD k 0 = q := ⟨_, rfl⟩;have hA : Below w.heap.size w ((w.alloc (.cells #[.int .i64 n] 3)).alloc (.cells (cel x).toArray 64)) := ((Below.refl _ w).alloc aj _).alloc (by rw [World.size_alloc]; omega) _;have HO := af (jR (h.below hA) hdk hk);obtain ⟨hB, k0, k1, k2, hsz⟩ := nq w n x (some ⟨q, 0, none⟩);have hat := (h.below hB).ey.at_ k hk;have hr0 : cM M (k : Int) n = 0 := by unfold cM; rw [if_pos (sn hdk hk), M.ji]; exact he
 rw [hy, hq] at hat
 rw [hy] at he hL;rw [hq] at HO;have HD := af (D.sure n hat);have HB := af hB;have HH := af h;have HK0 := af k0;have HK1 := af k1;have HK2 := af k2;have HE := af he;have HSS := af hs;have HLL := af hll;have HL := af hL;have HY := af hy;have HQ := af hq;have HR := af hr0;obtain ⟨c0, f0⟩ := one_cell k0;obtain ⟨c2, f2⟩ := one_cell k2;rw [he] at HD;by_cases h1 : M.left = 1
 all_goals
  have H1 := af h1;clear h1 he h hA hB k0 k1 k2 hat hy hq hdk hs hll hL hr0;go_enter func121, ntmps121;unfold wr3 at *;go_wp2_with (first | (refine ax rfl (bW rfl rfl) ?_) | fail);refine HO.out.mono ?_;rintro e w1 ⟨rfl, rfl⟩;go_wp2_with fail;refine HD.out.mono ?_;rintro e w2 ⟨rfl, hb⟩;have hb2 := HB.out.trans (hb.mono (by rw [hsz]; omega));have HBB := af (hb2.alloc hb2.size (.cells (cel (gp y.S y.g n)).toArray 64));have HA0 := af (cE (cC HK0 hb) (.cells (cel (gp y.S y.g n)).toArray 64));have HA1 := af (cE (cC HK1 hb) (.cells (cel (gp y.S y.g n)).toArray 64));have HA2 := af (cE (cC HK2 hb) (.cells (cel (gp y.S y.g n)).toArray 64));clear hb hb2 c0 c2 f0 f2 hsz;generalize gp y.S y.g n = z at *;go_wp2_with (first | (refine ax rfl (aV rfl) ?_) | (refine aW rfl (jL rfl rfl rfl) ?_) | fail);generalize w2.alloc (.cells (cel z).toArray 64) = w3 at *
 ·refine (pF _ (HH.out.below HBB) H1).mono ?_;rintro e w4 ⟨rfl, h4, ho4⟩;go_wp2_with fail;go_ret;refine ⟨br (by unfold aK.eQ; rw [if_pos H1.out]), ?_⟩;rw [show eS M (k : Int) n x = M.night from by unfold eS; rw [if_pos HR.out, if_pos H1.out]];exact Left.above HBB (Left.obj h4 ho4 rfl)
 ·refine (rX 169 #[] _ (HH.out.below HBB) H1 HSS HLL call169 (fun z w4 => z = 0 /\ Left (ce D) w3 p v Fs ps M.ds.length (eS M (k : Int) n x) w4) ?_).mono ?_
  ·intro w4 h4 ho4;have hat4 := h4.ey.at_ k hk;rw [show M.done.ds.getD k ch = y from HY.out, HQ.out] at hat4;have hne : ∀ j, j < 3 -> w.heap.size + j ≠ p := fun j _ e => by have := aR HH.out.at_; omega
   refine (akc hat4 HL (ho4.keep HA2 (hne 2 (by omega))) (ho4.keep HA0 (hne 0 (by omega))) (ho4.keep HA1 (hne 1 (by omega)))).mono ?_;rintro e w5 ⟨he5, F', g1, g2, g3⟩;refine ⟨_, he5, HE, Left.behind ho4 (Left.turn h4 hk g2 g3 (d := ⟨y.S, wrL y.S y.L y.g n x, y.g⟩) (show D.Dv _ _ _ _ _ _ by rw [HQ.out]; exact g1) ?_)⟩;unfold eS;rw [if_pos HR.out, if_neg H1.out, show M.dev (k : Int) = y from HY.out]
   rfl
  ·rintro e w5 ⟨z, rfl, rfl, hl5⟩;have HL5 := af (Left.above HBB hl5);clear hl5;go_wp2_with fail;go_ret;exact ⟨br (by unfold aK.eQ; rw [if_neg H1.out]), HL5⟩
theorem afw (d n : Int) (x : Blk) (h : bz (ce D) w p v Fs ps M) (hr : ∀ i, i < M.ds.length -> (M.ds.getD i ch).L.length < 1000000) (hs : M.steps < 1000000) (hll : M.left < 9223372036854775808) :
  Calls prog 121 #[.pointer (some ⟨p, 0, none⟩), .int .i64 d, .int .i64 n, blk x] w fun e w' => e = .returned (.int .i64 (f9 M d n)) /\ Left (ce D) w p v Fs ps M.ds.length (eS M d n x) w' := by
 by_cases h0 : ec M d = 0
 ·rcases dN M d with ⟨e, _⟩ | ⟨e, _⟩ | ⟨e, hdk, k, rfl, hk⟩
  ·omega
  ·omega
  have hr0 : cM M (k : Int) n = dm (M.ds.getD k ch).S (M.ds.getD k ch).g n := by unfold cM; rw [if_pos e, M.ji]
  by_cases he : dm (M.ds.getD k ch).S (M.ds.getD k ch).g n = 0
  ·refine (wV n x h hdk hk he hs hll (hr k hk)).mono ?_;rintro e w' ⟨rfl, hl⟩;exact ⟨by unfold f9; rw [hr0, if_pos he], hl⟩
  ·refine (tG n x h hdk hk he).mono ?_;rintro e w' ⟨rfl, hb⟩;exact ⟨by unfold f9; rw [hr0, if_neg he], Left.qa h hb (by unfold eS; rw [hr0, if_neg he])⟩
 ·refine (tU d n x h h0).mono ?_;rintro e w' ⟨rfl, hb⟩;have hr0 : cM M d n = ec M d := by unfold cM; rw [if_neg h0]
  exact ⟨by unfold f9; rw [hr0, if_neg h0], Left.qa h hb (by unfold eS; rw [hr0, if_neg h0])⟩
end
section
variable {D : Dev} {w w' : World} {p : Nat} {v : Value} {Fs : Nat -> Nat -> Prop} {ps : List Nat} {M : aK}
theorem ae7 {A : Option Addr} {n c : Nat} {P : List Int} (h : bz (ce D) w p v Fs ps M) (hP : Pk w (fc p v Fs M.ds.length) A n c P) :
  Calls prog 18 #[.pointer (some ⟨p, 0, none⟩), .slice A n c] w fun e w' => e = .returned (.int .i64 0) /\ Left (ce D) w p v Fs ps M.ds.length (vH M P) w' := by
 have hm := af (sW h);obtain ⟨g, cc, rfl, _, hcm⟩ := h.slice;obtain ⟨c0, c1, c2, c3⟩ := h.iK;unfold maxLen at hcm;have HH := af h;have HP := af hP;have hlen : M.ds.length <= 17 := h.cap;clear h hP;go_enter func18, ntmps18;go_wp2_with fail;refine hm.out.mono ?_;rintro e w1 ⟨rfl, rfl⟩;go_wp2_with fail;clear c0 c1 c2 c3
 go_loopw [1, 17] (fun pk i wr => ∃ (j : Nat) (A' : Option Addr) (n' c' : Nat) (Fs' : Nat -> Nat -> Prop), j <= M.ds.length /\ i = .int .i64 j /\ pk = .slice A' n' c' /\ Pk w (fc p (.slice (some ⟨g, 0, none⟩) M.ds.length cc) Fs M.ds.length) A' n' c' (d5 M.ds P j).2 /\ gh (ce D) w wr p (.slice (some ⟨g, 0, none⟩) M.ds.length cc) Fs ps M P j Fs') (fun _ i _ => M.ds.length - (intOf i).toNat)
 case atStart => exact ⟨0, A, n, c, Fs, Nat.zero_le _, rfl, rfl, by rw [show (d5 M.ds P 0).2 = P from by rw [d5]]; exact HP, gh.zero HH P⟩
 case round =>
  obtain ⟨j, A', n', c', Fs', hj, rfl, rfl, hpk, hct⟩ := hrel;by_cases hlt : j < M.ds.length
  ·have hlj : (j : Int) < (M.ds.length : Int) := by omega
   have hcell : wr.cell? ⟨g, j, none⟩ = some (.pointer (some ⟨ps.getD j 0, 0, none⟩)) := by
    have h1 := hct.1;have hl : (d5 M.ds P j).1.length = M.ds.length := g8 j M.ds P;have h2 : bz (ce D) wr p (.slice (some ⟨g, 0, none⟩) (⟨(d5 M.ds P j).1, M.left, M.dx, M.steps⟩ : aK).ds.length cc) Fs' ps ⟨(d5 M.ds P j).1, M.left, M.dx, M.steps⟩ := by
     rw [show (⟨(d5 M.ds P j).1, M.left, M.dx, M.steps⟩ : aK).ds.length = M.ds.length from hl]; exact h1
    exact h2.cell (by show j < (d5 M.ds P j).1.length; rw [hl]; exact hlt)
   obtain ⟨x, hx⟩ : ∃ x, M.ds.getD j ch = x := ⟨_, rfl⟩;obtain ⟨Q, hQ⟩ : ∃ Q, (d5 M.ds P j).2 = Q := ⟨_, rfl⟩;have hdv := hct.dev hlt;rw [hx] at hdv;rw [hQ] at hpk;have hnx := (k9 j M.ds P hlt).2;rw [hx, hQ] at hnx;have hrd := hpk.only hct.2.1;have HC := af (D.kL hrd hpk.le hpk.cap (hpk.grown (w' := w) fun b hb => hct.2.2 b (.inr (.inr ⟨j, hlt, hb⟩))) hdv);have HCT := af hct;have HPK := af hpk;have HX := af hx;have HQ := af hQ;have HNX := af hnx;have hql : (min x.L.length n' : Nat) <= n' := Nat.min_le_right _ _;have hpl := hpk.len;have HPL := af hpl;clear hx hQ hdv hrd hct hpk hnx hpl;generalize hqq : ps.getD j 0 = q at *;have HQQ := af hqq;clear hqq;generalize hmm : min x.L.length n' = m at *;have HMM := af hmm;clear hmm;go_wp2_with fail;refine HC.out.mono ?_;rintro e w2 ⟨rfl, F'', g1, g2, g3⟩;go_wp2_with (first | (refine ax rfl (p4 rfl rfl rfl hql) ?_) | fail);go_roundw
   case rel => exact ⟨j + 1, _, _, _, _, by omega, by go_num, rfl, by rw [HNX.out, HPL.out, HMM.out]; exact HPK.out.tail hql, HCT.out.next hlt g2 g3 (by rw [HQQ.out, HX.out, HQ.out]; exact g1)⟩
   case measure => simp [intOf]; omega
  ·have hjn : j = M.ds.length := by omega
   subst hjn;have hlj : ¬((M.ds.length : Int) < (M.ds.length : Int)) := by omega
   have h1 := hct.1;rw [jz] at h1;obtain ⟨c0, c1, c2, c3⟩ := h1.iK;have f3 := frozen_of_row wr p 3 _ _ h1.at_;have f2 := frozen_of_row wr p 2 _ _ h1.at_;have HH1 := af h1;have HCT := af hct;clear h1 hct hpk;go_wp2_with fail;go_ret;have ho : Only (fun b => b = p) wr ((wr.setCell ⟨p, 3, none⟩ (.bool false)).setCell ⟨p, 2, none⟩ (.int .i64 0)) := (dt wr p 3 (.bool false)).setCell (p := ⟨p, 2, none⟩) (.inl rfl) (.int .i64 0);have h3 := heap_setCell_same _ p 2 _ _ (.int .i64 0) (heap_setCell_same wr p 3 _ _ (.bool false) HH1.out.at_);refine ⟨rfl, Fs', ps, HH1.out.obj 0 false M.steps ho (by simpa [ce] using h3), HCT.out.2.1.trans ho fun b hb => .inl (.inl hb), ?_⟩;have hl : (fR M.ds P).length = M.ds.length := by rw [<- jz, g8]
   show Grow w _ (fc p _ Fs' (fR M.ds P).length)
   rw [hl];exact HCT.out.2.2
end
section
variable {D : Dev} {w w' : World}
theorem ajy {A : Option Addr} {n c : Nat} {ks : List Int} (hl : RdE dw w w.heap.size A n ks) (hnc : n <= c) (hc : c <= maxLen) :
  Calls prog 9 #[.slice A n c] w (fH (ce D) w ks) := by
 have hlen : ks.length = n := hl.1;unfold maxLen at hc;by_cases h1 : n < 1
 ·have HN := af (show ¬ jK ks from fun h => by have := h.1; omega);have h0 : n = 0 := by omega
  subst h0;clear hl hlen h1;go_enter func9, ntmps9;go_wp2;go_ret2;exact fH.no ak HN rfl
 by_cases h2 : 17 < n
 ·have HN := af (show ¬ jK ks from fun h => by have := h.2.1; omega);have h1' : ¬((n : Int) < 1) := by omega
  have h2' : ((n : Int) > 17) := by omega
  clear hl hlen h1 h2;go_enter func9, ntmps9;go_wp2;go_ret2;exact fH.no ak HN rfl
 have h1' : ¬((n : Int) < 1) := by omega
 have h2' : ¬((n : Int) > 17) := by omega
 have h3' : ¬(17 < (n : Int)) := by omega
 have HL := af hl;have HLEN := af hlen;have HMK := af (show Making (ce D) w (w.alloc (.cells #[.slice none 0 0, .int .i64 0, .int .i64 0, .bool false] 79)) (.slice none 0 0) (fun _ _ => False) [] [] 0 false 0 from
  ⟨heap_alloc_new w _, aO.nil _ _, ⟨rfl, fun i hi => absurd hi (Nat.not_lt_zero i), fun i j hi => absurd hi (Nat.not_lt_zero i)⟩, fun i hi => absurd hi (Nat.not_lt_zero i), (Below.refl _ w).alloc aj _⟩)
 clear hl hlen;go_enter func9, ntmps9;go_wp2_with fail;generalize w.alloc (.cells #[.slice none 0 0, .int .i64 0, .int .i64 0, .bool false] 79) = w0 at *;clear h1' h2' h3'
 go_loopw [21] (fun i wr => ∃ (j : Nat) (v : Value) (Fs : Nat -> Nat -> Prop) (ps : List Nat), j <= n /\ i = .int .i64 j /\ Making (ce D) w wr v Fs ps ((ks.take j).map qp) 0 false 0 /\ ∀ q, q < j -> 1 <= ks.getD q 0 /\ ks.getD q 0 <= 512) (fun i _ => n - (intOf i).toNat)
 case atStart => exact ⟨0, _, _, _, Nat.zero_le _, rfl, HMK, fun q hq => absurd hq (Nat.not_lt_zero q)⟩
 case round =>
  obtain ⟨j, v, Fs, ps, hj, rfl, hmk, hall⟩ := hrel;have HALL := af hall;clear hall HMK;by_cases hlt : j < n
  ·have hlj : (j : Int) < (n : Int) := by omega
   obtain ⟨bA, oA, rfl, hbA, hcA⟩ := (HL.out.below hmk.below).int hlt;have HM := af hmk;obtain ⟨AS, cS, rfl, hs1, hs2⟩ := hmk.row.form;unfold maxLen at hs2;have hpl : ps.length = j := by have := hmk.ey.len; rw [List.length_map, List.length_take] at this; have := HLEN.out; omega
   have HPL := af hpl;obtain ⟨z, hz⟩ : ∃ z, ks.getD j 0 = z := ⟨_, rfl⟩;rw [hz] at hcA;have HZ := af hz;clear hmk hz hpl;by_cases hok : 1 <= z /\ z <= 512
   ·obtain ⟨k, rfl⟩ : ∃ k : Nat, z = k := ⟨z.toNat, by omega⟩;have hk1 : 1 <= k := by omega
    have hk2 : k <= 512 := by omega
    clear hok;go_wp2_with fail;refine (D.new_ok k wr hk1 hk2).mono ?_;rintro e w1 ⟨p', F', rfl, hd1, hb1, hF1⟩;have hat1 := cC HM.out.at_ hb1;obtain ⟨c0, c1, c2, c3⟩ := dQ hat1;have hrow1 := HM.out.row.below hb1;have hrow2 := hrow1.below ((Below.refl _ w1).alloc aj (.cells ((ce D).E.cel p').toArray (ce D).E.t));have HR := af hrow2;have HNEW := af (fp (E := (ce D).E) (l := [p']) w1 ((ce D).E.cel p').toArray (ce D).E.t (by rw [eH]; simp [bY]));have HSZ := af (show w.heap.size <= (w1.alloc (.cells ((ce D).E.cel p').toArray (ce D).E.t)).heap.size by rw [World.size_alloc]; have := HM.out.below.size; have := hb1.size; omega);have HD1 := af hd1;have HB1 := af hb1;have HF1 := af hF1;have HAT := af hat1;have HPS := af (show ps.length + 1 <= 34359738368 by have := HPL.out; omega);clear hd1 hb1 hF1 hat1 hrow1 hrow2;have hal : w.heap.size < w1.heap.size := aR HAT;go_wp2_with (first | (refine ax rfl (dZ (E := (ce D).E) (a := p') rfl rfl rfl (by decide)) ?_) | (at_builtin; refine ku (ce D).E rfl _ _ rfl w.heap.size _ _ _ _ ps [p'] _ rfl rfl HR HNEW HSZ HPS ?_) | fail);intro v' w3 hm3 hg3 ho3;have hxv : v'.ownBlock ≠ some w.heap.size := fun e => by
     rcases ho3 _ e with e' | e'
     ·exact HM.out.row.dl HM.out.at_ (ce D).ne e'
     ·omega
    have HNX := af (HM.out.next (fun _ _ => rfl) HB1 HF1 (d := qp k) HD1 hm3 hg3 ho3);have hvx : (Value.slice AS ps.length cS).ownBlock ≠ some w.heap.size := HM.out.row.dl HM.out.at_ (ce D).ne;have hat3 : w3.heap[w.heap.size]? = some _ := (hg3.block w.heap.size (by rw [World.size_alloc]; omega) (fun e => hvx e.symm)).trans (cE HAT _);obtain ⟨AV, cV, rfl, _, _⟩ := hm3.form;obtain ⟨d0, d1, d2, d3⟩ := dQ hat3;have f0 := frozen_of_row w3 w.heap.size 0 _ _ hat3;clear hm3 hg3 ho3 hat3 c0 c1 c2 c3;go_wp2_with fail;go_roundw
    case rel =>
     refine ⟨j + 1, .slice AV (ps.length + 1) cV, upF Fs (List.map qp (List.take j ks)).length F', ps ++ [p'], by omega, by go_num, ?_, fun q hq => ?_⟩
     ·rw [lH (by have := HLEN.out; omega), HZ.out];have h6 := HNX.out;rw [show (ps ++ [p']).length = ps.length + 1 from by simp] at h6;exact h6
     ·by_cases e : q = j
      ·subst e; rw [HZ.out]; omega
      ·exact HALL.out q (by omega)
    case measure => simp [intOf]; omega
   ·have HB := af HM.out.below;have HN := af (show ¬ jK ks from fun h => hok (by have := h.2.2 z (by rw [<- HZ.out]; exact jG (by have := HLEN.out; omega)); exact this));go_wp2_with fail;refine (D.new_no z wr hok).mono ?_;rintro e w1 ⟨rfl, hb1⟩;have HB1 := af (HB.out.trans (hb1.mono HB.out.size));clear hb1 hok;go_wp2_with fail;go_ret2;exact fH.no HB1 HN rfl
  ·have hjn : j = n := by omega
   subst hjn;have hlj : ¬((j : Int) < (j : Int)) := by omega
   have HM := af hmk;clear hmk;go_wp2_with fail;go_ret2;have h5 := HM.out;have hLL := HLEN.out;rw [<- hLL, List.take_length] at h5;obtain ⟨g1, g2, g3⟩ := h5.done (by rw [List.length_map]; omega) (by rw [List.length_map]; omega);refine ⟨g3, .inl ⟨⟨by omega, by omega, fun k hk => ?_⟩, _, _, _, _, rfl, g1, g2⟩⟩;obtain ⟨i, hi, rfl⟩ := List.getElem_of_mem hk;have := HALL.out i (by omega);rwa [List.getD_eq_getElem?_getD, List.getElem?_eq_getElem hi] at this
end
def ajF : abL where
 read := 104
 write := 121
 flush := 118
 fail := 22
 insert := 24
 arm := 16
 kL := 18
 sure := 33
 rot := 20
 fI := 103
 dx := 37
 steps := 35
theorem Dev.ai4 {D : Dev} {w : World} {p : Nat} {v : Value} {Fs : Nat -> Nat -> Prop} {ps : List Nat} {M : aK} (h : bz (ce D) w p v Fs ps M) : M.Wf :=
 ⟨h.one, h.cap, fun i hi => ⟨(D.fit (h.ey.at_ i hi)).2, D.cap (h.ey.at_ i hi)⟩⟩
def akN (D : Dev) : Ben ajF where
 Bn := InB (ce D)
 lt := InB.lt
 only := InB.only
 wf := fun ⟨_, _, _, _, h⟩ => D.ai4 h
 read := fun d n ⟨_, _, _, _, h⟩ => ahg d n h
 sure := fun d n ⟨_, _, _, _, h⟩ => ahk d n h
 write := fun d n b hr ⟨_, _, _, e, h⟩ => by
  subst e;exact (afw d n b h (fun i hi => hr.at_ hi) (by have := hr.1; omega) hr.2.1).mono fun e w' ⟨h1, h2⟩ => ⟨h1, h2.out⟩
 flush := fun d hr ⟨_, _, _, e, h⟩ => by
  subst e;exact (aez d h (by have := hr.1; omega) hr.2.1).mono fun e w' ⟨h1, h2⟩ => ⟨h1, h2.out⟩
 fail := fun d ⟨_, _, _, e, h⟩ => by
  subst e;exact (aip d h).mono fun e w' ⟨h1, h2⟩ => ⟨h1, h2.out⟩
 insert := fun d ⟨_, _, _, e, h⟩ => by
  subst e;exact (adF d h).mono fun e w' ⟨h1, h2⟩ => ⟨h1, h2.out⟩
 arm := fun {w F p M} n ⟨_, _, _, e, h⟩ => by
  subst e;exact (aj5 n h).mono fun e w' ⟨h1, h2, h3⟩ => ⟨h1, (Left.obj h2 h3 (by unfold iv; split <;> rfl)).out⟩
 kL := fun hP ⟨_, _, _, e, h⟩ => by
  subst e;exact (ae7 h hP).mono fun e w' ⟨h1, h2⟩ => ⟨h1, h2.out⟩
 rot := fun d n i u ⟨_, _, _, e, h⟩ => by
  subst e;exact (ajQ d n i u h).mono fun e w' ⟨h1, h2⟩ => ⟨h1, h2.out⟩
 fI := fun d ⟨_, _, _, _, h⟩ => zT d h
 dx := fun ⟨_, _, _, _, h⟩ => (vJ h).mono fun e w' ⟨h1, h2⟩ => ⟨h1, fQ h2⟩
 steps := fun ⟨_, _, _, _, h⟩ => (ae2 h).mono fun e w' ⟨h1, h2⟩ => ⟨h1, fQ h2⟩
theorem fH.hid {k : gY} {w w' : World} {ks : List Int} {e : Ending} (h : fH k w ks e w') : ahf (InB k) w ks e w' := by
 obtain ⟨h1, h | h⟩ := h
 ·obtain ⟨h0, p, v, Fs, ps, h2, h3, h4⟩ := h;exact ⟨h1, .inl ⟨h0, p, _, h2, ⟨v, Fs, ps, rfl, h3⟩, h4⟩⟩
 ·exact ⟨h1, .inr h⟩
structure aeC extends Ben ajF where
 new : ∀ {w A n c ks}, RdE dw w w.heap.size A n ks -> n <= c -> c <= maxLen -> Calls prog 9 #[.slice A n c] w (ahf Bn w ks)
def bX : aeC where
 toBen := akN ahP
 new := fun h1 h2 h3 => (ajy h1 h2 h3).mono fun _ _ h => h.hid
end Go.Proofs.YtcpbekopbeaflaaGreatDoor
