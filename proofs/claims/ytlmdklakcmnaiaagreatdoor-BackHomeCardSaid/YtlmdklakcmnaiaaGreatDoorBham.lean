import Derived.Test.YtlmdklakcmnaiaaGreatDoorBhal
import Derived.Shelf.Sort.Plain
import Derived.Shelf.Slices.In.SortNone
namespace Go.Proofs.YtlmdklakcmnaiaaGreatDoor
set_option maxHeartbeats 8000000
open Go.Proofs.Tryz
open Go.RowKit
open Go.Maps (Keyed)
set_option linter.unusedVariables false
set_option linter.unusedSimpArgs false
set_option maxRecDepth 100000
theorem aiy (w : World) : (zeroValue 87).run prog w = .ok (.pointer none) w := by kernel_rfl
section
variable {w w' : World} {b N : Nat} {M : Int -> Option Nat} {k : Int}
theorem dI.nA (h : dI w b N M) (hw : (Lit.int .i64 k).wf = true) : (Instr.lookup 53 (.map (some b)) (.int .i64 k) false).run prog w = .ok (ptO (M k)) w := by
 obtain ⟨D, h1, _, h3⟩ := h;obtain ⟨v, ps, hr, hv⟩ := h1.lookup fy underlying53 (aiy w) (zd := .nil) (zp := []) rfl (qw hw);rw [(h3 k hw).1] at hv;rw [hr, yR hv]
theorem dI.abf (h : dI w b N M) (hw : (Lit.int .i64 k).wf = true) (hn : M k = none) (hN : N < maxLen) (q : Nat) :
  ∃ w', (Instr.mapUpdate 53 (.map (some b)) (.int .i64 k) (.pointer (some ⟨q, 0, none⟩))).run prog w = .ok () w' /\ dI w' b (N + 1) (fun j => if j = k then some q else M j) /\ w.mapTurned w' b := by
 obtain ⟨D, h1, h2, h3⟩ := h;obtain ⟨w', hr, ho, ht⟩ := h1.store fy underlying53 hN (qw hw) (adw (some q));have hT := h1.tidy fy;have hk : WideAt.IsKeyLit (Lit.int .i64 k) := fy.key (qw hw);have hs : Maps.size (D.put (.int .i64 k) (ptD (some q))) = N + 1 := by
  rw [Maps.size_put hT, (h3 k hw).2, hn, h2]; rfl
 refine ⟨w', hr, ⟨_, by rw [<- hs]; exact lK ho, hs, fun j hj => ?_⟩, ht⟩;by_cases e : j = k
 ·subst e;dsimp only;rw [if_pos rfl, Maps.atKey_put_same hT.isMap hk, Maps.has_put_same hT.isMap hk];exact ⟨rfl, rfl⟩
 ·dsimp only;rw [if_neg e, Maps.atKey_put_other (jF e), Maps.has_put_other (jF e)];exact h3 j hj
theorem dI.aj1 (h : dI w b (N + 1) M) (hw : (Lit.int .i64 k).wf = true) (hn : (M k).isSome = true) (ty : TypeId) :
  ∃ w', (Builtin.delete_ #[53, 3] ty #[.map (some b), .int .i64 k]).run prog w = .ok (.tuple #[]) w' /\ dI w' b N (fun j => if j = k then none else M j) /\ w.mapTurned w' b := by
 obtain ⟨D, h1, h2, h3⟩ := h;obtain ⟨w', hr, ho, ht⟩ := h1.drop fy underlying53 (qw hw) ty;have hT := h1.tidy fy;have hs : Maps.size (D.del (.int .i64 k)) = N := by
  have := Maps.size_del (k := .int .i64 k) hT;rw [(h3 k hw).2, hn, h2] at this
  simpa using this
 refine ⟨w', hr, ⟨_, by rw [<- hs]; exact lK ho, hs, fun j hj => ?_⟩, ht⟩;by_cases e : j = k
 ·subst e;dsimp only;rw [if_pos rfl, Maps.atKey_del_same, Maps.has_del_same];exact ⟨rfl, rfl⟩
 ·dsimp only;rw [if_neg e, Maps.atKey_del_other (jF e), Maps.has_del_other (jF e)];exact h3 j hj
end
theorem fC {w w' : World} {b : Nat} {F : Nat -> Prop} (h : w.mapTurned w' b) (hF : F b) : Only F w w' := by
 have hg := h.grown;obtain ⟨es, c, es', c', hb, e⟩ := h;exact Only.grown (Only.refl _ _) hg fun j hj => by injection hj with hj; subst hj; exact .inl hF
def shC (N T : Nat) (r : Int) (lp mp : Nat) : List Value := [.int .i64 (N : Int), .int .i64 (T : Int), .int .i64 r, ptB lp, .map (some mp)]
def tO (w : World) : Option Nat -> Option LnS -> Prop
 |none, none => True
 |some b, some x => LnA w b (lf x) /\ dV x
 |_, _ => False
def mLn (m : Nat -> Option Nat) (k : Int) : Option Nat := if 0 <= k then m k.toNat else none
structure PRu (w : World) (t lp mp : Nat) (FL : Nat -> Prop) (L : List Ky) (c : Nat) (m : Nat -> Option Nat) (ln : Nat -> Option LnS) (N T room : Nat) (r : Int) : Prop where
 at_ : w.heap[t]? = some (.cells (shC N T r lp mp).toArray 55 (0, 0))
 li : PLF w FL lp room L
 map : dI w mp c (mLn m)
 ln : ∀ n, tO w (m n) (ln n)
 inj : ∀ i j b, m i = some b -> m j = some b -> i = j
 ap : ¬ FL t /\ ¬ FL mp /\ ∀ n b, m n = some b -> ¬ FL b
 lt : ∀ b, FL b -> b < w.heap.size
 may : dH (gx N T r) = true
def ql (t mp : Nat) (FL : Nat -> Prop) (m : Nat -> Option Nat) (b : Nat) : Prop := b = t \/ b = mp \/ FL b \/ ∃ n, m n = some b
def PSh (w : World) (S : Nat -> Prop) (t K : Nat) (s : ShS) : Prop := ∃ lp mp FL m r, PRu w t lp mp FL (kyL s.dty s.o) s.o.length m s.ln s.N s.T s.room r /\ bW s /\ S = ql t mp FL m
section
variable {w w' : World} {G FL : Nat -> Prop} {a : Option Nat} {x : Option LnS}
theorem tO.only (h : tO w a x) (hk : Only G w w') (hG : ∀ b, a = some b -> ¬ G b) : tO w' a x := by
 cases a <;> cases x
 ·exact h
 ·exact h
 ·exact h
 ·exact ⟨Only.keep hk h.1 (hG _ rfl), h.2⟩
theorem tO.some_ {y : LnS} (h : tO w a (some y)) : ∃ b, a = some b /\ LnA w b (lf y) /\ dV y := by
 cases a
 ·exact h.elim
 ·exact ⟨_, rfl, h.1, h.2⟩
theorem tO.none_ (h : tO w a none) : a = none := by
 cases a
 ·rfl
 ·exact h.elim
end
section
variable {w w' : World} {t lp mp c N T room n b : Nat} {FL G FL' : Nat -> Prop} {L L' : List Ky} {m : Nat -> Option Nat} {ln : Nat -> Option LnS} {r : Int}
theorem PRu.rng (h : PRu w t lp mp FL L c m ln N T room r) : w.rangeAt t 0 (shC N T r lp mp) := aQ h.at_
theorem PRu.c0 (h : PRu w t lp mp FL L c m ln N T room r) : w.cell? ⟨t, 0, none⟩ = some (.int .i64 (N : Int)) := h.rng 0 _ rfl
theorem PRu.c3 (h : PRu w t lp mp FL L c m ln N T room r) : w.cell? ⟨t, 3, none⟩ = some (ptB lp) := h.rng 3 _ rfl
theorem PRu.c4 (h : PRu w t lp mp FL L c m ln N T room r) : w.cell? ⟨t, 4, none⟩ = some (.map (some mp)) := h.rng 4 _ rfl
theorem PRu.geo (h : PRu w t lp mp FL L c m ln N T room r) : w.rangeAt t 0 [.int .i64 (N : Int), .int .i64 (T : Int), .int .i64 r] := fc (k := 0) (ds := []) (es := [.int .i64 (N : Int), .int .i64 (T : Int), .int .i64 r]) (fs := [ptB lp, .map (some mp)]) h.rng rfl rfl
theorem PRu.agQ (h : PRu w t lp mp FL L c m ln N T room r) : ∃ es q, w.heap[mp]? = some (.map es q) := h.map.obj
theorem PRu.lnb (h : PRu w t lp mp FL L c m ln N T room r) (hn : m n = some b) : ∃ y, ln n = some y /\ LnA w b (lf y) /\ dV y := by
 have := h.ln n;rw [hn] at this;cases e : ln n with
 |none => rw [e] at this; exact this.elim
 |some y => rw [e] at this; exact ⟨y, rfl, this.1, this.2⟩
theorem PRu.ne (h : PRu w t lp mp FL L c m ln N T room r) : t ≠ mp /\ ∀ n b, m n = some b -> b ≠ t /\ b ≠ mp := by
 obtain ⟨es, q, hm⟩ := h.agQ;refine ⟨fun e => ?_, fun n b hn => ⟨fun e => ?_, fun e => ?_⟩⟩
 ·have ha := h.at_;rw [e, hm] at ha;cases ha
 ·obtain ⟨y, _, hy, _⟩ := h.lnb hn;have ha := h.at_;unfold LnA at hy;rw [e, ha] at hy;injection hy with hy;injection hy with _ hy;exact absurd hy (by decide)
 ·obtain ⟨y, _, hy, _⟩ := h.lnb hn;unfold LnA at hy;rw [e, hm] at hy;cases hy
theorem PRu.size (h : PRu w t lp mp FL L c m ln N T room r) : ∀ b, ql t mp FL m b -> b < w.heap.size := by
 intro b hb;rcases hb with rfl | rfl | hb | ⟨n, hb⟩
 ·exact aU h.at_
 ·exact h.map.lt
 ·exact h.lt b hb
 ·obtain ⟨y, _, hy, _⟩ := h.lnb hb; exact hy.lt
theorem PRu.only (h : PRu w t lp mp FL L c m ln N T room r) (hk : Only G w w') (hG : ∀ b, ql t mp FL m b -> ¬ G b) : PRu w' t lp mp FL L c m ln N T room r :=
 ⟨Only.keep hk h.at_ (hG t (.inl rfl)), h.li.only hk fun b hb => hG b (.inr (.inr (.inl hb))), h.map.kept fun es q hb => Only.keep hk hb (hG mp (.inr (.inl rfl))), fun n => (h.ln n).only hk fun b hb => hG b (.inr (.inr (.inr ⟨n, hb⟩))), h.inj, h.ap, fun b hb => au (h.lt b hb) hk.size, h.may⟩
theorem PRu.below (h : PRu w t lp mp FL L c m ln N T room r) (hb : Below w.heap.size w w') : PRu w' t lp mp FL L c m ln N T room r := h.only (Only.of_below (fun _ => False) hb) fun _ _ e => e
theorem PRu.list (h : PRu w t lp mp FL L c m ln N T room r) (hk : Only FL w w') (hl : PLF w' FL' lp room L') (hF : ∀ b, FL' b -> FL b \/ w.heap.size <= b) (ht : ∀ b, FL' b -> b < w'.heap.size) : PRu w' t lp mp FL' L' c m ln N T room r := by
 have hs := h.size;have no : ∀ b, ql t mp FL m b -> ¬ FL b -> ¬ FL' b := fun b hb hn hb' => by
  rcases hF b hb' with e | e
  ·exact hn e
  ·have := hs b hb; omega
 exact ⟨Only.keep hk h.at_ h.ap.1, hl, h.map.kept fun es q hb => Only.keep hk hb h.ap.2.1, fun n => (h.ln n).only hk fun b hb => h.ap.2.2 n b hb, h.inj, ⟨no t (.inl rfl) h.ap.1, no mp (.inr (.inl rfl)) h.ap.2.1, fun n b hb => no b (.inr (.inr (.inr ⟨n, hb⟩))) (h.ap.2.2 n b hb)⟩, ht, h.may⟩
theorem PRu.line {y : LnS} (h : PRu w t lp mp FL L c m ln N T room r) (hn : m n = some b) (hk : Only (fun j => j = b) w w') (hl : LnA w' b (lf y)) (hy : dV y) : PRu w' t lp mp FL L c m (fun j => if j = n then some y else ln j) N T room r := by
 obtain ⟨h1, h2⟩ := h.ne;obtain ⟨n1, n2⟩ := h2 n b hn;refine ⟨Only.keep hk h.at_ fun e => n1 e.symm, h.li.only hk fun j hj e => h.ap.2.2 n b hn (by rw [<- e]; exact hj), h.map.kept fun es q hb => Only.keep hk hb fun e => n2 e.symm, fun j => ?_, h.inj, h.ap, fun j hj => au (h.lt j hj) hk.size, h.may⟩
 try dsimp only
 by_cases e : j = n
 ·subst e; rw [if_pos rfl, hn]; exact ⟨hl, hy⟩
 ·rw [if_neg e]; exact (h.ln j).only hk fun b' hb' e2 => e (h.inj j n b (by rw [<- e2]; exact hb') hn)
theorem PRu.del (h : PRu w t lp mp FL L (c + 1) m ln N T room r) (hk : w.mapTurned w' mp) (hm : dI w' mp c (fun j => if j = (n : Int) then none else mLn m j)) : PRu w' t lp mp FL L c (fun j => if j = n then none else m j) (fun j => if j = n then none else ln j) N T room r := by
 obtain ⟨h1, h2⟩ := h.ne;have ho := fC (F := fun j => j = mp) hk rfl;have e : (fun j => if j = (n : Int) then none else mLn m j) = mLn (fun j => if j = n then none else m j) := funext fun j => by
  unfold mLn;by_cases h0 : 0 <= j
  ·rw [if_pos h0, if_pos h0]
   try dsimp only
   by_cases e : j = (n : Int)
   ·rw [if_pos e, if_pos (by omega)]
   ·rw [if_neg e, if_neg (by omega)]
  ·rw [if_neg h0, if_neg h0, if_neg (by omega)]
 refine ⟨Only.keep ho h.at_ h1, h.li.only ho fun j hj e => h.ap.2.1 (by rw [<- e]; exact hj), by rw [<- e]; exact hm, fun j => ?_, fun i j b hi hj => ?_, ⟨h.ap.1, h.ap.2.1, fun j b hj => ?_⟩, fun j hj => au (h.lt j hj) ho.size, h.may⟩
 ·try dsimp only
  by_cases e : j = n
  ·rw [if_pos e, if_pos e]; trivial
  ·rw [if_neg e, if_neg e]; exact (h.ln j).only ho fun b hb e2 => (h2 j b hb).2 e2
 ·try dsimp only at hi hj
  by_cases e : i = n
  ·rw [if_pos e] at hi; cases hi
  ·by_cases e' : j = n
   ·rw [if_pos e'] at hj; cases hj
   ·rw [if_neg e] at hi; rw [if_neg e'] at hj; exact h.inj i j b hi hj
 ·try dsimp only at hj
  by_cases e : j = n
  ·rw [if_pos e] at hj; cases hj
  ·rw [if_neg e] at hj; exact h.ap.2.2 j b hj
theorem PRu.add {y : LnS} (h : PRu w t lp mp FL L c m ln N T room r) (hn : m n = none) (hb : LnA w b (lf y)) (hy : dV y) (hF : ¬ FL b) (hmb : ∀ j, m j ≠ some b) (hk : w.mapTurned w' mp) (hm : dI w' mp (c + 1) (fun j => if j = (n : Int) then some b else mLn m j)) : PRu w' t lp mp FL L (c + 1) (fun j => if j = n then some b else m j) (fun j => if j = n then some y else ln j) N T room r := by
 obtain ⟨h1, h2⟩ := h.ne;have ho := fC (F := fun j => j = mp) hk rfl;have e : (fun j => if j = (n : Int) then some b else mLn m j) = mLn (fun j => if j = n then some b else m j) := funext fun j => by
  unfold mLn;by_cases h0 : 0 <= j
  ·rw [if_pos h0, if_pos h0]
   try dsimp only
   by_cases e : j = (n : Int)
   ·rw [if_pos e, if_pos (by omega)]
   ·rw [if_neg e, if_neg (by omega)]
  ·rw [if_neg h0, if_neg h0, if_neg (by omega)]
 have hbm : b ≠ mp := fun e => by
  obtain ⟨es, q, hq⟩ := h.agQ;unfold LnA at hb;rw [e, hq] at hb;cases hb
 refine ⟨Only.keep ho h.at_ h1, h.li.only ho fun j hj e => h.ap.2.1 (by rw [<- e]; exact hj), by rw [<- e]; exact hm, fun j => ?_, fun i j b' hi hj => ?_, ⟨h.ap.1, h.ap.2.1, fun j b' hj => ?_⟩, fun j hj => au (h.lt j hj) ho.size, h.may⟩
 ·try dsimp only
  by_cases e : j = n
  ·rw [if_pos e, if_pos e]; exact ⟨Only.keep ho hb hbm, hy⟩
  ·rw [if_neg e, if_neg e]; exact (h.ln j).only ho fun b hb e2 => (h2 j b hb).2 e2
 ·try dsimp only at hi hj
  by_cases e : i = n
  ·rw [if_pos e] at hi;by_cases e' : j = n
   ·omega
   ·rw [if_neg e'] at hj; cases hi; exact absurd hj (hmb j)
  ·rw [if_neg e] at hi;by_cases e' : j = n
   ·rw [if_pos e'] at hj; cases hj; exact absurd hi (hmb i)
   ·rw [if_neg e'] at hj; exact h.inj i j b' hi hj
 ·try dsimp only at hj
  by_cases e : j = n
  ·rw [if_pos e] at hj; cases hj; exact hF
  ·rw [if_neg e] at hj; exact h.ap.2.2 j b' hj
end
section
variable {b : Nat} {w : World}
theorem yA : (Instr.fieldAt 55 (.pointer (some ⟨b, 0, none⟩)) 0).run prog w = .ok (.pointer (some ⟨b, 0, none⟩)) w := by kernel_rfl
theorem lc : (Instr.fieldAt 55 (.pointer (some ⟨b, 0, none⟩)) 1).run prog w = .ok (.pointer (some ⟨b, 3, none⟩)) w := by kernel_rfl
theorem i9 : (Instr.fieldAt 55 (.pointer (some ⟨b, 0, none⟩)) 2).run prog w = .ok (.pointer (some ⟨b, 4, none⟩)) w := by kernel_rfl
theorem qp {ad : Addr} {a : Option Addr} (h : w.cell? ad = some (.pointer a)) : (Instr.loadAt 52 (.pointer (some ad))).run prog w = .ok (.pointer a) w := by simp [go_sem, h]
theorem my {ad : Addr} {a : Option Nat} (h : w.cell? ad = some (.map a)) : (Instr.loadAt 53 (.pointer (some ad))).run prog w = .ok (.map a) w := by simp [go_sem, h]
end
section
variable {ρ : Operand -> Value} {o : Oper} {x y : Operand} {w : World} {t rr : TypeId}
theorem pS {k1 v1 : TypeId} {m : Option Nat} (c : Bool) (hp : prog.underlying t = some (.map k1 v1)) (ho : o.op = .binOp .neq t x y rr) (hx : ρ x = .map m) (hy : ρ y = .map none) (h : (!decide (m = none)) = c) : (execOp ρ o).run prog w = .ok (.value (.bool c)) w := by
 have hg : (eqGuard .neq t x y (.map m) (.map none)).run prog w = .ok () w := by simp [eqGuard]
 have hb := run_neq_map_nil w t k1 v1 m hp;unfold execOp;simp only [ho, hx, hy, Sem.run_bind, hg, hb, Result.andThen_ok, Sem.run_pure];rw [<- h];cases m <;> rfl
theorem rp (n : Int) (ho : o.op = .build 42 #[(0, x)]) (hx : ρ x = .int .i64 n) : (execOp ρ o).run prog w = .ok (.value (.agg #[.int .i64 n, .int .i64 0])) w :=
 jn ho hx (by kernel_rfl)
end
theorem xC {N T : Nat} {r : Int} (h : dH (gx N T r) = true) : may (N : Int) (T : Int) r = true := by
 obtain ⟨k1, k2, k3, k4, k5, k6⟩ := ew h;exact iA.2 ⟨k1, k2, k3, k4, k5, k6⟩
theorem agx {N T : Nat} {r : Int} (h : dH (gx N T r) = true) : 3 <= N /\ N <= 16 /\ 1 <= T /\ T <= 64 /\ 40 <= r /\ r <= 256 := by
 obtain ⟨k1, k2, k3, k4, k5, k6⟩ := iA.1 (xC h);exact ⟨by omega, by omega, by omega, by omega, k5, k6⟩
theorem ahf {N T : Nat} {r n m : Int} (h : dH (gx N T r) = true) : (blE (N : Int) (T : Int) r n m != 12) = decide (0 <= n /\ n < (T : Int) /\ 0 <= m /\ m < (N : Int)) := by
 unfold blE;rw [if_pos (xC h)];cases hi : inP (N : Int) (T : Int) n m
 ·rw [am (yi.1 hi)]
  rfl
 ·rw [ao (n6.1 hi), if_pos rfl]
  split <;> rfl
theorem ajK (M S T : Nat) (r : Int) (w : World) (h : may M S r = true) (h' : has S T = true) : Calls prog 88 #[iy M S r, .int .i64 T] w fun e w' => e = .returned (.tuple #[.int .i64 (par M T), .int .i64 0]) /\ Below w.heap.size w w' := by
 have hm := iA.1 h;have ht := gi.1 h';have hf := ae0 T (par M T);have H := ae h;have H' := ae h';clear h h';unfold iy;go_enter func88, ntmps88;go_wp2_with fail;refine (ji M S r _).mono ?_;rintro e w1 ⟨rfl, hb1⟩;obtain ⟨K0, HB⟩ := adk hb1 (lM ..);obtain ⟨c0, c1, c2⟩ := cells3 K0;rw [H.out];clear hb1;go_wp2_with fail;refine (kt M S r T _).mono ?_;rintro e w2 ⟨rfl, hb2⟩;obtain ⟨d0, d1, d2⟩ := cells3 (aC K0 hb2);rw [H'.out];go_wp2_with fail;refine (oy M T S r _ (by omega) (by omega) (by omega)).mono ?_;rintro e w3 ⟨rfl, hb3⟩;unfold eM;go_wp2;go_ret2;exact ⟨rfl, (HB.out.trans (hb2.mono HB.out.size)).trans (hb3.mono (by have := HB.out.size; have := hb2.size; omega))⟩
section
variable {w : World} {t lp mp cn N T room K : Nat} {FL : Nat -> Prop} {L : List Ky} {m : Nat -> Option Nat} {ln : Nat -> Option LnS} {r : Int} {s : ShS}
theorem oa (h : PRu w t lp mp FL L cn m ln N T room r) : Calls prog 50 #[.pointer (some ⟨t, 0, none⟩)] w fun e w' => e = .returned (.bool true) /\ w = w' := by
 have HH := ae h;clear h;go_enter func50, ntmps50;go_upto_region 1 with fail;refine aI 1 ?_;refine akj (dc true underlying23 rfl akt evk rfl) ?_;refine runs 3 ?_;refine akq (ax rfl akt i9) ?_;refine akq (aD rfl akt (my (PRu.c4 HH))) ?_;refine akq (pS true underlying53 rfl akt evk rfl) ?_;refine aF 2 ?_;go_wp2_with fail;go_ret;exact ⟨rfl, rfl⟩
theorem iC (n m' : Int) (h : PRu w t lp mp FL L cn m ln N T room r) : Calls prog 51 #[.pointer (some ⟨t, 0, none⟩), .agg #[.int .i64 n, .int .i64 m']] w fun e w' => e = .returned (.bool (decide (0 <= n /\ n < (T : Int) /\ 0 <= m' /\ m' < (N : Int)))) /\ Below w.heap.size w w' := by
 have HE := ae (ahf (n := n) (m := m') h.may);obtain ⟨pb, hpb⟩ : ∃ pb, decide (0 <= n /\ n < (T : Int) /\ 0 <= m' /\ m' < (N : Int)) = pb := ⟨_, rfl⟩;rw [hpb] at HE ⊢;clear hpb;have hbx := (Below.refl w.heap.size w).alloc aj (.cells ([.int .i64 n, .int .i64 m'] : List Value).toArray 42);have HP := ae (heap_alloc_new w (.cells ([.int .i64 n, .int .i64 m'] : List Value).toArray 42));have HH := ae (h.below hbx);have HB := ae hbx;clear h hbx;go_enter func51, ntmps51;go_upto_region 0 with fail;refine af ?_;refine akj (cO (cs := [.int .i64 n, .int .i64 m']) rfl akt) ?_;refine aF 1 ?_;generalize w.alloc (.cells ([.int .i64 n, .int .i64 m'] : List Value).toArray 42) = w1 at *;go_upto_region 1 with fail;refine aS (B := w1.heap.size) (by kernel_rfl) ?_;refine cC 2 ?_;refine akr (fun _ hw => ax rfl akt yA) ?_;refine akr (fun _ hw => cv (cs := ([.int .i64 (N : Int), .int .i64 (T : Int), .int .i64 r] : List Value)) underlying51 rfl (by kernel_rfl) rfl akt (PRu.geo (HH.out.below hw))) ?_;refine akr (fun _ hw => cv (cs := [.int .i64 n, .int .i64 m']) underlying42 rfl (by kernel_rfl) rfl akt (aQ (aC HP hw))) ?_;refine bQ rfl (fun _ => aB call83 rfl (evc akt (evc akt evn))) (bz aj fun _ hw => oT (N : Int) (T : Int) r n m' _) ?_;simp only [aa];refine cC 3 ?_;refine cC 2 ?_;refine wpQuiet_nil ?_;intro w2 hw;have HW := ae (HB.out.trans (hw.mono HB.out.size));clear hw;go_upto_region 2 with fail;refine aI 1 ?_;refine akj (aK pb rfl akt evk HE) ?_;refine aF 1 ?_;go_wp2_with fail;go_ret;exact ⟨rfl, HW⟩
theorem qO {n : Nat} (hn : n < T) (h : PRu w t lp mp FL L cn m ln N T room r) : Calls prog 56 #[.pointer (some ⟨t, 0, none⟩), .int .i64 (n : Int)] w fun e w' => e = .returned (.int .i64 ((N - 1 - n % N : Nat) : Int)) /\ Below w.heap.size w w' := by
 have HM := ae (xC h.may);have HS : Hid (has (T : Int) (n : Int) = true) := ae (gi.2 ⟨by omega, by omega⟩);have HH := ae h;clear h hn;go_enter func56, ntmps56;go_upto_region 1 with fail;refine aI 2 ?_;refine akj (ax rfl akt yA) ?_;refine akj (cv (cs := ([.int .i64 (N : Int), .int .i64 (T : Int), .int .i64 r] : List Value)) underlying51 rfl (by kernel_rfl) rfl akt (PRu.geo HH)) ?_;refine runs 1 ?_;refine ay rfl (aB call88 rfl (evc akt (evc akt evn))) ?_;refine (ajK N T n r w HM HS).mono ?_;rintro e w1 ⟨rfl, b1⟩;have HB := ae b1;clear b1;refine aR ?_;refine runs 3 ?_;refine aF 2 ?_;go_upto_region 2 with fail;refine cf 2 ?_;go_wp2_with fail;go_ret;exact ⟨rfl, HB⟩
def aac (T : Nat) (n : Int) : Int := if decide (0 <= n /\ n < (T : Int)) = true then 0 else 2
theorem xH (n : Int) (h : PRu w t lp mp FL L cn m ln N T room r) : Calls prog 30 #[.pointer (some ⟨t, 0, none⟩), .int .i64 n] w fun e w' => e = .returned (.int .i64 (aac T n)) /\ Below w.heap.size w w' := by
 have hg := agx h.may;have HE : Hid (decide (0 <= n /\ n < (T : Int) /\ 0 <= (0 : Int) /\ (0 : Int) < (N : Int)) = decide (0 <= n /\ n < (T : Int))) := ae (by
  rw [Bool.eq_iff_iff, decide_eq_true_iff, decide_eq_true_iff]; omega)
 have HH := ae h;clear h hg;go_enter func30, ntmps30;go_upto_region 1 with fail;refine aI 1 ?_;refine ay rfl (aB call50 rfl (evc akt evn)) ?_;refine (oa HH).mono ?_;rintro e w' ⟨rfl, rfl⟩;refine aR ?_;refine aF 2 ?_;cases hd : decide (0 <= n /\ n < (T : Int))
 ·have HD := ae hd;clear hd;go_upto_region 3 with fail;refine aI 2 ?_;refine akj (rp n rfl akt) ?_;refine ay rfl (aB call51 rfl (evc akt (evc akt evn))) ?_;refine (iC n 0 HH).mono ?_;rintro e w1 ⟨rfl, b1⟩;rw [HE.out];rw [HD.out];have HB := ae b1;clear b1;refine aR ?_;refine aF 2 ?_;go_wp2_with fail;go_ret;exact ⟨by unfold aac; rw [HD.out]; rfl, HB⟩
 ·have HD := ae hd;clear hd;go_upto_region 3 with fail;refine aI 2 ?_;refine akj (rp n rfl akt) ?_;refine ay rfl (aB call51 rfl (evc akt (evc akt evn))) ?_;refine (iC n 0 HH).mono ?_;rintro e w1 ⟨rfl, b1⟩;rw [HE.out];rw [HD.out];have HB := ae b1;clear b1;refine aR ?_;refine aF 2 ?_;go_wp2_with fail;go_ret;exact ⟨by unfold aac; rw [HD.out]; rfl, HB⟩
theorem o6 (h : PRu w t lp mp FL L cn m ln N T room r) : Calls prog 24 #[.pointer (some ⟨t, 0, none⟩)] w fun e w' => ∃ v, e = .returned v /\ aN bP w' w.heap.size v (fw L) /\ Below w.heap.size w w' := by
 have HH := ae h;clear h;go_enter func24, ntmps24;go_upto_region 1 with fail;refine aI 1 ?_;refine ay rfl (aB call50 rfl (evc akt evn)) ?_;refine (oa HH).mono ?_;rintro e w' ⟨rfl, rfl⟩;refine aR ?_;refine aF 1 ?_;go_upto_region 3 with fail;refine aI 2 ?_;refine akj (ax rfl akt lc) ?_;refine akj (aD rfl akt (qp (PRu.c3 HH))) ?_;refine ay rfl (aB call58 rfl (evc akt evn)) ?_;refine (ab3 w HH.out.li).mono ?_;rintro e w1 ⟨v, rfl, m1, b1⟩;have HM := ae m1;have HB := ae b1;clear m1 b1;refine aR ?_;refine aF 1 ?_;go_wp2_with fail;go_ret;exact ⟨v, rfl, HM, HB⟩
end
open Go.RowKit Go.Shelf
def ajx : Ren := { f := fun x => match x with | 189 => 26 | 125 => 61 | 257 => 60 | 128 => 99 | 129 => 100 | 294 => 90 | 295 => 91 | 296 => 92 | 297 => 93 | 298 => 94 | 299 => 95 | 216 => 96 | 300 => 97 | 301 => 98 | 328 => 127 | 329 => 128 | 330 => 129 | 331 => 130 | 332 => 131 | 215 => 132 | 343 => 138 | n => n, t := fun x => match x with | 28 => 35 | 3 => 3 | 46 => 126 | 0 => 0 | 51 => 168 | 53 => 34 | 4 => 4 | 183 => 160 | 182 => 159 | 131 => 165 | 5 => 5 | 9 => 9 | 218 => 181 | 222 => 184 | 228 => 193 | 229 => 194 | n => n, g := fun x => x }
theorem agz : Lays.n189 prog ajx := {
 mixed := (by kernel_rfl),
 f125 := func61.trans (congrArg some (by kernel_rfl)),
 f128 := func99.trans (congrArg some (by kernel_rfl)),
 f129 := func100.trans (congrArg some (by kernel_rfl)),
 f189 := func26.trans (congrArg some (by kernel_rfl)),
 f215 := func132.trans (congrArg some (by kernel_rfl)),
 f216 := func96.trans (congrArg some (by kernel_rfl)),
 f257 := func60.trans (congrArg some (by kernel_rfl)),
 f294 := func90.trans (congrArg some (by kernel_rfl)),
 f295 := func91.trans (congrArg some (by kernel_rfl)),
 f296 := func92.trans (congrArg some (by kernel_rfl)),
 f297 := func93.trans (congrArg some (by kernel_rfl)),
 f298 := func94.trans (congrArg some (by kernel_rfl)),
 f299 := func95.trans (congrArg some (by kernel_rfl)),
 f300 := func97.trans (congrArg some (by kernel_rfl)),
 f301 := func98.trans (congrArg some (by kernel_rfl)),
 f328 := func127.trans (congrArg some (by kernel_rfl)),
 f329 := func128.trans (congrArg some (by kernel_rfl)),
 f330 := func129.trans (congrArg some (by kernel_rfl)),
 f331 := func130.trans (congrArg some (by kernel_rfl)),
 f332 := func131.trans (congrArg some (by kernel_rfl)),
 f343 := func138.trans (congrArg some (by kernel_rfl)),
 t0 := underlying0,
 a0 := Tryz.isAgg0,
 z0 := Tryz.sizeOf0,
 v0 := Tryz.zeroValue0,
 t3 := underlying3,
 a3 := Tryz.isAgg3,
 z3 := Tryz.sizeOf3,
 v3 := Tryz.zeroValue3,
 t4 := underlying4,
 a4 := Tryz.isAgg4,
 z4 := Tryz.sizeOf4,
 v4 := Tryz.zeroValue4,
 t5 := underlying5,
 a5 := Tryz.isAgg5,
 z5 := Tryz.sizeOf5,
 v5 := Tryz.zeroValue5,
 t9 := underlying9,
 a9 := Tryz.isAgg9,
 z9 := Tryz.sizeOf9,
 v9 := Tryz.zeroValue9,
 t28 := underlying35,
 a28 := Tryz.isAgg35,
 z28 := Tryz.sizeOf35,
 v28 := Tryz.zeroValue35,
 t46 := underlying126,
 a46 := Tryz.isAgg126,
 z46 := Tryz.sizeOf126,
 v46 := Tryz.zeroValue126,
 t51 := underlying168,
 a51 := Tryz.isAgg168,
 z51 := Tryz.sizeOf168,
 v51 := Tryz.zeroValue168,
 t53 := underlying34,
 a53 := Tryz.isAgg34,
 z53 := Tryz.sizeOf34,
 v53 := Tryz.zeroValue34,
 t131 := underlying165,
 a131 := Tryz.isAgg165,
 z131 := Tryz.sizeOf165,
 v131 := Tryz.zeroValue165,
 t182 := underlying159,
 a182 := Tryz.isAgg159,
 z182 := Tryz.sizeOf159,
 v182 := Tryz.zeroValue159,
 t183 := underlying160,
 a183 := Tryz.isAgg160,
 z183 := Tryz.sizeOf160,
 v183 := Tryz.zeroValue160,
 t218 := underlying181,
 a218 := Tryz.isAgg181,
 z218 := Tryz.sizeOf181,
 v218 := Tryz.zeroValue181,
 t222 := underlying184,
 a222 := Tryz.isAgg184,
 z222 := Tryz.sizeOf184,
 v222 := Tryz.zeroValue184,
 t228 := underlying193,
 a228 := Tryz.isAgg193,
 z228 := Tryz.sizeOf193,
 v228 := Tryz.zeroValue193,
 t229 := underlying194,
 a229 := Tryz.isAgg194,
 z229 := Tryz.sizeOf194,
 v229 := Tryz.zeroValue194 }
section
variable {w : World} {g c n B : Nat} {os : Array Obj} {l ts : List Int}
theorem vy (d : Array Int) : w.grownBy (Go.Sort.grow (Go.Sort.putRow (Value.int .i64) (Go.Sort.ahead w n) g 0 d) os) (some g) := by
 refine ⟨rfl, rfl, rfl, by simp, fun k hk hne => ?_⟩;rw [Go.Sort.heap_grow_old _ _ (by simpa using hk)];have : g ≠ k := fun e => hne (by rw [e])
 simp [Go.Sort.putRow, Go.Sort.mapBlock, Go.Sort.ahead, Array.getElem?_modify, this]
theorem aaK (h : aN bP w B (.slice (some ⟨g, 0, none⟩) l.length c) l) (hl : ts.length = l.length) : aN bP (Go.Sort.grow (Go.Sort.putRow (Value.int .i64) (Go.Sort.ahead w n) g 0 ts.toArray) os) B (.slice (some ⟨g, 0, none⟩) l.length c) ts := by
 rcases h.2 with ⟨h0, _⟩ | ⟨g', cap, cur, hv, hB, hg, h1, h2, h3, h4⟩
 ·cases h0
 ·injection hv with hv _ hc;injection hv with hv;injection hv with hv;subst hv hc;have hgl : g < w.heap.size := (Array.getElem?_eq_some_iff.1 hg).1;have e3 : cur.size = c := by rw [h3]; show c * 1 = c; omega
  refine ⟨by simp [ct], .inr ⟨g, c, Go.Sort.putCells (Value.int .i64) 0 ts.toArray cur, by rw [hl], hB, ?_, by omega, h2, by simp [Go.Sort.putCells, h3], ?_⟩⟩
  ·rw [Go.Sort.heap_grow_old _ _ (by simpa using hgl)];simp [Go.Sort.putRow, Go.Sort.mapBlock, Go.Sort.ahead, Array.getElem?_modify, hg, Go.Sort.onCells]
  ·rw [rB, show ts.length * bP.n = ts.length from Nat.mul_one _];apply List.ext_getElem?;intro j;by_cases hj : j < ts.length
   ·rw [List.getElem?_take_of_lt hj, Array.getElem?_toList];simp [Go.Sort.putCells, hj, show j < cur.size by omega]
   ·rw [List.getElem?_take_eq_none (by omega), List.getElem?_eq_none (by simp; omega)]
end
theorem uk {w : World} {B : Nat} {v : Value} {l : List Int} (h : aN bP w B v l) (hB : B <= w.heap.size) (hl : l.length < 4611686018427387904) :
  Calls prog 26 #[v] w fun e w' => e = .returned (.tuple #[]) /\ aN bP w' B v (l.mergeSort fun x y => decide (x <= y)) /\ Below B w w' := by
 rcases h.2 with ⟨hv, h0⟩ | ⟨g, cap, cur, hv, hg0, hg, h1, h2, h3, h4⟩
 ·have hl0 : l = [] := List.eq_nil_of_length_eq_zero h0;subst hl0 hv;exact (Any.slices_Sort_int_none agz none 0 w).mono fun e w' ⟨h1, h2⟩ => ⟨h1, by subst h2; rw [List.mergeSort_nil]; exact h, by subst h2; exact ak⟩
 ·subst hv;have hH : Go.Sort.Holds (Value.int .i64) w g 0 l.toArray := fun j hj => by
   have hj' : j < l.length := by simpa using hj
   refine ⟨?_, by simp [World.frozen?, hg]⟩;rw [rB, show l.length * bP.n = l.length from Nat.mul_one _] at h4;have e1 : (cur.toList.take l.length)[j]? = (l.map fun x => Value.int .i64 x)[j]? := by rw [h4]
   rw [List.getElem?_take_of_lt hj'] at e1;simp only [World.cell?, hg, Nat.zero_add];simp only [Option.isSome_none, Bool.false_eq_true, if_false];rw [<- Array.getElem?_toList, e1];simp [hj']
  refine (Any.slices_Sort_int agz g 0 cap l w hH (Array.getElem?_eq_some_iff.1 hg).1 hl).mono ?_;rintro e w' ⟨k1, n, os, rfl⟩;exact ⟨k1, aaK h (by rw [List.length_mergeSort]), (Below.refl B w).grown (vy _) hB fun k hk => by injection hk with hk; subst hk; exact hg0⟩
section
variable {w : World} {t lp mp K : Nat} {FL : Nat -> Prop} {m : Nat -> Option Nat} {r : Int} {s : ShS}
theorem jP {n : Nat} (h : n < 64) : (Lit.int .i64 (n : Int)).wf = true := by
 have h1 : (-9223372036854775808 : Int) <= (n : Int) := by omega
 have h2 : (n : Int) <= 9223372036854775807 := by omega
 have e1 : IntKind.i64.min = -9223372036854775808 := by decide
 have e2 : IntKind.i64.max = 9223372036854775807 := by decide
 show (decide (IntKind.i64.min <= (n : Int)) && decide ((n : Int) <= IntKind.i64.max)) = true
 rw [e1, e2, ao h1, ao h2]
 rfl
theorem tW (h : PRu w t lp mp FL (kyL s.dty s.o) s.o.length m s.ln s.N s.T s.room r) (hok : bW s) : Calls prog 7 #[.pointer (some ⟨t, 0, none⟩)] w fun e w' => ∃ v, e = .returned v /\ aN bP w' w.heap.size v s.cX /\ Below w.heap.size w w' := by
 have HH := ae h;have HSD : Hid ((jY s.dty s.o).mergeSort (fun x y => decide (x <= y)) = s.cX) := ae (ph hok);have HPN : Hid (∀ n : Nat, qt (n : Int) (kyL s.dty s.o) = s.dty n) := ae (aeH hok);have H64 : Hid (s.o.length <= 64) := ae (by have := hok.len; have := hok.r64; omega);have HLT : Hid (∀ n ∈ s.o, n < 64) := ae fun n hn => by have := hok.lt n hn; have := hok.t64; omega
 clear h hok;go_enter func7, ntmps7;go_upto_region 2 with fail;refine aI 1 ?_;refine ay rfl (aB call24 rfl (evc akt evn)) ?_;refine (o6 HH).mono ?_;rintro e w1 ⟨v1, rfl, m1, b1⟩;rw [sa] at m1;obtain ⟨A1, c1, rfl, m1r, _, _⟩ := m1.open_ (n := s.o.length) (List.length_map _);have HM1 := ae m1;have HB1 := ae b1;have HH1 := ae (HH.out.below b1);clear m1 b1 m1r;refine aR ?_;refine akj (eD bP rfl akt) ?_;refine aF 1 ?_;go_wp2_with fail
 go_loopw [3, 5, 9] (fun z u c wr => ∃ i : Nat, c = .int .i64 i /\ i <= s.o.length /\ aN bP wr w1.heap.size z (jY s.dty (s.o.take i)) /\ Below w1.heap.size w1 wr) (fun _ _ c _ => s.o.length - (intOf c).toNat)
 case atStart => exact ⟨0, by go_num, Nat.zero_le _, aN.nil _ _, ak⟩
 case round =>
  obtain ⟨i, rfl, hi, hm, hb⟩ := hrel;have HM := ae hm;have HW := ae hb;have HHr := ae (HH1.out.below hb);have HRr := ae (HM1.out.below hb);clear hm hb;by_cases hlt : i < s.o.length
  ·have HI := ae hlt;have HT : Hid (decide ((i : Int) < (s.o.length : Int)) = true) := ae (ao (by omega));have HA : Hid (IntKind.i64.wrap ((i : Int) + 1) = ((i + 1 : Nat) : Int)) := ae (by have := H64.out; rw [el ⟨by omega, by omega⟩]; omega);have hrd := HRr.out.rd;obtain ⟨b, off, hAe, _, hc⟩ := hrd.int hlt;subst hAe;rw [getD_map (fun n : Nat => (n : Int)) s.o 0 0 hlt] at hc;obtain ⟨n, hn⟩ : ∃ n, s.o.getD i 0 = n := ⟨_, rfl⟩;have hmem : n ∈ s.o := by rw [<- hn]; exact cI hlt
   rw [hn] at hc;have HC := ae hc;have HNI := ae hn;have HWF := ae (jP (HLT.out n hmem));clear hi hlt hrd hc hn hmem;go_upto_region 3 with fail;refine af ?_;refine akj (aY true rfl akt akt HT) ?_;refine ah ?_;go_upto_region 4 with fail;refine af ?_;refine akj (co (E := bP) rfl akt akt HI) ?_;refine akj (aD rfl akt (cd (by rw [show i * bP.n = i from Nat.mul_one i]; exact HC.out))) ?_;refine aF 1 ?_;cases hd : s.dty n
   ·have HD := ae hd;have HST : Hid (jY s.dty (s.o.take (i + 1)) = jY s.dty (s.o.take i)) := ae (by rw [rC (b := false) HI.out (by rw [HNI.out]; exact hd)]; simp);clear hd;go_upto_region 5 with fail;refine aI 2 ?_;refine akj (ax rfl akt lc) ?_;refine akj (aD rfl akt (qp (PRu.c3 HHr))) ?_;refine runs 1 ?_;refine ay rfl (aB call25 rfl (evc akt (evc akt evn))) ?_;refine (oo wr HHr.out.li HWF).mono ?_;rintro e w5 ⟨rfl, rfl⟩;rw [HPN.out, HD.out];refine aR ?_;refine ah ?_;go_upto_region 7 with fail;refine af ?_;refine akj (bH rfl akt evk HA) ?_;refine aF 1 ?_;go_wp2_with fail;go_roundw
    case rel => exact ⟨i + 1, by go_num, HI, by rw [HST.out]; exact HM, HW⟩
    case measure => have := HI.out; simp [intOf]; omega
   have HD := ae hd;have HST : Hid (jY s.dty (s.o.take (i + 1)) = jY s.dty (s.o.take i) ++ [(n : Int)]) := ae (by rw [rC (b := true) HI.out (by rw [HNI.out]; exact hd), HNI.out]; rfl);clear hd;go_upto_region 5 with fail;refine aI 2 ?_;refine akj (ax rfl akt lc) ?_;refine akj (aD rfl akt (qp (PRu.c3 HHr))) ?_;refine runs 1 ?_;refine ay rfl (aB call25 rfl (evc akt (evc akt evn))) ?_;refine (oo wr HHr.out.li HWF).mono ?_;rintro e w5 ⟨rfl, rfl⟩;rw [HPN.out, HD.out];refine aR ?_;refine ah ?_;have HBS : Hid (w1.heap.size <= wr.heap.size) := ae HW.out.size;have hsz : (wr.alloc (.cells #[.int .i64 (n : Int)] 3)).heap.size = wr.heap.size + 1 := al;obtain ⟨v2, w2, hrun, hm2, hg2⟩ := gB bP (wr.alloc (.cells #[.int .i64 (n : Int)] 3)) 35 w1.heap.size (wr.heap.size + 1) 1 1 u3 (jY s.dty (s.o.take i)) [(n : Int)] (some ⟨wr.heap.size, 0, none⟩) (aN.below HM (ak.alloc aj _)) (fS (E := bP) (l := [(n : Int)]) wr #[.int .i64 (n : Int)] 3 rfl) (by have := HBS.out; omega) (by have := pX s.dty (s.o.take i); rw [List.length_take] at this; have := H64.out; simp; omega);have HRUN := ae hrun;have HM2 : Hid (aN bP w2 w1.heap.size v2 (jY s.dty (s.o.take (i + 1)))) := ae (by rw [HST.out]; exact hm2);have HW2 : Hid (Below w1.heap.size w1 w2) := ae ((HW.out.trans (ak.alloc HBS _)).grown hg2 (by have := HBS.out; omega) (fun j' hj' => HM.out.gH j' hj'));clear hsz hrun hm2 hg2;go_upto_region 6 with fail;refine aI 2 ?_;refine akj (eA (E := bP) (a := (n : Int)) rfl akt rfl (by decide)) ?_;refine akj (gh (E := bP) rfl akt akt HRUN) ?_;refine aF 1 ?_;go_upto_region 7 with fail;refine af ?_;refine akj (bH rfl akt evk HA) ?_;refine aF 1 ?_;go_wp2_with fail;go_roundw
   case rel => exact ⟨i + 1, by go_num, HI, HM2, HW2⟩
   case measure => have := HI.out; simp [intOf]; omega
  have hin : i = s.o.length := by omega
  have HT : Hid (decide ((i : Int) < (s.o.length : Int)) = false) := ae (am (by omega));have HIN := ae hin;have HMF : Hid (aN bP wr w1.heap.size u3 (jY s.dty s.o)) := ae (by have := HM.out; rw [hin, List.take_length] at this; exact this);have HL4 : Hid ((jY s.dty s.o).length < 4611686018427387904) := ae (by have := pX s.dty s.o; have := H64.out; omega);clear hlt hi hin;go_upto_region 3 with fail;refine af ?_;refine akj (aY false rfl akt akt HT) ?_;refine ah ?_;go_upto_region 8 with fail;refine aI 1 ?_;refine ay rfl (aB call26 rfl (evc akt evn)) ?_;refine (uk HMF HW.out.size HL4).mono ?_;rintro e w2 ⟨rfl, m2, b2⟩;rw [HSD.out] at m2;have HM2 := ae (m2.base HB1.out.size);have HB2 := ae ((HB1.out.trans ((HW.out.trans b2).mono HB1.out.size)));clear m2 b2;refine aR ?_;refine ah ?_;go_upto_region 9 with fail;refine cf 2 ?_;go_wp2_with fail;go_ret;exact ⟨_, rfl, HM2, HB2⟩
end
structure PSt (w0 : World) (S0 : Nat -> Prop) (w : World) (t lp mp : Nat) (FL : Nat -> Prop) (L : List Ky) (c : Nat) (m : Nat -> Option Nat) (ln : Nat -> Option LnS) (N T room : Nat) (r : Int) : Prop where
 u : PRu w t lp mp FL L c m ln N T room r
 on : Only S0 w0 w
 gr : Grow w0 S0 (ql t mp FL m)
section
variable {w0 w w' : World} {S0 : Nat -> Prop} {t lp mp c N T room n b : Nat} {FL FL' : Nat -> Prop} {L L' : List Ky} {m : Nat -> Option Nat} {ln : Nat -> Option LnS} {r : Int}
theorem PSt.start (h : PRu w t lp mp FL L c m ln N T room r) : PSt w (ql t mp FL m) w t lp mp FL L c m ln N T room r := ⟨h, Only.refl _ _, Grow.same _ _⟩
theorem PSt.below (h : PSt w0 S0 w t lp mp FL L c m ln N T room r) (hb : Below w.heap.size w w') : PSt w0 S0 w' t lp mp FL L c m ln N T room r := ⟨h.u.below hb, h.on.jz hb, h.gr⟩
theorem PSt.step {F : Nat -> Prop} (h : PSt w0 S0 w t lp mp FL L c m ln N T room r) (hk : Only F w w') (hF : ∀ b, F b -> ql t mp FL m b) : Only S0 w0 w' :=
 h.on.trans hk fun b hb => h.gr b (hF b hb)
theorem PSt.list {B : Nat -> Prop} (h : PSt w0 S0 w t lp mp FL L c m ln N T room r) (hB : B = fun b => FL b \/ w.heap.size <= b) (hl : PLF w' B lp room L') (hk : iW B w w') : ∃ FL', PSt w0 S0 w' t lp mp FL' L' c m ln N T room r := by
 subst hB;have hs := hk.size;have ho : Only FL w w' := ⟨hk.only.os, hk.only.tape, hk.only.output, hk.only.size, fun b hb hn => hk.only.block b hb fun e => e.elim hn fun e2 => by omega⟩;refine ⟨fun b => (FL b \/ w.heap.size <= b) /\ b < w'.heap.size, h.u.list ho (hl.mono fun b h1 h2 => ⟨h1, h2⟩) (fun b hb => hb.1) fun b hb => hb.2, h.step ho fun b hb => .inr (.inr (.inl hb)), fun b hb => ?_⟩;have hsz := h.on.size;rcases hb with e | e | e | e
 ·exact h.gr b (.inl e)
 ·exact h.gr b (.inr (.inl e))
 ·rcases e.1 with e | e
  ·exact h.gr b (.inr (.inr (.inl e)))
  ·exact .inr (by omega)
 ·exact h.gr b (.inr (.inr (.inr e)))
theorem PSt.line {y : LnS} (h : PSt w0 S0 w t lp mp FL L c m ln N T room r) (hn : m n = some b) (hk : bZ mA (fun j => j = b) w w') (hl : qB w' (fun j => j = b) b y) : PSt w0 S0 w' t lp mp FL L c m (fun j => if j = n then some y else ln j) N T room r :=
 ⟨h.u.line hn hk.only hl.1 hl.2.2, h.step hk.only fun j hj => .inr (.inr (.inr ⟨n, by rw [hj]; exact hn⟩)), h.gr⟩
theorem PSt.del (h : PSt w0 S0 w t lp mp FL L (c + 1) m ln N T room r) (hk : w.mapTurned w' mp) (hm : dI w' mp c (fun j => if j = (n : Int) then none else mLn m j)) : PSt w0 S0 w' t lp mp FL L c (fun j => if j = n then none else m j) (fun j => if j = n then none else ln j) N T room r := by
 refine ⟨h.u.del hk hm, h.step (fC (F := fun j => j = mp) hk rfl) fun j hj => .inr (.inl hj), fun b hb => ?_⟩;rcases hb with e | e | e | ⟨j, e⟩
 ·exact h.gr b (.inl e)
 ·exact h.gr b (.inr (.inl e))
 ·exact h.gr b (.inr (.inr (.inl e)))
 ·try dsimp only at e
  by_cases ej : j = n
  ·rw [if_pos ej] at e; cases e
  ·rw [if_neg ej] at e; exact h.gr b (.inr (.inr (.inr ⟨j, e⟩)))
theorem PSt.add {y : LnS} {w1 : World} (h : PSt w0 S0 w t lp mp FL L c m ln N T room r) (hn : m n = none) (hw1 : Below w.heap.size w w1) (hb : LnA w1 b (lf y)) (hbw : w.heap.size <= b) (hy : dV y) (hk : w1.mapTurned w' mp) (hm : dI w' mp (c + 1) (fun j => if j = (n : Int) then some b else mLn m j)) : PSt w0 S0 w' t lp mp FL L (c + 1) (fun j => if j = n then some b else m j) (fun j => if j = n then some y else ln j) N T room r := by
 have h1 := h.below hw1;have hs := h.u.size;refine ⟨h1.u.add hn hb hy (fun e => by have := h.u.lt b e; omega) (fun j e => by have := hs b (.inr (.inr (.inr ⟨j, e⟩))); omega) hk hm, h1.step (fC (F := fun j => j = mp) hk rfl) fun j hj => .inr (.inl hj), fun q hq => ?_⟩;have hsz := h.on.size;rcases hq with e | e | e | ⟨j, e⟩
 ·exact h.gr q (.inl e)
 ·exact h.gr q (.inr (.inl e))
 ·exact h.gr q (.inr (.inr (.inl e)))
 ·try dsimp only at e
  by_cases ej : j = n
  ·rw [if_pos ej] at e; cases e; exact .inr (by omega)
  ·rw [if_neg ej] at e; exact h.gr q (.inr (.inr (.inr ⟨j, e⟩)))
end
theorem vj {ops : Array Oper} {rest : List Oper} {o : Oper} {a : Act} {w : World} {M : Int -> Option Nat} {k : Int} {Q : Exit -> Act -> World -> Prop} {x y : Operand} {N b : Nat} (hg : o.guard = none) (ho : o.op = .call { callee := .builtin .delete, args := #[x, y], argTypes := #[53, 3] })
  (hx : a.eval x = .map (some b)) (hy : a.eval y = .int .i64 k) (h : dI w b (N + 1) M) (hw : (Lit.int .i64 k).wf = true) (hn : (M k).isSome = true)
  (hk : ∀ w', dI w' b N (fun j => if j = k then none else M j) -> w.mapTurned w' b -> wpList prog ops Q rest (a.put o.dst (.tuple #[])) w') : wpList prog ops Q (o :: rest) a w := by
 obtain ⟨w', h1, h2, h3⟩ := h.aj1 hw hn o.type;exact aw hg (tG ho hx hy h1) (hk w' h2 h3)
def PSx (w0 : World) (S0 : Nat -> Prop) (w : World) (t : Nat) (s : ShS) : Prop := ∃ lp mp FL m r, PSt w0 S0 w t lp mp FL (kyL s.dty s.o) s.o.length m s.ln s.N s.T s.room r /\ bW s
section
variable {w0 w w' : World} {S0 S : Nat -> Prop} {t K : Nat} {s : ShS}
theorem PSh.x (h : PSh w S t K s) : PSx w S w t s := by
 obtain ⟨lp, mp, FL, m, r, h1, h2, rfl⟩ := h;exact ⟨lp, mp, FL, m, r, PSt.start h1, h2⟩
theorem PSx.res (h : PSx w0 S0 w t s) (K : Nat) : ∃ S', PSh w S' t K s /\ Only S0 w0 w /\ Grow w0 S0 S' := by
 obtain ⟨lp, mp, FL, m, r, h1, h2⟩ := h;exact ⟨_, ⟨lp, mp, FL, m, r, h1.u, h2, rfl⟩, h1.on, h1.gr⟩
theorem PSx.below (h : PSx w0 S0 w t s) (hb : Below w.heap.size w w') : PSx w0 S0 w' t s := by
 obtain ⟨lp, mp, FL, m, r, h1, h2⟩ := h;exact ⟨lp, mp, FL, m, r, h1.below hb, h2⟩
theorem PSx.ok (h : PSx w0 S0 w t s) : bW s := by obtain ⟨lp, mp, FL, m, r, h1, h2⟩ := h; exact h2
theorem PSx.only (h : PSx w0 S0 w t s) : Only S0 w0 w := by obtain ⟨lp, mp, FL, m, r, h1, h2⟩ := h; exact h1.on
end
theorem rf {o : List Nat} {n : Nat} (hd : o.Nodup) (h : n ∈ o) : (eO o n).length + 1 = o.length := by
 have hl := du (d := fun _ => false) (o := o).2 h;have hl' : plc (n : Int) (kyL (fun _ => false) o) < o.length := by rw [cR] at hl; exact hl
 have := oq (L := o) hl';rwa [rN hd hl', nL h] at this
theorem abI {s : ShS} (h : bW s) (n : Nat) : (s.tch n).dty = s.dty := funext fun j => h.yw n j
theorem oR (s : ShS) (n : Nat) (h : s.fj n = true) : (s.tch n).ln = fun j => if j = n then some (s.ch n) else (s.cut n).ln j := by unfold ShS.tch; rw [if_pos h]; rfl
theorem ah9 (s : ShS) (n : Nat) (h : s.fj n = false) : s.tch n = s := by unfold ShS.tch; rw [if_neg (by rw [h]; decide)]
def tcE (s : ShS) (n : Nat) : Int := if s.fj n = true then 0 else 10
theorem acS {w0 w : World} {S0 : Nat -> Prop} {t n : Nat} {s : ShS} (h : PSx w0 S0 w t s) (hn : n < s.T) : Calls prog 53 #[.pointer (some ⟨t, 0, none⟩), .int .i64 (n : Int)] w fun e w' => e = .returned (.int .i64 (tcE s n)) /\ PSx w0 S0 w' t (s.tch n) := by
 obtain ⟨lp, mp, FL, m, r, h, hok⟩ := h;have hn64 : n < 64 := by have := hok.t64; omega
 have HW := ae (jP hn64);have HOK := ae hok;have HOK2 := ae (hok.tch hn);have HS := ae h;have HL : Hid (PLF w (fun b => FL b \/ w.heap.size <= b) lp s.room (kyL s.dty s.o)) := ae (h.u.li.mono fun b h1 _ => .inl h1);have HN1 : Hid (1 <= s.N) := ae (by have := hok.n3; omega);have HN2 : Hid (s.N <= 16) := ae hok.n16;have HEQ := ae (adX hok n);have HWQ := ae (adp hok n);have HSQ : Hid (vk s.room (n : Int) (kyL s.dty s.o) = kyL (s.tch n).dty (s.tch n).o) := ae (by rw [acj hok n, abI hok n]);have HNQ := ae (s.pl n);have HM64 : Hid (s.o.length <= 64) := ae (by have := hok.len; have := hok.r64; omega);obtain ⟨g0, hg0⟩ : ∃ g0, t6 s.room (n : Int) (kyL s.dty s.o) = g0 := ⟨_, rfl⟩;have HG0 := ae hg0;have htc := i6 hok n;clear hg0 h hn hn64;go_enter func53, ntmps53;rcases htc with ⟨c1, c2, c3, c4⟩ | ⟨c1, cl, c2, c3, c4⟩ | ⟨c1, cl, c0, c2, c3⟩ | ⟨c1, cl, c0, c2, c3, c4⟩
 ·have HTB := ae c3;have HTE : Hid ((if s.fj n = true then (0 : Int) else 10) = 0) := ae (if_pos c3);have HTW : Hid ((s.goes n && s.fj n) = false) := ae (by rw [c2]; rfl);obtain ⟨x, hx⟩ := Option.isSome_iff_exists.1 ((hok.mem n).1 c1);have hl := HS.out.u.ln n;rw [hx] at hl;obtain ⟨a, ha, _, _⟩ := hl.some_;have HA := ae ha;have HF : Hid ((s.tch n).o.length = s.o.length /\ (s.tch n).ln = s.ln) := ae (by
   refine ⟨by rw [uJ, if_pos c3, c4, List.length_cons, rf hok.nd c1], ?_⟩;rw [oR s n c3, c4]
   funext j
   by_cases e : j = n
   ·subst e; rw [if_pos rfl, eE hx, hx]
   ·rw [if_neg e])
  clear c1 c2 c3 c4 hok hx hl ha;go_upto_region 1 with fail;refine aI 2 ?_;refine akj (ax rfl akt lc) ?_;refine akj (aD rfl akt (qp (PRu.c3 HS.out.u))) ?_;refine runs 1 ?_;refine ay rfl (aB call85 rfl (evc akt (evc akt evn))) ?_;refine (kG w (fun b hb => .inr hb) HL HW).mono ?_;rintro e w1 ⟨rfl, l1, t1⟩;rw [HSQ.out] at l1;obtain ⟨FL1, hs1⟩ := HS.out.list rfl l1 t1;have HS1 := ae hs1;rw [HEQ.out, HWQ.out, HG0.out, HTE.out, HTW.out];clear l1 t1 hs1;refine aR ?_;refine runs 3 ?_;refine runs 3 ?_;refine aF 1 ?_;go_upto_region 2 with fail;refine aI 1 ?_;refine akj (aK false rfl akt evk rfl) ?_;refine ah ?_;have HK : Hid ((Instr.lookup 53 (.map (some mp)) (.int .i64 (n : Int)) false).run prog w1 = .ok (.pointer (some ⟨a, 0, none⟩)) w1) := ae (by
   have := HS1.out.u.map.nA HW;rwa [show mLn m (n : Int) = some a from by unfold mLn; rw [if_pos (by omega), Int.toNat_natCast, HA.out]] at this)
  have HSF : Hid (PSt w0 S0 w1 t lp mp FL1 (kyL (s.tch n).dty (s.tch n).o) (s.tch n).o.length m (s.tch n).ln (s.tch n).N (s.tch n).T (s.tch n).room r) := ae (by rw [HF.out.1, HF.out.2, HNQ.out.1, HNQ.out.2.1, HNQ.out.2.2]; exact HS1);go_upto_region 4 with fail;refine cf 1 ?_;go_upto_region 6 with fail;refine aI 2 ?_;refine akj (ax rfl akt i9) ?_;refine akj (aD rfl akt (my (PRu.c4 HS1.out.u))) ?_;refine runs 1 ?_;refine akj (dw rfl akt akt HK) ?_;refine akj (dl false underlying87 rfl akt evk rfl) ?_;refine ah ?_;go_upto_region 8 with fail;refine cf 2 ?_;go_wp2_with fail;go_ret;exact ⟨by unfold tcE; rw [HTB.out]; rfl, lp, mp, _, _, r, HSF, HOK2⟩
 ·have HTB := ae c3;have HTE : Hid ((if s.fj n = true then (0 : Int) else 10) = 0) := ae (if_pos c3);have HTW : Hid ((s.goes n && s.fj n) = false) := ae (by rw [c2]; rfl);have hx : s.ln n = none := by
   have := (hok.lL n).2 c1;cases e : s.ln n with
   |none => rfl
   |some y => rw [e] at this; cases this
  have hl := HS.out.u.ln n;rw [hx] at hl;have HMJ := ae hl.none_;have HMN : Hid (mLn m (n : Int) = none) := ae (by unfold mLn; rw [if_pos (by omega), Int.toNat_natCast, hl.none_]);have HCN := HM64;have HF : Hid ((s.tch n).o.length = s.o.length + 1 /\ (s.tch n).ln = fun j => if j = n then some (ed s.N) else s.ln j) := ae (by
   refine ⟨by rw [uJ, if_pos c3, c4, List.length_cons, l7 c1], ?_⟩;rw [oR s n c3, c4, i1 hx])
  clear c1 cl c2 c3 c4 hok hx hl;go_upto_region 1 with fail;refine aI 2 ?_;refine akj (ax rfl akt lc) ?_;refine akj (aD rfl akt (qp (PRu.c3 HS.out.u))) ?_;refine runs 1 ?_;refine ay rfl (aB call85 rfl (evc akt (evc akt evn))) ?_;refine (kG w (fun b hb => .inr hb) HL HW).mono ?_;rintro e w1 ⟨rfl, l1, t1⟩;rw [HSQ.out] at l1;obtain ⟨FL1, hs1⟩ := HS.out.list rfl l1 t1;have HS1 := ae hs1;rw [HEQ.out, HWQ.out, HG0.out, HTE.out, HTW.out];clear l1 t1 hs1;refine aR ?_;refine runs 3 ?_;refine runs 3 ?_;refine aF 1 ?_;go_upto_region 2 with fail;refine aI 1 ?_;refine akj (aK false rfl akt evk rfl) ?_;refine ah ?_;have HK : Hid ((Instr.lookup 53 (.map (some mp)) (.int .i64 (n : Int)) false).run prog w1 = .ok (.pointer none) w1) := ae (by
   have := HS1.out.u.map.nA HW;rwa [HMN.out] at this)
  go_upto_region 4 with fail;refine cf 1 ?_;go_upto_region 6 with fail;refine aI 2 ?_;refine akj (ax rfl akt i9) ?_;refine akj (aD rfl akt (my (PRu.c4 HS1.out.u))) ?_;refine runs 1 ?_;refine akj (dw rfl akt akt HK) ?_;refine akj (dl true underlying87 rfl akt evk rfl) ?_;refine ah ?_;go_upto_region 7 with fail;refine wp_region_held (S := fun w' => w'.cell? ⟨t, 0, none⟩ = some (.int .i64 (s.N : Int)) /\ w'.cell? ⟨t, 4, none⟩ = some (.map (some mp))) (by kernel_rfl) ?_;change wpAnyH _ _ _ _ _ 16 _ _ w1.drew;refine akG 0 rfl ⟨HS1.out.u.c0, HS1.out.u.c4⟩ ?_;refine akI 1 rfl ⟨HS1.out.u.c0, HS1.out.u.c4⟩ ?_;refine akm 2 rfl (fun _ hw => ax rfl akt i9) ⟨HS1.out.u.c0, HS1.out.u.c4⟩ ?_;refine akm 3 rfl (fun _ hw => aD rfl akt (my hw.2)) ⟨HS1.out.u.c0, HS1.out.u.c4⟩ ?_;refine akG 4 rfl ⟨HS1.out.u.c0, HS1.out.u.c4⟩ ?_;refine akG 5 rfl ⟨HS1.out.u.c0, HS1.out.u.c4⟩ ?_;refine akI 6 rfl ⟨HS1.out.u.c0, HS1.out.u.c4⟩ ?_;refine akm 7 rfl (fun _ hw => ax rfl akt yA) ⟨HS1.out.u.c0, HS1.out.u.c4⟩ ?_;refine akm 8 rfl (fun _ hw => ax rfl akt agk) ⟨HS1.out.u.c0, HS1.out.u.c4⟩ ?_;refine akm 9 rfl (fun _ hw => aD rfl akt (cd hw.1)) ⟨HS1.out.u.c0, HS1.out.u.c4⟩ ?_;refine eB 10 rfl (by kernel_rfl) rfl (aB call86 rfl (evc akt evn)) ?_;refine (yb s.N _ HN1 HN2).mono ?_;rintro e wA ⟨q, rfl, ⟨hq1, hq2⟩, bA⟩;have bA' : Below w1.heap.size w1 wA := ((Below.refl _ w1).drew).trans bA;have hsA := HS1.out.below bA';obtain ⟨wB, hrB, hmB, htB⟩ := hsA.u.map.abf HW HMN (by unfold maxLen; have := HCN.out; omega) q;have HRB := ae hrB;have HSB := ae (HS1.out.add HMJ bA' hq1 hq2 (dV.new HN1 HN2) htB hmB);have HSA : Hid (wA.cell? ⟨t, 0, none⟩ = some (.int .i64 (s.N : Int)) /\ wA.cell? ⟨t, 4, none⟩ = some (.map (some mp))) := ae ⟨hsA.u.c0, hsA.u.c4⟩;have HSC : Hid (wB.cell? ⟨t, 0, none⟩ = some (.int .i64 (s.N : Int)) /\ wB.cell? ⟨t, 4, none⟩ = some (.map (some mp))) := ae ⟨HSB.out.u.c0, HSB.out.u.c4⟩;clear hq1 hq2 bA bA' hsA hrB hmB htB;refine ⟨_, rfl, HSA, ?_⟩;simp only [aa];refine akG 11 rfl HSA ?_;refine akJ 12 rfl HSA ?_;refine akJ 13 rfl HSA ?_;refine dK 14 rfl (by kernel_rfl) rfl (i7 rfl (ev rfl) (ev rfl) (ev rfl) HRB.out) HSC.out ?_;simp only [Act.put];refine akH 15 rfl HSC ?_;refine wpAnyH_done (by kernel_rfl) ?_ _;have HSF : Hid (PSt w0 S0 wB t lp mp FL1 (kyL (s.tch n).dty (s.tch n).o) (s.tch n).o.length (fun j => if j = n then some q else m j) (s.tch n).ln (s.tch n).N (s.tch n).T (s.tch n).room r) := ae (by rw [HF.out.1, HF.out.2, HNQ.out.1, HNQ.out.2.1, HNQ.out.2.2]; exact HSB);go_upto_region 8 with fail;refine cf 2 ?_;go_wp2_with fail;go_ret;exact ⟨by unfold tcE; rw [HTB.out]; rfl, lp, mp, _, _, r, HSF, HOK2⟩
 ·have HTB := ae c3;have HTE : Hid ((if s.fj n = true then (0 : Int) else 10) = 10) := ae (if_neg (by rw [c3]; decide));have HTW : Hid ((s.goes n && s.fj n) = false) := ae (by rw [c3, Bool.and_false]);have HF := ae (ah9 s n c3);clear c1 cl c0 c2 c3 hok;go_upto_region 1 with fail;refine aI 2 ?_;refine akj (ax rfl akt lc) ?_;refine akj (aD rfl akt (qp (PRu.c3 HS.out.u))) ?_;refine runs 1 ?_;refine ay rfl (aB call85 rfl (evc akt (evc akt evn))) ?_;refine (kG w (fun b hb => .inr hb) HL HW).mono ?_;rintro e w1 ⟨rfl, l1, t1⟩;rw [HSQ.out] at l1;obtain ⟨FL1, hs1⟩ := HS.out.list rfl l1 t1;have HS1 := ae hs1;rw [HEQ.out, HWQ.out, HG0.out, HTE.out, HTW.out];clear l1 t1 hs1;refine aR ?_;refine runs 3 ?_;refine runs 3 ?_;refine aF 1 ?_;go_upto_region 2 with fail;refine aI 1 ?_;refine akj (aK true rfl akt evk rfl) ?_;refine ah ?_;go_upto_region 3 with fail;refine cf 2 ?_;go_wp2_with fail;go_ret;exact ⟨by unfold tcE; rw [HTB.out]; rfl, lp, mp, _, _, r, by have := HS1.out; rw [HF.out] at this ⊢; exact this, HOK2⟩
 ·have HTB := ae c3;have HTE : Hid ((if s.fj n = true then (0 : Int) else 10) = 0) := ae (if_pos c3);have HTW : Hid ((s.goes n && s.fj n) = true) := ae (by rw [c2, c3]; rfl);have HGQ : Hid (g0 = (s.gone : Int)) := ae (by rw [<- HG0.out]; exact adj hok n c2 c3);obtain ⟨hgm, _⟩ := hok.gone c0;have hgT := hok.lt _ hgm;have hx : s.ln n = none := by
   have := (hok.lL n).2 c1;cases e : s.ln n with
   |none => rfl
   |some y => rw [e] at this; cases this
  have hl := HS.out.u.ln n;rw [hx] at hl;obtain ⟨xg, hxg⟩ := Option.isSome_iff_exists.1 ((hok.mem s.gone).1 hgm);have hlg := HS.out.u.ln s.gone;rw [hxg] at hlg;obtain ⟨ag, hag, _, _⟩ := hlg.some_;have hne : n ≠ s.gone := fun e => c1 (by rw [e]; exact hgm)
  obtain ⟨gn, hgn⟩ : ∃ gn, s.gone = gn := ⟨_, rfl⟩;obtain ⟨cn, hcn⟩ : ∃ cn, s.o.length = cn + 1 := ⟨s.o.length - 1, by have := List.length_pos_of_mem hgm; omega⟩;have HCN : Hid (cn <= 64) := ae (by have := HM64.out; omega);have HMJ : Hid ((fun j => if j = gn then none else m j) n = none) := ae (by dsimp only; rw [if_neg (by rw [<- hgn]; exact hne)]; exact hl.none_);have HMN : Hid (mLn (fun j => if j = gn then none else m j) (n : Int) = none) := ae (by unfold mLn; rw [if_pos (by omega), Int.toNat_natCast]; exact HMJ);have HMG : Hid ((mLn m (gn : Int)).isSome = true) := ae (by unfold mLn; rw [if_pos (by omega), Int.toNat_natCast, <- hgn, hag]; rfl);have HWG := ae (jP (n := gn) (by rw [<- hgn]; have := hok.t64; omega));have HF : Hid ((s.tch n).o.length = cn + 1 /\ (s.tch n).ln = fun j => if j = n then some (ed s.N) else (if j = gn then none else s.ln j)) := ae (by
   refine ⟨?_, ?_⟩
   ·rw [uJ, if_pos c3, c4, List.length_cons]
    show (eO (eO s.o s.gone) n).length + 1 = _
    rw [l7 (n := n) (o := eO s.o s.gone) fun e => c1 (iu.1 e).1, rf hok.nd hgm, hcn]
   ·rw [oR s n c3, c4, i1 hx, <- hgn]
    rfl)
  rw [hgn] at HGQ;have HCQ := ae hcn;clear c1 cl c0 c2 c3 c4 hok hx hl hgm hgT hxg hlg hag hne hgn hcn;go_upto_region 1 with fail;refine aI 2 ?_;refine akj (ax rfl akt lc) ?_;refine akj (aD rfl akt (qp (PRu.c3 HS.out.u))) ?_;refine runs 1 ?_;refine ay rfl (aB call85 rfl (evc akt (evc akt evn))) ?_;refine (kG w (fun b hb => .inr hb) HL HW).mono ?_;rintro e w1 ⟨rfl, l1, t1⟩;rw [HSQ.out] at l1;obtain ⟨FL1, hs1⟩ := HS.out.list rfl l1 t1;have HS1 := ae hs1;rw [HEQ.out, HWQ.out, HG0.out, HTE.out, HTW.out];clear l1 t1 hs1;refine aR ?_;refine runs 3 ?_;refine runs 3 ?_;refine aF 1 ?_;go_upto_region 2 with fail;refine aI 1 ?_;refine akj (aK false rfl akt evk rfl) ?_;refine ah ?_;have HS1' : Hid (PSt w0 S0 w1 t lp mp FL1 (kyL (s.tch n).dty (s.tch n).o) (cn + 1) m s.ln s.N s.T s.room r) := ae (by have := HS1.out; rwa [HCQ.out] at this);rw [HGQ.out];go_upto_region 4 with fail;refine cf 1 ?_;go_upto_region 5 with fail;refine aI 2 ?_;refine akj (ax rfl akt i9) ?_;refine akj (aD rfl akt (my (PRu.c4 HS1.out.u))) ?_;refine runs 1 ?_;refine vj rfl rfl akt akt HS1'.out.u.map HWG HMG ?_;intro w2 hm2 ht2;simp only [aa];refine ah ?_;have HS2 := ae (HS1'.out.del ht2 hm2);clear hm2 ht2;have HK : Hid ((Instr.lookup 53 (.map (some mp)) (.int .i64 (n : Int)) false).run prog w2 = .ok (.pointer none) w2) := ae (by
   have := HS2.out.u.map.nA HW;rwa [HMN.out] at this)
  go_upto_region 6 with fail;refine aI 2 ?_;refine akj (ax rfl akt i9) ?_;refine akj (aD rfl akt (my (PRu.c4 HS2.out.u))) ?_;refine runs 1 ?_;refine akj (dw rfl akt akt HK) ?_;refine akj (dl true underlying87 rfl akt evk rfl) ?_;refine ah ?_;go_upto_region 7 with fail;refine wp_region_held (S := fun w' => w'.cell? ⟨t, 0, none⟩ = some (.int .i64 (s.N : Int)) /\ w'.cell? ⟨t, 4, none⟩ = some (.map (some mp))) (by kernel_rfl) ?_;change wpAnyH _ _ _ _ _ 16 _ _ w2.drew;refine akG 0 rfl ⟨HS2.out.u.c0, HS2.out.u.c4⟩ ?_;refine akI 1 rfl ⟨HS2.out.u.c0, HS2.out.u.c4⟩ ?_;refine akm 2 rfl (fun _ hw => ax rfl akt i9) ⟨HS2.out.u.c0, HS2.out.u.c4⟩ ?_;refine akm 3 rfl (fun _ hw => aD rfl akt (my hw.2)) ⟨HS2.out.u.c0, HS2.out.u.c4⟩ ?_;refine akG 4 rfl ⟨HS2.out.u.c0, HS2.out.u.c4⟩ ?_;refine akG 5 rfl ⟨HS2.out.u.c0, HS2.out.u.c4⟩ ?_;refine akI 6 rfl ⟨HS2.out.u.c0, HS2.out.u.c4⟩ ?_;refine akm 7 rfl (fun _ hw => ax rfl akt yA) ⟨HS2.out.u.c0, HS2.out.u.c4⟩ ?_;refine akm 8 rfl (fun _ hw => ax rfl akt agk) ⟨HS2.out.u.c0, HS2.out.u.c4⟩ ?_;refine akm 9 rfl (fun _ hw => aD rfl akt (cd hw.1)) ⟨HS2.out.u.c0, HS2.out.u.c4⟩ ?_;refine eB 10 rfl (by kernel_rfl) rfl (aB call86 rfl (evc akt evn)) ?_;refine (yb s.N _ HN1 HN2).mono ?_;rintro e wA ⟨q, rfl, ⟨hq1, hq2⟩, bA⟩;have bA' : Below w2.heap.size w2 wA := ((Below.refl _ w2).drew).trans bA;have hsA := HS2.out.below bA';obtain ⟨wB, hrB, hmB, htB⟩ := hsA.u.map.abf HW HMN (by unfold maxLen; have := HCN.out; omega) q;have HRB := ae hrB;have HSB := ae (HS2.out.add HMJ bA' hq1 hq2 (dV.new HN1 HN2) htB hmB);have HSA : Hid (wA.cell? ⟨t, 0, none⟩ = some (.int .i64 (s.N : Int)) /\ wA.cell? ⟨t, 4, none⟩ = some (.map (some mp))) := ae ⟨hsA.u.c0, hsA.u.c4⟩;have HSC : Hid (wB.cell? ⟨t, 0, none⟩ = some (.int .i64 (s.N : Int)) /\ wB.cell? ⟨t, 4, none⟩ = some (.map (some mp))) := ae ⟨HSB.out.u.c0, HSB.out.u.c4⟩;clear hq1 hq2 bA bA' hsA hrB hmB htB;refine ⟨_, rfl, HSA, ?_⟩;simp only [aa];refine akG 11 rfl HSA ?_;refine akJ 12 rfl HSA ?_;refine akJ 13 rfl HSA ?_;refine dK 14 rfl (by kernel_rfl) rfl (i7 rfl (ev rfl) (ev rfl) (ev rfl) HRB.out) HSC.out ?_;simp only [Act.put];refine akH 15 rfl HSC ?_;refine wpAnyH_done (by kernel_rfl) ?_ _;have HSF : Hid (PSt w0 S0 wB t lp mp FL1 (kyL (s.tch n).dty (s.tch n).o) (s.tch n).o.length (fun j => if j = n then some q else (fun j => if j = gn then none else m j) j) (s.tch n).ln (s.tch n).N (s.tch n).T (s.tch n).room r) := ae (by rw [HF.out.1, HF.out.2, HNQ.out.1, HNQ.out.2.1, HNQ.out.2.2]; exact HSB);go_upto_region 8 with fail;refine cf 2 ?_;go_wp2_with fail;go_ret;exact ⟨by unfold tcE; rw [HTB.out]; rfl, lp, mp, _, _, r, HSF, HOK2⟩
def emR : Value -> Option (DataW Unit × List MemPlace)
 |.agg a => if a.size = 0 then some (.nil, []) else none
 |_ => none
def jW (w : World) (b N : Nat) (P : Int -> Bool) : Prop :=
 ∃ D : DataW Unit, w.ownsMap prog 3 emR b N D /\ Maps.size D = N /\ ∀ k, (Lit.int .i64 k).wf = true -> Maps.has D (.int .i64 k) = P k
section
variable {w w' : World} {b N : Nat} {P : Int -> Bool} {k : Int}
theorem jW.kept (h : jW w b N P) (hk : ∀ es c, w.heap[b]? = some (.map es c) -> w'.heap[b]? = some (.map es c)) : jW w' b N P := by
 obtain ⟨D, ⟨es, c, hb, r⟩, h2⟩ := h;exact ⟨D, ⟨es, c, hk es c hb, r⟩, h2⟩
theorem jW.below (h : jW w b N P) (hb : Below w.heap.size w w') : jW w' b N P := h.kept fun es c e => aC e hb
theorem jW.made (w : World) : jW (w.alloc (.map #[] 0)) w.heap.size 0 (fun _ => false) :=
 ⟨.map [], World.ownsMap_made _ _ _ _, rfl, fun k _ => rfl⟩
theorem jW.len (h : jW w b N P) (ty : TypeId) : (Builtin.len_ #[150] ty #[.map (some b)]).run prog w = .ok (.int .i64 (N : Int)) w := by
 obtain ⟨D, h1, h2, _⟩ := h;rw [h1.len underlying150 ty, h2]
theorem jW.store (h : jW w b N P) (hw : (Lit.int .i64 k).wf = true) (hN : N < maxLen) :
  ∃ w', (Instr.mapUpdate 150 (.map (some b)) (.int .i64 k) (.agg #[])).run prog w = .ok () w' /\ jW w' b (if P k = true then N else N + 1) (fun j => decide (j = k) || P j) /\ w.mapTurned w' b := by
 obtain ⟨D, h1, h2, h3⟩ := h;obtain ⟨w', hr, ho, ht⟩ := h1.store fy underlying150 hN (qw hw) (show emR (.agg #[]) = some (.nil, []) from rfl);have hT := h1.tidy fy;have hk : WideAt.IsKeyLit (Lit.int .i64 k) := fy.key (qw hw);have hs : Maps.size (D.put (.int .i64 k) (.nil : DataW Unit)) = if P k = true then N else N + 1 := by
  rw [Maps.size_put hT, h3 k hw, h2]
 refine ⟨w', hr, ⟨_, by
  obtain ⟨es, clock, hb, F, hs', he⟩ := ho;rw [<- hs];exact ⟨es, clock, hb, F, by rw [he]; simp [Maps.size, length_sorted], he⟩, hs, fun j hj => ?_⟩, ht⟩
 by_cases e : j = k
 ·subst e;dsimp only;rw [Maps.has_put_same hT.isMap hk, ao rfl]
  rfl
 ·dsimp only;rw [Maps.has_put_other (jF e), am e, h3 j hj]
  rfl
theorem zj {ρ : Operand -> Value} {o : Oper} {x : Operand} (ho : o.op = .call { callee := .builtin .len, args := #[x], argTypes := #[150] }) (hx : ρ x = .map (some b)) (h : jW w b N P) : (execOp ρ o).run prog w = .ok (.value (.int .i64 (N : Int))) w := by
 simp [execOp, ho, resolve, invoke, builtin, hx, h.len, Result.andThen]
theorem xU {ρ : Operand -> Value} {o : Oper} (ho : o.op = .build 151 #[]) : (execOp ρ o).run prog w = .ok (.value (.agg #[])) w := by
 have h : (Instr.build 151 #[]).run prog w = .ok (.agg #[]) w := by kernel_rfl
 unfold execOp;simp [ho, h, Result.andThen]
def MapU (w : World) (b : Nat) (U : List Int) : Prop := jW w b U.length (fun j => U.contains j)
theorem MapU.store {U : List Int} (h : MapU w b U) (hw : (Lit.int .i64 k).wf = true) (hN : U.length < maxLen) :
  ∃ w', (Instr.mapUpdate 150 (.map (some b)) (.int .i64 k) (.agg #[])).run prog w = .ok () w' /\ MapU w' b (if U.contains k = true then U else U ++ [k]) /\ w.mapTurned w' b := by
 obtain ⟨w', h1, h2, h3⟩ := jW.store h hw hN;refine ⟨w', h1, ?_, h3⟩;unfold MapU;have e1 : (if U.contains k = true then U else U ++ [k]).length = if U.contains k = true then U.length else U.length + 1 := by split <;> simp
 have e2 : (fun j => (if U.contains k = true then U else U ++ [k]).contains j) = fun j => decide (j = k) || U.contains j := funext fun j => by
  by_cases hc : U.contains k = true
  ·rw [if_pos hc];by_cases e : j = k
   ·subst e; rw [hc, ao rfl]; rfl
   ·rw [am e]; rfl
  ·rw [if_neg hc, Bool.eq_iff_iff];simp [or_comm]
 rw [e1, e2];exact h2
theorem MapU.below {U : List Int} (h : MapU w b U) (hb : Below w.heap.size w w') : MapU w' b U := jW.below h hb
end
section
variable {w : World} {t lp mp K : Nat} {FL : Nat -> Prop} {m : Nat -> Option Nat} {r : Int} {s : ShS}
theorem rP {l : List Int} {A : Option Addr} {nl cl : Nat} (h : PRu w t lp mp FL (kyL s.dty s.o) s.o.length m s.ln s.N s.T s.room r) (hok : bW s) (hl : RdE bP w w.heap.size A nl l) (hwf : ∀ x ∈ l, (Lit.int .i64 x).wf = true) (hbig : l.length <= 17592186043904) : Calls prog 52 #[.pointer (some ⟨t, 0, none⟩), .slice A nl cl] w fun e w' => e = .returned (.bool (s.fits l)) /\ Below w.heap.size w w' := by
 have hnl := hl.1;subst hnl;have HBG := ae hbig;have HOK := ae hok;have HDL : Hid (s.cX.length <= 64) := ae (aq (vp _ _) hok.t64);have HDR := ae hok.vn;have HD64 : Hid (∀ i, i < s.cX.length -> (Lit.int .i64 (s.cX.getD i 0)).wf = true) := ae fun i hi => by
  have hm : s.cX.getD i 0 ∈ s.cX := cI hi;obtain ⟨j, e, hj, _⟩ := gp.1 hm;rw [e];exact jP (by have := hok.t64; omega)
 have HLW : Hid (∀ i, i < l.length -> (Lit.int .i64 (l.getD i 0)).wf = true) := ae fun i hi => hwf _ (cI hi)
 have HUN : Hid (∀ i, eZ [] (s.cX.take i) = s.cX.take i) := ae (ack s);obtain ⟨D, hD⟩ : ∃ D, s.cX = D := ⟨_, rfl⟩;have HF0 : Hid (s.fits l = decide ((eZ D l).length <= s.room)) := ae (by unfold ShS.fits; rw [hD]);obtain ⟨ft, hft⟩ : ∃ ft, s.fits l = ft := ⟨_, rfl⟩;rw [hft] at HF0;rw [hD] at HDL HDR HD64 HUN;rw [hft];have HDQ := ae hD;clear hD hft;have hbx := (Below.refl w.heap.size w).alloc aj (.map #[] 0);have HS1 := ae (jW.made w);have HH0 := ae h;have HH := ae (h.below hbx);have HL := ae hl;have HB := ae hbx;have HSZ : Hid ((w.alloc (.map #[] 0)).heap.size = w.heap.size + 1) := ae (World.size_alloc ..);clear h hok hl hwf hbig hbx;go_enter func52, ntmps52;go_upto_region 1 with fail;refine aI 1 ?_;refine ay rfl (aB call50 rfl (evc akt evn)) ?_;refine (oa HH0).mono ?_;rintro e w' ⟨rfl, rfl⟩;refine aR ?_;refine aF 1 ?_;go_upto_region 3 with fail;refine af ?_;refine akj (oL rfl) ?_;refine aF 1 ?_;obtain ⟨bm, hbm⟩ : ∃ bm, w.heap.size = bm := ⟨_, rfl⟩;rw [hbm] at HS1 HSZ;have HBM := ae hbm;rw [hbm];generalize w.alloc (.map #[] 0) = w1 at *;clear hbm;go_upto_region 4 with fail;refine aI 1 ?_;refine ay rfl (aB call7 rfl (evc akt evn)) ?_;refine (tW HH HOK).mono ?_;rintro e w2 ⟨v2, rfl, m2, b2⟩;rw [HDQ.out] at m2;obtain ⟨A2, c2, rfl, _, _⟩ := m2.form;have HM2 := ae m2;have HB2 := ae (HB.out.trans (b2.mono HB.out.size));have HH2 := ae (HH.out.below b2);have HS2 := ae (HS1.out.below b2);clear m2 b2;refine aR ?_;refine akj (eD bP rfl akt) ?_;refine aF 1 ?_;go_wp2_with fail
 go_loopw [7, 17] (fun u c wr => ∃ i : Nat, c = .int .i64 i /\ i <= D.length /\ MapU wr bm (D.take i) /\ aN bP wr w1.heap.size (.slice A2 D.length c2) D /\ PRu wr t lp mp FL (kyL s.dty s.o) s.o.length m s.ln s.N s.T s.room r /\ Below bm w wr) (fun _ c _ => D.length - (intOf c).toNat)
 case atStart => exact ⟨0, by go_num, Nat.zero_le _, HS2, HM2, HH2, by have := HB2.out; rwa [HBM.out] at this⟩
 case round =>
  obtain ⟨i, rfl, hi, hs, hm, hh, hb⟩ := hrel;have HSr := ae hs;have HMr := ae hm;have HHr := ae hh;have HWr := ae hb;clear hs hm hh hb;by_cases hlt : i < D.length
  ·have HI := ae hlt;have HT : Hid (decide ((i : Int) < (D.length : Int)) = true) := ae (ao (by omega));have HA : Hid (IntKind.i64.wrap ((i : Int) + 1) = ((i + 1 : Nat) : Int)) := ae (by have := HDL.out; rw [el ⟨by omega, by omega⟩]; omega);obtain ⟨b, off, hA, _, hc⟩ := HMr.out.rd.int (k := i) hlt;subst hA;have HC := ae hc;obtain ⟨wn, hrn, hmn, htn⟩ := HSr.out.store (HD64.out i hlt) (by unfold maxLen; have := HDL.out; rw [List.length_take]; omega);have hst : (if (D.take i).contains (D.getD i 0) = true then D.take i else D.take i ++ [D.getD i 0]) = D.take (i + 1) := by
    have := pY [] (D.take i) (D.getD i 0);rw [<- vv hlt, HUN.out, HUN.out] at this;exact this.symm
   rw [hst] at hmn;have hg := htn.grown;have hmp : mp ≠ bm := fun e => by
    obtain ⟨es, q, hq⟩ := HH0.out.agQ;have := aU hq;rw [HBM.out] at this;omega
   have hlow : ∀ q, ql t mp FL m q -> q ≠ bm := fun q hq e => by
    have := HH0.out.size q hq;rw [HBM.out] at this;omega
   have HRN := ae hrn;have HMN := ae hmn;have HHN := ae (HHr.out.only (fC (F := fun j => j = bm) htn rfl) hlow);have HRD : Hid (aN bP wn w1.heap.size (.slice (some ⟨b, off, none⟩) D.length c2) D) := ae (HMr.out.kept hg (by
    cases ho : (Value.slice (some ⟨b, off, none⟩) D.length c2).ownBlock with
    |none => exact .inl rfl
    |some q =>
     right
     intro e;injection e with e;have := HMr.out.gH q ho;have := HSZ.out;omega))
   have HWN : Hid (Below bm w wn) := ae ((HWr.out).grown hg (aq (Nat.le_of_eq HBM.out.symm) HWr.out.size) fun j hj => by injection hj with hj; subst hj; exact aj);clear hi hlt hc hrn hmn htn hst hg hmp hlow;go_upto_region 5 with fail;refine af ?_;refine akj (aY true rfl akt akt HT) ?_;refine ah ?_;go_upto_region 6 with fail;refine af ?_;refine akj (co (E := bP) rfl akt akt HI) ?_;refine akj (aD rfl akt (cd (by rw [show i * bP.n = i from Nat.mul_one i]; exact HC.out))) ?_;refine aF 1 ?_;go_upto_region 7 with fail;refine aI 2 ?_;refine akj (xU rfl) ?_;refine aG rfl (i7 rfl (ev rfl) (ev rfl) (ev rfl) HRN.out) ?_;simp only [aa];refine ah ?_;go_upto_region 8 with fail;refine af ?_;refine akj (bH rfl akt evk HA) ?_;refine aF 1 ?_;go_wp2_with fail;go_roundw
   case rel => exact ⟨i + 1, by go_num, HI, HMN, HRD, HHN, HWN⟩
   case measure => have := HI.out; simp [intOf]; omega
  have hin : i = D.length := by omega
  have HT : Hid (decide ((i : Int) < (D.length : Int)) = false) := ae (am (by omega));have HSD : Hid (MapU wr bm D) := ae (by have := HSr.out; rwa [hin, List.take_length] at this);clear hlt hi hin;go_upto_region 5 with fail;refine af ?_;refine akj (aY false rfl akt akt HT) ?_;refine ah ?_;go_upto_region 9 with fail;refine aI 1 ?_;refine akj (eD bP rfl akt) ?_;refine aF 1 ?_;have HLD : Hid (RdE bP wr wr.heap.size A l.length l) := ae (((HL.out).below (by rw [HBM.out]; exact HWr)).more HWr.out.size);go_wp2_with fail
  go_loopw [9, 27] (fun u c wx => ∃ i : Nat, c = .int .i64 i /\ i <= l.length /\ MapU wx bm (eZ D (l.take i)) /\ (eZ D (l.take i)).length <= s.room /\ PRu wx t lp mp FL (kyL s.dty s.o) s.o.length m s.ln s.N s.T s.room r /\ Below bm w wx) (fun _ c _ => l.length - (intOf c).toNat)
  case atStart => exact ⟨0, by go_num, Nat.zero_le _, HSD, HDR, HHr, HWr⟩
  case round =>
   obtain ⟨i, rfl, hi, hs, hrm, hh, hb⟩ := hrel;have HSx := ae hs;have HHx := ae hh;have HWx := ae hb;have HRM := ae hrm;clear hs hh hb hrm;by_cases hlt : i < l.length
   ·have HI := ae hlt;have HT2 : Hid (decide ((i : Int) < (l.length : Int)) = true) := ae (ao (by omega));have HA : Hid (IntKind.i64.wrap ((i : Int) + 1) = ((i + 1 : Nat) : Int)) := ae (by have := HBG.out; rw [el ⟨by omega, by omega⟩]; omega);obtain ⟨b, off, hA, _, hc⟩ := ((HL.out).below (by rw [HBM.out]; exact HWx)).int (k := i) hlt;subst hA;have HC := ae hc;have hr64 := HOK.out.r64;obtain ⟨wn, hrn, hmn, htn⟩ := HSx.out.store (HLW.out i hlt) (by unfold maxLen; have := HRM.out; omega);obtain ⟨U, hU⟩ : ∃ U, eZ D (l.take (i + 1)) = U := ⟨_, rfl⟩;have hst : (if (eZ D (l.take i)).contains (l.getD i 0) = true then eZ D (l.take i) else eZ D (l.take i) ++ [l.getD i 0]) = U := by
     rw [<- hU, vv hlt, pY]
    rw [hst] at hmn;have hg := htn.grown;have hlow : ∀ q, ql t mp FL m q -> q ≠ bm := fun q hq e => by
     have := HH0.out.size q hq;rw [HBM.out] at this;omega
    have HRN := ae hrn;have HMN := ae hmn;have HHN := ae (HHx.out.only (fC (F := fun j => j = bm) htn rfl) hlow);have HWN : Hid (Below bm w wn) := ae ((HWx.out).grown hg (aq (Nat.le_of_eq HBM.out.symm) HWx.out.size) fun j hj => by injection hj with hj; subst hj; exact aj);have HUQ := ae hU;clear hi hlt hc hrn hmn htn hst hg hlow hr64 hU;go_upto_region 10 with fail;refine af ?_;refine akj (aY true rfl akt akt HT2) ?_;refine ah ?_;go_upto_region 11 with fail;refine af ?_;refine akj (co (E := bP) rfl akt akt HI) ?_;refine akj (aD rfl akt (cd (by rw [show i * bP.n = i from Nat.mul_one i]; exact HC.out))) ?_;refine aF 1 ?_;go_upto_region 12 with fail;refine aI 2 ?_;refine akj (xU rfl) ?_;refine aG rfl (i7 rfl (ev rfl) (ev rfl) (ev rfl) HRN.out) ?_;simp only [aa];refine ah ?_;go_upto_region 13 with fail;refine aS (B := wn.heap.size) (by kernel_rfl) ?_;refine cC 1 ?_;refine akr (fun _ hw => zj rfl akt (MapU.below HMN hw)) ?_;refine cC 2 ?_;refine akr (fun _ hw => ax rfl akt lc) ?_;refine akr (fun _ hw => aD rfl akt (qp (PRu.c3 (HHN.out.below hw)))) ?_;refine bQ rfl (fun _ => aB call84 rfl (evc akt evn)) (bz aj fun _ hw => (adC _ (HHN.out.below hw).li).mono fun _ _ h => ⟨h.1, by rw [<- h.2]; exact ak⟩) ?_;simp only [aa];by_cases hq : s.room < U.length
    ·have HQ : Hid (decide ((s.room : Int) < (U.length : Int)) = true) := ae (ao (by omega));have HFF : Hid (ft = false) := ae (by
      rw [HF0.out];have := aat D l (i + 1);rw [HUQ.out] at this;exact am (by omega))
     clear hq;refine akr (fun _ hw => dA true rfl akt akt HQ) ?_;refine wpQuiet_nil ?_;intro w13 hw;have HWZ := ae (HWN.out.trans (hw.mono (aq (Nat.le_of_eq HBM.out.symm) HWN.out.size)));clear hw;go_wp2_with fail;go_ret;exact ⟨by rw [HFF.out]; rfl, by rw [HBM.out]; exact HWZ⟩
    have HQ : Hid (decide ((s.room : Int) < (U.length : Int)) = false) := ae (am (by omega));have HQ2 : Hid (U.length <= s.room) := ae (by omega);clear hq;refine akr (fun _ hw => dA false rfl akt akt HQ) ?_;refine wpQuiet_nil ?_;intro w13 hw;have HWZ := ae (HWN.out.trans (hw.mono (aq (Nat.le_of_eq HBM.out.symm) HWN.out.size)));have HMZ := ae (MapU.below HMN hw);have HHZ := ae (HHN.out.below hw);clear hw;go_upto_region 15 with fail;refine af ?_;refine akj (bH rfl akt evk HA) ?_;refine aF 1 ?_;go_wp2_with fail;go_roundw
    case rel => exact ⟨i + 1, by go_num, HI, by rw [HUQ.out]; exact HMZ, by rw [HUQ.out]; exact HQ2, HHZ, HWZ⟩
    case measure => have := HI.out; simp [intOf]; omega
   have hin : i = l.length := by omega
   have HT2 : Hid (decide ((i : Int) < (l.length : Int)) = false) := ae (am (by omega));have HFF : Hid (ft = true) := ae (by
    rw [HF0.out];have := HRM.out;rw [hin, List.take_length] at this;exact ao this)
   clear hlt hi hin;go_upto_region 10 with fail;refine af ?_;refine akj (aY false rfl akt akt HT2) ?_;refine ah ?_;go_wp2_with fail;go_ret;exact ⟨by rw [HFF.out]; rfl, by rw [HBM.out]; exact HWx⟩
end
def pPl (N n : Nat) : Nat := N - 1 - n % N
def kD (N n : Nat) (x : Cl) : Bool := decide (x.s = (n : Int)) && decide (x.m = ((pPl N n : Nat) : Int))
section
variable {s : ShS} {Q i : Nat} {c : List c8}
theorem lO (hi : i < c.length) : (c.map bS).getD i iH = bS (c.getD i cP) := by
 rw [List.getD, List.getElem?_map, List.getD, List.getElem?_eq_getElem hi]
 rfl
theorem aeG (hi : i < c.length) : (c.take (i + 1)).map c8.n = (c.take i).map c8.n ++ [(c.getD i cP).n] := by
 rw [List.take_add_one, List.getElem?_eq_getElem hi, List.map_append, List.getD, List.getElem?_eq_getElem hi]
 rfl
theorem acU {f : c8 -> Bool} (hi : i < c.length) : (c.take (i + 1)).all f = ((c.take i).all f && f (c.getD i cP)) := by
 rw [List.take_add_one, List.getElem?_eq_getElem hi, List.getD, List.getElem?_eq_getElem hi, List.all_append];simp
theorem afC {f : c8 -> Bool} (hi : i < c.length) (h : f (c.getD i cP) = false) : c.all f = false := by
 rw [Bool.eq_false_iff];intro e;have := List.all_eq_true.1 e (c.getD i cP) (by rw [List.getD, List.getElem?_eq_getElem hi]; exact List.getElem_mem hi);rw [h] at this;cases this
structure ajd (s : ShS) (Q : Nat) (c : List c8) (i k m : Nat) : Prop where
 mN : m < s.N
 n : (c.getD i cP).n = (k : Int)
 m : (c.getD i cP).m = (m : Int)
 kT : k < s.T
 ok : bW ((c.take i).foldl (dq Q) s)
 T : ((c.take i).foldl (dq Q) s).T = s.T
 tok : bW (((c.take i).foldl (dq Q) s).tch k)
 tT : (((c.take i).foldl (dq Q) s).tch k).T = s.T
 tln : (((c.take i).foldl (dq Q) s).tch k).ln k = some (((c.take i).foldl (dq Q) s).ch k)
 nxt : (c.take (i + 1)).foldl (dq Q) s = (((c.take i).foldl (dq Q) s).tch k).eu k (some (ey (((c.take i).foldl (dq Q) s).ch k) (c.getD i cP).m (c.getD i cP).b Q))
 nok : bW ((c.take (i + 1)).foldl (dq Q) s)
 tb : ((c.take i).foldl (dq Q) s).fj k = true
 n0 : Q ≠ 0
theorem acH (h : bW s) (hq : iV s Q c = 0) (hQ : Q < 18446744073709551616) (hi : i < c.length) : ∃ k m : Nat, ajd s Q c i k m := by
 obtain ⟨h1, h2, h3⟩ := n7 hq;have hx : c.getD i cP ∈ c := by rw [List.getD, List.getElem?_eq_getElem hi]; exact List.getElem_mem hi
 have hp := h1 _ hx;obtain ⟨k, m, e1, hk, e2, hmN⟩ := iF hp;have ih := gU h hq hQ i (Nat.le_of_lt hi);have ih1 := gU h hq hQ (i + 1) hi;have hs := ih.step (p := c.getD i cP) h3 hp ((j5 _ _).2 (.inr (List.mem_map.2 ⟨_, hx, rfl⟩))) h2 hQ;have ek : (c.getD i cP).n.toNat = k := by omega
 rw [ek] at hs;have ht := pU hs.1;refine ⟨k, m, hmN, e1, e2, hk, ih.ok, ih.T, hs.2.1, (ShS.pl _ _).2.1.trans ih.T, ht, ?_, ih1.ok, hs.1, h2⟩;rw [eP _ _ (d := cP) hi];generalize (c.take i).foldl (dq Q) s = s1 at *;unfold dq;rw [ek, eE ht]
structure ai8 (s2 : ShS) (c : List c8) (i k : Nat) : Prop where
 ok : bW ((c.take i).foldl (cz c) s2)
 N : ((c.take i).foldl (cz c) s2).N = s2.N
 T : ((c.take i).foldl (cz c) s2).T = s2.T
 ln : ((c.take i).foldl (cz c) s2).ln k = some (((c.take i).foldl (cz c) s2).ch k)
 yes : (c.map bS).any (kD ((c.take i).foldl (cz c) s2).N k) = true -> (c.take (i + 1)).foldl (cz c) s2 = (c.take i).foldl (cz c) s2
 no : (c.map bS).any (kD ((c.take i).foldl (cz c) s2).N k) = false -> (c.take (i + 1)).foldl (cz c) s2 = ((c.take i).foldl (cz c) s2).eu k (some (fW (((c.take i).foldl (cz c) s2).ch k) ((pPl ((c.take i).foldl (cz c) s2).N k : Nat) : Int)))
 nok : bW ((c.take (i + 1)).foldl (cz c) s2)
theorem yN (N k : Nat) : (c.map bS).any (kD N k) = r8 N c (k : Int) := by
 rw [List.any_map];unfold r8
 congr 1
theorem abp {s2 : ShS} {k : Nat} (h : bW s2) (hp : ∀ x ∈ c, (s2.ln x.n.toNat).isSome = true) (hi : i < c.length) (hn : (c.getD i cP).n = (k : Int)) : ai8 s2 c i k := by
 have hx : c.getD i cP ∈ c := by rw [List.getD, List.getElem?_eq_getElem hi]; exact List.getElem_mem hi
 have ih := i8 h c hp i (Nat.le_of_lt hi);have ih1 := i8 h c hp (i + 1) hi;have ek : (c.getD i cP).n.toNat = k := by omega
 have hl : (((c.take i).foldl (cz c) s2).ln k).isSome = true := by rw [ih.some, <- ek]; exact hp _ hx
 obtain ⟨y, hy⟩ := Option.isSome_iff_exists.1 hl;refine ⟨ih.ok, ih.N, ih.T, by rw [hy, eE hy], fun e => ?_, fun e => ?_, ih1.ok⟩
 ·rw [yN] at e;rw [eP _ _ (d := cP) hi];generalize (c.take i).foldl (cz c) s2 = s1 at *
  show cz c _ (c.getD i cP) = _
  unfold cz;rw [hn, if_pos e]
 ·rw [yN] at e;rw [eP _ _ (d := cP) hi];generalize (c.take i).foldl (cz c) s2 = s1 at *
  show cz c _ (c.getD i cP) = _
  unfold cz pPl;rw [hn, if_neg (by rw [e]; decide), Int.toNat_natCast]
end
def stz (c : List c8) (n i : Nat) : List Int := (c.take i).map c8.n ++ List.replicate (n - i) 0
section
variable {c : List c8} {n i : Nat}
theorem ab1 : stz c n 0 = List.replicate n 0 := by simp [stz]
theorem aeJ (h : c.length = n) : stz c n n = c.map c8.n := by subst h; simp [stz]
theorem afj (h : c.length = n) (hi : i < n) : (stz c n i).set i (c.getD i cP).n = stz c n (i + 1) := by
 unfold stz;have hl : ((c.take i).map c8.n).length = i := by rw [List.length_map, List.length_take]; omega
 obtain ⟨d, hd⟩ : ∃ d, n - i = d + 1 := ⟨n - i - 1, by omega⟩;rw [List.set_append_right _ _ (by omega), hl, Nat.sub_self, hd, List.replicate_succ, List.set_cons_zero, show n - (i + 1) = d by omega, aeG (by omega), List.append_assoc]
 rfl
end
theorem ah3 {w : World} {b k : Nat} {a : Int} (h : w.there b k 1) : (Instr.storeAt 3 (.pointer (some ⟨b, k, none⟩)) (.int .i64 a)).run prog w = .ok () (w.setCells b k (bP.cel a)) := by
 obtain ⟨h1, h2⟩ := h 0 (by omega);rw [Nat.add_zero] at h1 h2;obtain ⟨u, hu⟩ := Option.isSome_iff_exists.1 h1;simp [go_sem, hu, h2, bP, World.setCells]
section
variable {w : World} {t lp mp K : Nat} {FL : Nat -> Prop} {m : Nat -> Option Nat} {r : Int} {s : ShS}
theorem aaQ {Q nc cc : Nat} {A : Option Addr} {c : List c8} (h : PRu w t lp mp FL (kyL s.dty s.o) s.o.length m s.ln s.N s.T s.room r) (hok : bW s) (hn0 : nc <= 1000000) (hc : RdE cH w w.heap.size A nc (c.map bS)) (hcn : c.length = nc) : Calls prog 21 #[.pointer (some ⟨t, 0, none⟩), .int .u64 (Q : Int), .slice A nc cc] w fun e w' => e = .returned (.int .i64 (iV s Q c)) /\ Below w.heap.size w w' := by
 have HH := ae h;have HOK := ae hok;have HC := ae hc;have HCN := ae hcn;have HN0 := ae hn0;have hmz := qi bP rfl w nc w.heap.size aj hn0;have hb1 := (Below.refl w.heap.size w).alloc aj (.cells (madeCells bP.z.cells (nc * bP.n)) bP.t);have HBZ := ae hb1;have HM0 : Hid (aN bP (w.alloc (.cells (madeCells bP.z.cells (nc * bP.n)) bP.t)) w.heap.size (.slice (some ⟨w.heap.size, 0, none⟩) nc nc) (List.replicate nc 0)) := ae hmz;obtain ⟨pq, hpq⟩ : ∃ pq, iV s Q c = pq := ⟨_, rfl⟩;have HPQ := ae hpq;rw [hpq];clear h hok hc hcn hn0 hmz hb1 hpq;go_enter func21, ntmps21;go_upto_region 1 with fail;refine aI 1 ?_;refine ay rfl (aB call50 rfl (evc akt evn)) ?_;refine (oa HH).mono ?_;rintro e w' ⟨rfl, rfl⟩;refine aR ?_;refine aF 2 ?_;go_upto_region 3 with fail;refine aI 1 ?_;by_cases hq : Q = 0
 ·have HE : Hid (((Q : Int) == 0) = true) := ae (by rw [hq]; rfl);have HZ : Hid (pq = 2) := ae (by
   rw [<- HPQ.out];unfold iV;rw [if_pos hq]
   split <;> rfl)
  clear hq;refine akj (aH true rfl akt evk HE) ?_;refine aF 1 ?_;go_wp2_with fail;go_ret;exact ⟨by rw [HZ.out]; rfl, ak⟩
 have HE : Hid (((Q : Int) == 0) = false) := ae (av (by omega));have HQ0 := ae hq;clear hq;refine akj (aH false rfl akt evk HE) ?_;refine aF 1 ?_;go_upto_region 5 with fail;refine aI 1 ?_;refine akj (eD cH rfl akt) ?_;refine akj (pM (E := bP) rfl akt akt HN0) ?_;refine aF 1 ?_;generalize w.alloc (.cells (madeCells bP.z.cells (nc * bP.n)) bP.t) = w1 at *;obtain ⟨g, hg⟩ : ∃ g, w.heap.size = g := ⟨_, rfl⟩;rw [hg] at HM0 HBZ ⊢;have HG := ae hg;have HHg : Hid (∀ q, ql t mp FL m q -> q < g) := ae fun q hq => by have := HH.out.size q hq; omega
 clear hg;go_upto_region 6 with fail;refine aI 1 ?_;refine akj (eD cH rfl akt) ?_;refine aF 1 ?_;go_wp2_with fail
 go_loopw [8, 9, 22] (fun _ _ y wr => ∃ i : Nat, y = .int .i64 i /\ i <= nc /\ (c.take i).all (fun x => s.plc x.n x.m) = true /\ aN bP wr g (.slice (some ⟨g, 0, none⟩) nc nc) (stz c nc i) /\ Below g w wr) (fun _ _ y _ => nc - (intOf y).toNat)
 case atStart => exact ⟨0, by go_num, Nat.zero_le _, rfl, by rw [ab1]; exact HM0, HBZ⟩
 case round =>
  obtain ⟨i, rfl, hi, ha, hm, hb⟩ := hrel;have HAL := ae ha;have HM := ae hm;have HW := ae hb;have hb' : Below w.heap.size w wr := by rw [HG.out]; exact hb
  have HHr := ae (HH.out.below hb');have HCr := ae (HC.out.step hb');have HBS : Hid (g <= wr.heap.size) := ae (by have := hb'.size; rw [HG.out] at this; exact this);clear ha hm hb hb';by_cases hlt : i < nc
  ·have HI := ae hlt;have HIC : Hid (i < c.length) := ae (by rw [HCN.out]; exact hlt);have HT : Hid (decide ((i : Int) < (nc : Int)) = true) := ae (ao (by omega));have HADD : Hid (IntKind.i64.wrap ((i : Int) + 1) = ((i + 1 : Nat) : Int)) := ae (by have := HN0.out; rw [el ⟨by omega, by omega⟩]; omega);obtain ⟨b, off, rfl, hbb, hcell⟩ := HCr.out.cl hlt;obtain ⟨x, hx⟩ : ∃ x, c.getD i cP = x := ⟨_, rfl⟩;rw [lO HIC.out, hx] at hcell;have HCL : Hid (wr.rangeAt b (off + i * cH.n) (cW (bS x))) := ae hcell;have HXX := ae hx;have HB3 : Hid (Below wr.heap.size wr (wr.alloc (.cells (cW (bS x)).toArray 46))) := ae (ak.alloc aj _);have HBX := ae (heap_alloc_new wr (.cells (cW (bS x)).toArray 46));clear hi hlt hcell hx hbb;go_upto_region 7 with fail;refine af ?_;refine akj (aY true rfl akt akt HT) ?_;refine ah ?_;go_upto_region 8 with fail;refine aI 1 ?_;refine akj (co (E := cH) rfl akt akt HI) ?_;refine akj (f9 rfl akt HCL) ?_;refine akj (gA rfl) ?_;refine runs 1 ?_;refine aG rfl (ik rfl (ev rfl) (ev rfl)) ?_;simp only [aa];refine ah ?_;obtain ⟨bx, hbx⟩ : ∃ bx, wr.heap.size = bx := ⟨_, rfl⟩;rw [hbx] at HBX ⊢;generalize wr.alloc (.cells (cW (bS x)).toArray 46) = w3 at *;have HH3 := ae (HHr.out.below HB3);have HW3 := ae (HW.out.trans (HB3.out.mono HBS));have HM3 := ae (HM.out.below HB3);have HBXG : Hid (g <= bx) := ae (by rw [<- hbx]; exact HBS);clear hbx;have HPS : Hid (w3.rangeAt bx 0 (f8 x.n x.m)) := ae (fQ (c := bS x) (aQ HBX));cases hp : s.plc x.n x.m
   ·have HP : Hid (decide (0 <= x.n /\ x.n < (s.T : Int) /\ 0 <= x.m /\ x.m < (s.N : Int)) = false) := ae hp;have HZ : Hid (pq = 2) := ae (by
     rw [<- HPQ.out];unfold iV;rw [afC HIC.out (by rw [HXX.out]; exact hp), if_neg (by decide)])
    clear hp;go_upto_region 9 with fail;refine aI 1 ?_;refine akj (ax rfl akt nD) ?_;refine akj (iB rfl akt HPS) ?_;refine ay rfl (aB call51 rfl (evc akt (evc akt evn))) ?_;refine (iC x.n x.m HH3).mono ?_;rintro e w4 ⟨rfl, b4⟩;rw [HP.out];have HB4 := ae b4;clear b4;refine aR ?_;refine aF 1 ?_;go_wp2_with fail;go_ret;exact ⟨by rw [HZ.out]; rfl, by rw [HG.out]; exact HW3.out.trans (HB4.out.mono (aq HBS HB3.out.size))⟩
   have HP : Hid (decide (0 <= x.n /\ x.n < (s.T : Int) /\ 0 <= x.m /\ x.m < (s.N : Int)) = true) := ae hp;have HALN : Hid ((c.take (i + 1)).all (fun x => s.plc x.n x.m) = true) := ae (by rw [acU HIC.out, HAL.out, HXX.out]; exact hp);clear hp;go_upto_region 9 with fail;refine aI 1 ?_;refine akj (ax rfl akt nD) ?_;refine akj (iB rfl akt HPS) ?_;refine ay rfl (aB call51 rfl (evc akt (evc akt evn))) ?_;refine (iC x.n x.m HH3).mono ?_;rintro e w4 ⟨rfl, b4⟩;rw [HP.out];have HB4 := ae b4;clear b4;refine aR ?_;refine aF 1 ?_;have HS34 : Hid (g <= w3.heap.size) := ae (aq HBS HB3.out.size);have HW4 := ae (HW3.out.trans (HB4.out.mono HS34));have HM4 := ae (HM3.out.below HB4);have HPL : Hid (w4.cell? ⟨bx, 0, none⟩ = some (.int .i64 x.n)) := ae (by have := (fN (fQ (c := bS x) (aQ (aC HBX HB4)))).1; exact this);have HTH : Hid (w4.there g (0 + i * bP.n) 1) := ae (by have := HM4.out.there HI (j := 0) (m := 1) aj; rw [Nat.add_zero] at this; rwa [Nat.zero_add]);have HM5 : Hid (aN bP (w4.setCells g (0 + i * bP.n) (bP.cel x.n)) g (.slice (some ⟨g, 0, none⟩) nc nc) (stz c nc (i + 1))) := ae (by have := HM4.out.store HI x.n; rw [<- HXX.out, afj HCN.out HI.out, HXX.out] at this; rwa [Nat.zero_add]);have HW5 : Hid (Below g w (w4.setCells g (0 + i * bP.n) (bP.cel x.n))) := ae (below_setCells HW4 aj _);go_upto_region 11 with fail;refine aI 2 ?_;refine akj (ax rfl akt nD) ?_;refine akj (ax rfl akt nk) ?_;refine akj (aD rfl akt (cd HPL)) ?_;refine akj (co (E := bP) rfl akt akt HI) ?_;refine aG rfl (df rfl (ev rfl) (ev rfl) (ah3 HTH.out)) ?_;simp only [aa];generalize w4.setCells g (0 + i * bP.n) (bP.cel x.n) = w5 at *;refine ah ?_;go_upto_region 12 with fail;refine af ?_;refine akj (bH rfl akt evk HADD) ?_;refine aF 1 ?_;go_wp2_with fail;go_roundw
   case rel => exact ⟨i + 1, by go_num, HI, HALN, HM5, HW5⟩
   case measure => have := HI.out; simp [intOf]; omega
  have hin : i = nc := by omega
  have HT : Hid (decide ((i : Int) < (nc : Int)) = false) := ae (am (by omega));have htk : c.take i = c := List.take_of_length_le (by rw [HCN.out]; omega);rw [htk] at HAL;have HMF : Hid (aN bP wr g (.slice (some ⟨g, 0, none⟩) nc nc) (c.map c8.n)) := ae (by have := HM.out; rwa [hin, aeJ HCN.out] at this);have HSR : Hid (RdE bP wr wr.heap.size (some ⟨g, 0, none⟩) nc (c.map c8.n)) := ae (by have := aN.rd HMF; exact this);have HWF : Hid (∀ x ∈ c.map c8.n, (Lit.int .i64 x).wf = true) := ae fun x hx => by
   obtain ⟨y, hy, rfl⟩ := List.mem_map.1 hx;have hp := List.all_eq_true.1 HAL y hy;obtain ⟨k, j, e1, hk, _, _⟩ := iF hp;rw [e1];exact jP (by have := HOK.out.t64; omega)
  clear hlt hi hin htk;go_upto_region 7 with fail;refine af ?_;refine akj (aY false rfl akt akt HT) ?_;refine ah ?_;cases hf : s.fits (c.map c8.n)
  ·have HFI := ae hf;have HZ : Hid (pq = 10) := ae (by rw [<- HPQ.out]; unfold iV; rw [HAL.out, if_pos rfl, if_neg HQ0.out, hf, if_neg (by decide)]);clear hf;go_upto_region 13 with fail;refine aI 2 ?_;refine ay rfl (aB call52 rfl (evc akt (evc akt evn))) ?_;refine (rP (l := c.map c8.n) HHr HOK HSR HWF (by rw [List.length_map]; have := HN0.out; have := HCN.out; omega)).mono ?_;rintro e wB ⟨rfl, b5⟩;rw [HFI.out];have HWB := ae (HW.out.trans (b5.mono HBS));clear b5;refine aR ?_;refine aF 1 ?_;go_wp2_with fail;go_ret;exact ⟨by rw [HZ.out]; rfl, by rw [HG.out]; exact HWB⟩
  have HFI := ae hf;have HZ : Hid (pq = 0) := ae (by rw [<- HPQ.out]; unfold iV; rw [HAL.out, if_pos rfl, if_neg HQ0.out, hf, if_pos rfl]);clear hf;go_upto_region 13 with fail;refine aI 2 ?_;refine ay rfl (aB call52 rfl (evc akt (evc akt evn))) ?_;refine (rP (l := c.map c8.n) HHr HOK HSR HWF (by rw [List.length_map]; have := HN0.out; have := HCN.out; omega)).mono ?_;rintro e wB ⟨rfl, b5⟩;rw [HFI.out];have HWB := ae (HW.out.trans (b5.mono HBS));clear b5;refine aR ?_;refine aF 1 ?_;go_wp2_with fail;go_ret;exact ⟨by rw [HZ.out]; rfl, by rw [HG.out]; exact HWB⟩
end
section
variable {s : ShS} {n Q j k : Nat} {x : c8}
theorem yn (h : s.fj k = true) : k ∈ (s.tch k).o := by rw [uJ, if_pos h]; exact List.mem_cons_self ..
theorem aix (h : bW s) (hk : k < s.T) (hb : s.fj k = true) (hQ : Q < 18446744073709551616) : bW ((s.tch k).eu k (some (ey (s.ch k) x.m x.b Q))) :=
 (h.tch hk).eu (yn hb) ((h.line k).1.set _ _ hQ) (by rw [yO, (h.line k).2]; exact (ShS.pl s k).1.symm)
theorem acY (h : bW s) (hk : k < s.T) (hj : x.m = (j : Int)) (hjN : j < s.N) (hQ : Q ≠ 0) : ((s.tch k).eu k (some (ey (s.ch k) x.m x.b Q))).dty = dh (s.tch k).dty k true := funext fun i => by
 by_cases e : i = k
 ·subst e;rw [c7];have : ((s.tch i).eu i (some (ey (s.ch i) x.m x.b Q))).ln i = some (ey (s.ch i) x.m x.b Q) := by rw [de, if_pos rfl]
  rw [jt this];exact y8 (by rw [hj]; exact iM (by rw [(h.line i).2]; exact hjN)) hQ
 ·rw [cg _ _ e];exact lv (by rw [de, if_neg e])
end
section
variable {w w1 w2 w' : World} {S S1 : Nat -> Prop} {t K : Nat} {s : ShS}
theorem PSh.lt (h : PSh w S t K s) : ∀ b, S b -> b < w.heap.size := by
 obtain ⟨lp, mp, FL, m, r, h1, h2, rfl⟩ := h;exact h1.size
theorem PSh.below (h : PSh w S t K s) (hb : Below w.heap.size w w1) : PSh w1 S t K s := by
 obtain ⟨lp, mp, FL, m, r, h1, h2, e⟩ := h;exact ⟨lp, mp, FL, m, r, h1.below hb, h2, e⟩
theorem PSx.since (hb : Below w.heap.size w w2) (h : PSx w2 S w' t s) : PSx w S w' t s := by
 obtain ⟨lp, mp, FL, m, r, h1, h2⟩ := h;refine ⟨lp, mp, FL, m, r, ⟨h1.u, (Only.of_below S hb).trans h1.on fun b hb => .inl hb, fun b hb' => ?_⟩, h2⟩;rcases h1.gr b hb' with e | e
 ·exact .inl e
 ·exact .inr (aq hb.size e)
theorem PSx.after (o : Only S w w1) (g : Grow w S S1) (h : PSx w1 S1 w' t s) : PSx w S w' t s := by
 obtain ⟨lp, mp, FL, m, r, h1, h2⟩ := h;refine ⟨lp, mp, FL, m, r, ⟨h1.u, o.trans h1.on g, fun b hb' => ?_⟩, h2⟩;rcases h1.gr b hb' with e | e
 ·exact g b e
 ·exact .inr (aq o.size e)
theorem PSx.keep {b : Nat} {o : Obj} (h : PSx w S w' t s) (hb : w.heap[b]? = some o) (hn : ¬ S b) : w'.heap[b]? = some o := Only.keep h.only hb hn
end
theorem aio {w : World} {S : Nat -> Prop} {t K Q k j : Nat} {s : ShS} {x : c8} (h : PSh w S t K s) (hk : x.n = (k : Int)) (hj : x.m = (j : Int)) (hkT : k < s.T) (hjN : j < s.N) (hQ0 : Q ≠ 0) (hQ : Q < 18446744073709551616) (htb : s.fj k = true) : Calls prog 22 #[.pointer (some ⟨t, 0, none⟩), clV (bS x), .int .u64 (Q : Int)] w fun e w' => e = .returned (.int .i64 0) /\ PSx w S w' t ((s.tch k).eu k (some (ey (s.ch k) x.m x.b Q))) := by
 have hok := h.x.ok;have hlt := h.lt;have HOK2 : Hid (bW ((s.tch k).eu k (some (ey (s.ch k) x.m x.b Q)))) := ae (aix hok hkT htb hQ);have HDT := ae (acY (Q := Q) hok hkT hj hjN hQ0);have HTE : Hid (tcE s k = 0) := ae (by unfold tcE; rw [if_pos htb]);have HKT := ae hkT;have HQ := ae hQ;have HW := ae (jP (n := k) (by have := hok.t64; omega));have HLN := ae (pU htb);have HSE : Hid (qz (s.ch k) x.m Q = 0) := ae (by rw [hj]; exact yt (by rw [(hok.line k).2]; exact hjN) hQ0);have HND : Hid ((s.tch k).o.Nodup) := ae (hok.tch hkT).nd;have HX := ae (And.intro hk hj);have HMM := ae (yn htb);have hb1 := (Below.refl w.heap.size w).alloc aj (.cells (cW (bS x)).toArray 46);have HB1 := ae hb1;have HC1 := ae (heap_alloc_new w (.cells (cW (bS x)).toArray 46));have HS := ae h;have HNS : Hid (∀ b, w.heap.size <= b -> ¬ S b) := ae fun b hb hs => by have := hlt b hs; omega
 clear h hok hkT hjN hQ0 hQ htb hk hj hb1 hlt;go_enter func22, ntmps22;go_upto_region 0 with fail;refine af ?_;refine akj (zV rfl akt) ?_;refine aF 1 ?_;have HBC : Hid (¬ S w.heap.size) := ae (HNS.out _ aj);obtain ⟨bc, hbc⟩ : ∃ bc, w.heap.size = bc := ⟨_, rfl⟩;have HBCQ : Hid (w.heap.size <= bc) := ae (Nat.le_of_eq hbc);rw [hbc] at HC1 HBC ⊢;generalize w.alloc (.cells (cW (bS x)).toArray 46) = w1 at *;clear hbc;have HP1 : Hid (w1.rangeAt bc 0 (f8 x.n x.m)) := ae (fQ (c := bS x) (aQ HC1));have hb2 := (Below.refl w1.heap.size w1).alloc aj (.cells (f8 x.n x.m).toArray 42);have HB2 := ae (HB1.out.trans (hb2.mono HB1.out.size));have HC2 := ae (aC HC1 hb2);have HP2 := ae (heap_alloc_new w1 (.cells (f8 x.n x.m).toArray 42));have HBP : Hid (¬ S w1.heap.size) := ae (HNS.out _ HB1.out.size);clear hb2;go_upto_region 1 with fail;refine af ?_;refine akj (ax rfl akt nD) ?_;refine akj (iB rfl akt HP1) ?_;refine akj (rV rfl) ?_;refine aG rfl (vc rfl (ev rfl) (ev rfl)) ?_;simp only [aa];refine ah ?_;obtain ⟨bp, hbp⟩ : ∃ bp, w1.heap.size = bp := ⟨_, rfl⟩;rw [hbp] at HP2 HBP ⊢;generalize w1.alloc (.cells (f8 x.n x.m).toArray 42) = w2 at *;have HN2 : Hid (w2.cell? ⟨bp, 0, none⟩ = some (.int .i64 (k : Int))) := ae (by have := (fN (aQ HP2)).1; rwa [HX.out.1] at this);have HS2 := ae (HS.out.below HB2).x;clear hbp HP1 HC1;go_upto_region 2 with fail;refine aI 1 ?_;refine akj (ax rfl akt nk) ?_;refine akj (aD rfl akt (cd HN2)) ?_;refine ay rfl (aB call53 rfl (evc akt (evc akt evn))) ?_;refine (acS HS2 HKT).mono ?_;rintro e w3 ⟨rfl, h3⟩;rw [HTE.out];have HC3 := ae (h3.keep HC2 HBC);have HP3 := ae (h3.keep HP2 HBP);obtain ⟨lp, mp, FL, m, r, hs3, hok3⟩ := h3;have hl3 := hs3.u.ln k;rw [HLN.out] at hl3;obtain ⟨a, ha, hla, hlo⟩ := hl3.some_;have HS3 := ae (hs3.below (ak.drew));have HA := ae ha;have HLA : Hid (qB w3.drew (fun j => j = a) a (s.ch k)) := ae ⟨hla, rfl, hlo⟩;have HLK : Hid ((Instr.lookup 53 (.map (some mp)) (.int .i64 (k : Int)) false).run prog w3.drew = .ok (.pointer (some ⟨a, 0, none⟩)) w3.drew) := ae (by
  have := HS3.out.u.map.nA HW;rwa [show mLn m (k : Int) = some a from by unfold mLn; rw [if_pos (by omega), Int.toNat_natCast, ha]] at this)
 have HN3 : Hid (w3.cell? ⟨bp, 0, none⟩ = some (.int .i64 (k : Int)) /\ w3.cell? ⟨bp, 0 + 1, none⟩ = some (.int .i64 x.m)) := ae (by have := fN (aQ HP3); rw [HX.out.1] at this; exact this);have HBL : Hid (w3.rangeAt bc (0 + 2) (cel x.b)) := ae (wk (c := bS x) (aQ HC3));clear hs3 hok3 hl3 ha hla hlo;refine aR ?_;refine aF 1 ?_;go_upto_region 3 with fail;refine aI 1 ?_;refine akj (aK false rfl akt evk rfl) ?_;refine ah ?_;go_upto_region 5 with fail;refine wp_region_still_tail 12 (by kernel_rfl) (by kernel_rfl) ?_;simp only [ac];refine aP rfl (aM rfl akt) ?_;simp only [aa];refine aP rfl (bq rfl akt) ?_;simp only [aa];refine aP rfl (ax rfl akt i9) ?_;simp only [aa];refine aP rfl (aD rfl akt (my (PRu.c4 HS3.out.u))) ?_;simp only [aa];refine aP rfl (ax rfl akt nk) ?_;simp only [aa];refine aP rfl (aD rfl akt (cd HN3.out.1)) ?_;simp only [aa];refine aP rfl (dw rfl akt akt HLK) ?_;simp only [aa];refine aP rfl (ax rfl akt yx) ?_;simp only [aa];refine aP rfl (aD rfl akt (cd HN3.out.2)) ?_;simp only [aa];refine aP rfl (ax rfl akt ahE) ?_;simp only [aa];refine aP rfl (bI rfl akt HBL) ?_;simp only [aa];refine aP rfl (aM rfl akt) ?_;simp only [aa];refine wpStill_nil ?_;change wpList _ _ _ _ _ (World.drew _);refine ay rfl (aB call54 rfl (evc akt (evc akt (evc akt (evc akt evn))))) ?_;refine (afk w3.drew x.m x.b Q HLA HQ).mono ?_;rintro e w4 ⟨rfl, l4, t4⟩;rw [HSE.out];have HS4 := ae (HS3.out.line HA t4 l4);have HP4 := ae (Only.keep HS4.out.on HP2 HBP);have HN4 : Hid (w4.cell? ⟨bp, 0, none⟩ = some (.int .i64 (k : Int))) := ae (by have := (fN (aQ HP4)).1; rwa [HX.out.1] at this);clear l4 t4;refine aR ?_;refine aF 1 ?_;go_upto_region 6 with fail;refine aI 1 ?_;refine akj (aK false rfl akt evk rfl) ?_;refine ah ?_;have HS4d := ae (HS4.out.below (ak.drew));have HL4 : Hid (PLF w4.drew (fun b => FL b \/ w4.drew.heap.size <= b) lp (s.tch k).room (kyL (s.tch k).dty (s.tch k).o)) := ae (HS4d.out.u.li.mono fun b h1 _ => .inl h1);go_upto_region 8 with fail;refine wp_region_still_tail 6 (by kernel_rfl) (by kernel_rfl) ?_;simp only [ac];refine aP rfl (aM rfl akt) ?_;simp only [aa];refine aP rfl (bq rfl akt) ?_;simp only [aa];refine aP rfl (ax rfl akt lc) ?_;simp only [aa];refine aP rfl (aD rfl akt (qp (PRu.c3 HS4d.out.u))) ?_;simp only [aa];refine aP rfl (ax rfl akt nk) ?_;simp only [aa];refine aP rfl (aD rfl akt (cd HN4)) ?_;simp only [aa];refine wpStill_nil ?_;change wpList _ _ _ _ _ (World.drew _);refine ay rfl (aB call55 rfl (evc akt (evc akt (evc evk evn)))) ?_;refine (xX w4.drew HL4 HW true).mono ?_;rintro e w5 ⟨rfl, l5, t5⟩;rw [y5 HND.out] at l5;obtain ⟨FL5, hs5⟩ := HS4d.out.list rfl l5 t5;rw [<- HDT.out] at hs5;have HF : Hid (xh (k : Int) (kyL (s.tch k).dty (s.tch k).o) = 0) := ae (if_pos (du.2 HMM));rw [HF.out];have HS5 : Hid (PSx w2 S w5 t ((s.tch k).eu k (some (ey (s.ch k) x.m x.b Q)))) := ae ⟨lp, mp, FL5, m, r, hs5, HOK2⟩;clear l5 t5 hs5;refine aR ?_;refine aF 1 ?_;go_wp2_with fail;go_ret;exact ⟨rfl, HS5.out.since HB2⟩
section
variable {s : ShS} {q j k i : Nat} {x p : c8} {c : List c8} {y : LnS} {m : Int} {b : Blk}
def uj (s : ShS) (x : c8) : Bool := (da (s.ch x.n.toNat) x.m.toNat).dt
theorem ua (s : ShS) (k : Nat) (y : LnS) (j : Nat) : (s.eu k (some y)).ch j = if j = k then y else s.ch j := by
 by_cases e : j = k
 ·subst e; rw [if_pos rfl]; exact eE (by rw [de, if_pos rfl])
 ·rw [if_neg e]; unfold ShS.ch; rw [de, if_neg e]; rfl
theorem yl (h : bW s) (hd : s.dty j = true) (n : Nat) : (s.tch n).ch j = s.ch j := by
 unfold ShS.ch;rw [h.oR hd, (s.pl n).1]
theorem kf (h : bW s) (hp : s.plc x.n x.m = true) (hd : uj s x = true) : s.dty x.n.toNat = true := by
 obtain ⟨k, i, e1, hk, e2, hi⟩ := iF hp;rw [<- qc];refine pm (k := x.m.toNat) hd ?_;rw [(h.line _).2];omega
theorem abi (hr : lnR y m = true) (hq : q ≠ 0) (h : j = m.toNat \/ (da y j).dt = true) : (da (ey y m b q) j).dt = true := by
 obtain ⟨k, e, hk⟩ := kL hr;rw [e, qg hk hq];unfold da;rw [jr _ _ _ _ _ hk]
 split
 ·rfl
 ·rename_i hne
  rcases h with h | h
  ·exact absurd (by rw [h, e]; simp) hne
  ·exact h
theorem adx (h : bW s) (hq : iV s q c = 0) (hqb : q < 18446744073709551616) : ∀ i, i <= c.length -> ∀ x ∈ c.take i, uj ((c.take i).foldl (dq q) s) x = true
 |0, _ => fun x hx => by rw [List.take_zero] at hx; cases hx
 |i + 1, hi => fun x hx => by
  obtain ⟨h1, h2, h3⟩ := n7 hq;have hi' : i < c.length := by omega
  have ih := adx h hq hqb i (by omega);have pf := gU h hq hqb i (by omega);have hpm : c.getD i cP ∈ c := by rw [List.getD, List.getElem?_eq_getElem hi']; exact List.getElem_mem hi'
  obtain ⟨ht, hto, hr, _⟩ := pf.step (p := c.getD i cP) h3 (h1 _ hpm) ((j5 _ _).2 (.inr (List.mem_map.2 ⟨_, hpm, rfl⟩))) h2 hqb;rw [eP _ _ (d := cP) hi'];rw [show c.take (i + 1) = c.take i ++ [c.getD i cP] from by rw [List.take_add_one, List.getD, List.getElem?_eq_getElem hi']; rfl] at hx;generalize c.getD i cP = p at *;generalize (c.take i).foldl (dq q) s = s1 at *;unfold uj dq;rw [ua];rcases List.mem_append.1 hx with hx | hx
  ·have hxm : x ∈ c := List.mem_of_mem_take hx;have hd := ih x hx;have hdy := kf pf.ok (by rw [pf.plc]; exact h1 x hxm) hd
   split
   ·rename_i e
    refine abi hr h2 (.inr ?_);rw [<- e, yl pf.ok hdy];exact hd
   ·rw [yl pf.ok hdy];exact hd
  ·have : x = p := by simpa using hx
   subst this;rw [if_pos rfl];exact abi hr h2 (.inl rfl)
theorem ain {N : Nat} (h : (da y j).dt = true) (hj : (j : Int) ≠ m) (hy : dV y) : (da (fW y m) j).dt = true := by
 unfold fW
 split
 ·rename_i hr
  obtain ⟨k, e, hk⟩ := kL hr;unfold da;rw [e, Int.toNat_natCast, jr _ _ _ _ _ hk, if_neg (fun e2 => hj (by rw [e, e2]))];exact h
 ·exact h
theorem abb {N : Nat} (hx : x ∈ c) (h : r8 N c x.n = false) : x.m ≠ ((N - 1 - x.n.toNat % N : Nat) : Int) := fun e => by
 have : r8 N c x.n = true := List.any_eq_true.2 ⟨x, hx, by rw [ao rfl, ao e]; rfl⟩;rw [h] at this;cases this
theorem abB {s2 : ShS} (h : bW s2) (hp : ∀ x ∈ c, s2.plc x.n x.m = true) (hd : ∀ x ∈ c, uj s2 x = true) : ∀ i, i <= c.length ->
  (∀ x ∈ c, r8 s2.N c x.n = false -> uj ((c.take i).foldl (cz c) s2) x = true) /\ ∀ j, ((c.take i).foldl (cz c) s2).dty j = s2.dty j
 |0, _ => ⟨fun x hx _ => by rw [List.take_zero]; exact hd x hx, fun j => by rw [List.take_zero]; rfl⟩
 |i + 1, hi => by
  have hi' : i < c.length := by omega
  obtain ⟨ih1, ih2⟩ := abB h hp hd i (by omega);have hs : ∀ x ∈ c, (s2.ln x.n.toNat).isSome = true := fun x hx => eV (kf h (hp x hx) (hd x hx))
  have fi := i8 h c hs i (by omega);have fi1 := i8 h c hs (i + 1) hi;have hpm : c.getD i cP ∈ c := by rw [List.getD, List.getElem?_eq_getElem hi']; exact List.getElem_mem hi'
  rw [eP _ _ (d := cP) hi'] at fi1 ⊢;generalize c.getD i cP = p at *;generalize (c.take i).foldl (cz c) s2 = s1 at *;have hplc : ∀ x ∈ c, s1.plc x.n x.m = true := fun x hx => by unfold ShS.plc; rw [fi.N, fi.T]; exact hp x hx
  by_cases hq : r8 s1.N c p.n = true
  ·have e : cz c s1 p = s1 := by unfold cz; rw [if_pos hq]
   rw [e];exact ⟨ih1, ih2⟩
  ·have hqf : r8 s2.N c p.n = false := by rw [fi.N] at hq; simpa using hq
   have e : cz c s1 p = s1.eu p.n.toNat (some (fW (s1.ch p.n.toNat) ((s1.N - 1 - p.n.toNat % s1.N : Nat) : Int))) := by unfold cz; rw [if_neg hq]
   rw [e] at fi1 ⊢;have hdt : ∀ x ∈ c, r8 s2.N c x.n = false -> uj (s1.eu p.n.toNat (some (fW (s1.ch p.n.toNat) ((s1.N - 1 - p.n.toNat % s1.N : Nat) : Int)))) x = true := fun x hx hxq => by
    have hx1 := ih1 x hx hxq;unfold uj at hx1 ⊢;rw [ua]
    split
    ·rename_i en
     rw [en] at hx1;refine ain (N := s1.N) hx1 ?_ (fi.ok.line _).1;have := abb hx hxq;obtain ⟨_, mi, _, _, em, _⟩ := iF (hp x hx);rw [<- en, fi.N];omega
    ·exact hx1
   refine ⟨hdt, fun j => ?_⟩;rw [<- ih2];by_cases ej : j = p.n.toNat
   ·subst ej;rw [kf fi1.ok (by have := hplc p hpm; unfold ShS.plc at this ⊢; exact this) (hdt p hpm hqf), kf fi.ok (hplc p hpm) (ih1 p hpm hqf)]
   ·exact lv (by rw [de, if_neg ej])
end
end Go.Proofs.YtlmdklakcmnaiaaGreatDoor
