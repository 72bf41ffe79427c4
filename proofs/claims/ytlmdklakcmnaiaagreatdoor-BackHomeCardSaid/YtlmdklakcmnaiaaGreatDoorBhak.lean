import Derived.Test.YtlmdklakcmnaiaaGreatDoorBhaj
import Derived.Maps.OwnSet
namespace Go.Proofs.YtlmdklakcmnaiaaGreatDoor
set_option maxHeartbeats 8000000
open Go.Proofs.Tryz
open Go.RowKit
set_option linter.unusedVariables false
set_option linter.unusedSimpArgs false
set_option maxRecDepth 100000
theorem aaE {ρ : Operand -> Value} {o : Oper} {x y : Operand} {w : World} {c d : Blk} {t : TypeId} (b : Bool) (ho : o.op = .binOp .neq 44 x y t) (hx : ρ x = blk c) (hy : ρ y = blk d) (h : (!decide (c = d)) = b) : (execOp ρ o).run prog w = .ok (.value (.bool b)) w := by
 subst h;exact adE ho hx hy
section
variable {C : eN} {D : ShI C} {w0 w w' : World} {B q p t K : Nat} {O O' : Nat -> Prop} {h : HuS} {s : ShS}
theorem SAt.ajS {I : FuncId} {vs : Array Value} {v : Value} {M' : aV} (a : SAt C D w0 B O w q p t K h s) (hc : ∀ {w F}, C.R.Bn w F q h.M -> Calls prog I vs w fun e w' => e = .returned v /\ ∃ F', C.R.Bn w' F' q M' /\ Only F w w' /\ Grow w F F') : Calls prog I vs w fun e w' => e = .returned v /\ SAt C D w0 B O w' q p t K { h with M := M' } s /\ cj O w w' :=
 a.afS fun G hj _ => by
  obtain ⟨Gb, b1, b2, b3⟩ := C.ben hj;refine (hc b1).mono fun e w' ⟨he, F', k1, k2, k3⟩ => ?_
  obtain ⟨G', g1, g2, g3⟩ := b3 w' F' M' k1 k2 k3;exact ⟨he, G', g1, g2, g3⟩
theorem SAt.ajf {Q nc cc : Nat} {A : Option Addr} {c : List c8} (a : SAt C D w0 B O w q p t K h s) (hQ : Q < 18446744073709551616) (hK : K + nc <= 1000000) (hr : RdE cH w0 B A nc (c.map bS)) (hl : c.length = nc) (h1 : nc <= cc) (h2 : cc <= maxLen) : Calls prog 6 #[.pointer (some ⟨t, 0, none⟩), .int .u64 (Q : Int), .slice A nc cc] w fun e w' => e = .returned (.int .i64 (iV s Q c)) /\ SAt C D w0 B O w' q p t (K + nc) h (j7 s Q c) /\ cj O w w' := by
 obtain ⟨G, S, g1, g2, g3, g4, g5, g6, g7⟩ := a;have hsz := aq g6.le g5.size;refine (D.put g2 hQ hK ((hr.below g5).more hsz) hl h1 h2 fun x e hn hs => ?_).mono fun e w' ⟨k0, S', k2, k3, k5⟩ => ⟨k0, SAt.turn g4 g5 g6 g7 (C.only g1 k3 g3) k2 (fun b hg hs => ?_) (k3.widen fun b hb => .inr hb) (Grow.same _ _) k5⟩
 ·obtain ⟨b, off, ha, hb, _⟩ := hr.2 0 hn;rw [ha] at e;injection e with e;subst e;have hs' : S b := hs;have := g4 b (.inr hs');omega
 ·rcases k5 b hs with y | y
  ·exact g3 b hg y
  ·have := C.lt g1 b hg; omega
theorem SAt.app {α : Type} {E : Elt α} {v v2 : Value} {l l2 : List α} (a : SAt C D w0 B (fun b => O b \/ v.ownBlock = some b) w q p t K h s) (hm : aN E w B v l) (hg : w.grownBy w' v.ownBlock) (hm2 : aN E w' B v2 l2) (ho : ∀ x, v2.ownBlock = some x -> v.ownBlock = some x \/ w.heap.size <= x) : SAt C D w0 B (fun b => O b \/ v2.ownBlock = some b) w' q p t K h s := by
 obtain ⟨G, S, g1, g2, g3, g4, g5, g6, g7⟩ := a;have hs := hg.size;have hsz := aq g6.le g5.size;have hon : Only (fun b => v.ownBlock = some b) w w' := (Only.refl (fun b => v.ownBlock = some b) w).grown hg fun k e => .inl e
 refine ⟨G, S, C.only g1 hon fun b hb e => (g7 b (.inr e)).1 hb, D.only g2 hon fun b hb e => (g7 b (.inr e)).2.1 hb, g3, g4, g5.trans (hon.below (fun b e => hm.gH b e) hsz), g6, fun b hb => ?_⟩;rcases hb with e | e
 ·obtain ⟨c1, c2, c3⟩ := g7 b (.inl e);exact ⟨c1, c2, by omega⟩
 ·rcases ho b e with y | y
  ·obtain ⟨c1, c2, c3⟩ := g7 b (.inr y);exact ⟨c1, c2, by omega⟩
  ·exact ⟨fun x => by have := C.lt g1 b x; omega, fun x => by have := D.lt g2 b x; omega, hm2.ju b e⟩
end
theorem uA (N T r : Nat) : (kZ N T r).cX = [] := by
 unfold ShS.cX;have : ∀ n, mY (kZ N T r).dty n = [] := fun n => by
  induction n with
  |zero => rfl
  |succ n ih => rw [mY, ih]; rfl
 exact this _
theorem ag7 (s : ShS) (n : Nat) : (s.tch n).N = s.N /\ (s.tch n).T = s.T := by
 unfold ShS.tch
 split
 ·show (s.cut n).N = s.N /\ (s.cut n).T = s.T
  unfold ShS.cut
  split <;> exact ⟨rfl, rfl⟩
 ·exact ⟨rfl, rfl⟩
theorem yI (q : Nat) : ∀ (c : List c8) (s : ShS), (c.foldl (dq q) s).N = s.N /\ (c.foldl (dq q) s).T = s.T
 |[], s => ⟨rfl, rfl⟩
 |x :: c, s => by
  obtain ⟨e1, e2⟩ := yI q c (dq q s x);obtain ⟨f1, f2⟩ := ag7 s x.n.toNat
  exact ⟨e1.trans f1, e2.trans f2⟩
theorem yD (l : List c8) : ∀ (c : List c8) (s : ShS), (c.foldl (cz l) s).N = s.N /\ (c.foldl (cz l) s).T = s.T
 |[], s => ⟨rfl, rfl⟩
 |x :: c, s => by
  obtain ⟨e1, e2⟩ := yD l c (cz l s x);have f : (cz l s x).N = s.N /\ (cz l s x).T = s.T := by
   unfold cz
   split <;> exact ⟨rfl, rfl⟩
  exact ⟨e1.trans f.1, e2.trans f.2⟩
theorem ael (s : ShS) (q : Nat) (c : List c8) : (j7 s q c).N = s.N /\ (j7 s q c).T = s.T := by
 unfold j7
 split
 ·obtain ⟨e1, e2⟩ := yD c c (c.foldl (dq q) s);obtain ⟨f1, f2⟩ := yI q c s;exact ⟨e1.trans f1, e2.trans f2⟩
 ·exact ⟨rfl, rfl⟩
def agK (w : World) (A : Option Addr) (cc : Nat) (v : Value) : Prop := ∃ (n : Nat) (l : List Cl), v = .slice A n cc /\ n <= 40 /\ n <= cc /\ RdE cH w w.heap.size A n l
def sH (s : ShS) : Nat -> List c8
 |0 => []
 |i + 1 => sH s i ++ dj s (i : Int)
theorem uu {s : ShS} {c : c8} : ∀ {i : Nat}, c ∈ sH s i -> ∃ n : Nat, n < i /\ c ∈ dj s (n : Int)
 |0, h => by cases h
 |i + 1, h => by
  rw [sH] at h;rcases List.mem_append.1 h with e | e
  ·obtain ⟨n, h1, h2⟩ := uu e;exact ⟨n, by omega, h2⟩
  ·exact ⟨i, by omega, e⟩
theorem uR {s : ShS} (hok : bW s) (n : Int) : (dj s n).length <= 16 := by
 unfold dj
 split
 ·have := n9 n (s.ch n.toNat) s.N;have := hok.n16;omega
 ·exact Nat.zero_le _
theorem ov {s : ShS} (hok : bW s) : ∀ i, (sH s i).length <= 16 * i
 |0 => aj
 |i + 1 => by
  rw [sH, List.length_append];have := ov hok i;have := uR hok (i : Int);omega
theorem aiD (C : eN) (D : ShI C) (I : abg C D) (a dd : Nat) (A : Option Addr) (nn cc : Nat) (l : List Cl) (w : World) (T : Tab w) (ha : a < 256) (hdd : dd < 256) (hl : RdE cH w w.heap.size A nn l) (hnc : nn <= cc) (hcc : cc <= maxLen) : Calls prog 3 #[.int .u8 (a : Int), .slice A nn cc, .int .u8 (dd : Int)] w fun e w' => e = .returned (.bool true) /\ Below w.heap.size w w' := by
 have hml : nn < 9223372036854775808 := by unfold maxLen at hcc; omega
 obtain ⟨N, hN⟩ : ∃ N, 3 + a % 4 = N := ⟨_, rfl⟩;obtain ⟨h0, hh0⟩ : ∃ h0 : HuS, (⟨fg (szK N 6), 9, 0, neR N 6⟩ : HuS) = h0 := ⟨_, rfl⟩;obtain ⟨s0, hs0⟩ : ∃ s0 : ShS, kZ N 6 6 = s0 := ⟨_, rfl⟩;have hl0 : Lif dd N 6 h0 := by rw [<- hh0]; exact Lif.new (by omega) (by omega) (by omega) (by omega) dd 9
 have hr0 : HR 200 h0 := by rw [<- hh0]; exact HR.new (by omega) (by omega) (by omega) (by omega) (by omega) 9
 have hok0 : bW s0 := by rw [<- hs0]; exact bW.new (by omega) (by omega) (by omega) (by omega) (by omega) (by omega)
 have hd0 : s0.cX = [] := by rw [<- hs0]; exact uA N 6 6
 have hn0 : s0.N = N /\ s0.T = 6 := by rw [<- hs0]; exact ⟨rfl, rfl⟩
 obtain ⟨b, hb⟩ : ∃ b, decide ((40 : Int) < (nn : Int)) = b := ⟨_, rfl⟩;have HT := ae T;have HA := ae ha;have HNN := ae hN;have HH0 := ae hh0;have HS0 := ae hs0;have HL0 := ae hl0;have HR0 := ae hr0;have HOK0 := ae hok0;have HD0 := ae hd0;have HN0 := ae hn0;have HB := ae hb;have HRD := ae hl;have HNC := ae hnc;have HCC := ae hcc;have HDC : Hid (IntKind.i64.wrap (dd : Int) = (dd : Int)) := ae (el (by omega));clear T ha hdd hl hnc hcc hml hN hh0 hs0 hl0 hr0 hok0 hd0 hn0 hb;go_enter func3, ntmps3;go_upto_region 0 with fail;refine cf 1 ?_;go_upto_region 1 with fail;refine aI 1 ?_;refine ay rfl (aB call5 rfl (evc akt evn)) ?_;refine (tf C D a N w HT HA HNN).mono ?_;rintro e w1 ⟨t, p, q, r, y, rfl, a1⟩;rw [HH0.out, HS0.out] at a1;have HA1 : Hid (SAt C D w w.heap.size (fun _ => False) w1 q p t 0 h0 s0) := ae a1;clear a1;refine aR ?_;refine runs 3 ?_;refine akj (di (cs := jU) xc rfl) ?_;refine aG rfl (fG (cs := fm t p q r y) (ds := jU) (by kernel_rfl) rfl mE rfl (ev rfl) (ev rfl)) ?_;simp only [aa];have hx := (Below.refl w1.heap.size w1).alloc aj (.cells (fm t p q r y).toArray 29);have HP2 := ae (heap_alloc_new w1 (.cells (fm t p q r y).toArray 29));have hsz : (w1.alloc (.cells (fm t p q r y).toArray 29)).heap.size = w1.heap.size + 1 := al;have HA2 := ae (HA1.out.guard (O' := fun b => b = w1.heap.size) hx fun b e => .inr ⟨by omega, by omega⟩);obtain ⟨b7, hb7⟩ : ∃ b7, w1.heap.size = b7 := ⟨_, rfl⟩;rw [hb7] at HP2 HA2 ⊢;clear hb7 hx hsz HA1;generalize w1.alloc (.cells (fm t p q r y).toArray 29) = w2 at *;refine aF 1 ?_;go_upto_region 2 with fail;refine cf 2 ?_;go_upto_region 4 with fail;refine aI 1 ?_;refine akj (fE underlying22 rfl akt) ?_;refine akj (dA b rfl akt evk HB) ?_;refine ah ?_
 go_upto_if 24 with fail
 go_cut [1] (fun v wx => agK w A cc v /\ wx = w2)
 case first =>
  cases b
  ·have h40 : agK w A cc (.slice A nn cc) := ⟨nn, l, rfl, by have := of_decide_eq_false HB; omega, HNC, HRD⟩;go_wp2_with fail
   go_meet
   exact ⟨h40, rfl⟩
  ·have h40 : 40 <= nn := by have := of_decide_eq_true HB; omega
   have H40 : Hid (40 <= cc) := ae (aq h40 HNC);have hc40 : agK w A cc (.slice A 40 cc) := ⟨40, l.take 40, rfl, aj, H40, HRD.out.ajn h40⟩;clear h40;go_upto_region 5 with fail;refine aI 1 ?_;refine akj (vV (E := cH) (k := 40) rfl akt evk H40) ?_;refine aF 1 ?_;go_wp2_with fail
   go_meet
   exact ⟨hc40, rfl⟩
 case rest =>
  obtain ⟨⟨n, l', rfl, hn40, hncc, hrd⟩, rfl⟩ := hcut;have HN40 := ae hn40;have HNC' := ae hncc;have HRD' : Hid (RdE cH w w.heap.size A n ((l'.map afZ).map bS)) := ae (by rw [afx]; exact hrd);have HLL : Hid ((l'.map afZ).length = n) := ae (by rw [List.length_map]; exact hrd.1);obtain ⟨c, hc⟩ : ∃ c, l'.map afZ = c := ⟨_, rfl⟩;rw [hc] at HRD' HLL;obtain ⟨x, hx⟩ : ∃ x, iV s0 1 c = x := ⟨_, rfl⟩;obtain ⟨s1, hs1⟩ : ∃ s1, j7 s0 1 c = s1 := ⟨_, rfl⟩;have HX := ae hx;have HS1 := ae hs1;clear hn40 hncc hrd hc hx hs1 HRD HB HNC;have hcase : x = 0 \/ x ≠ 0 := by omega
  rcases hcase with hx0 | hx0;rotate_left 1
  ·have HE0 : Hid (s1 = s0) := ae (by rw [<- HS1.out]; unfold j7; rw [if_neg (by rw [HX.out]; exact hx0)]);have HX0 : Hid ((x != 0) = true) := ae (by simp [hx0]);clear hx0;go_upto_region 6 with fail;refine af ?_;refine akj (ax rfl akt jT) ?_;refine akj (aD rfl akt (jS ((aQ HP2) 0 _ rfl))) ?_;refine runs 1 ?_;refine ay rfl (aB call6 rfl (evc akt (evc evk (evc akt evn)))) ?_;refine (HA2.out.ajf (Q := 1) (by omega) (by have := HN40.out; omega) HRD' HLL HNC' HCC).mono ?_;rintro e w3 ⟨rfl, a_, k_⟩;rw [HX.out];rw [HS1.out] at a_;have HA3 := ae a_;have HP3 := ae ((k_ b7 rfl).trans HP2);clear a_ k_;refine aR ?_;refine akj (aK true rfl akt evk HX0) ?_;refine ah ?_;go_upto_region 7 with fail;refine af ?_;refine akj (ax rfl akt jT) ?_;refine akj (aD rfl akt (jS ((aQ HP3) 0 _ rfl))) ?_;refine ay rfl (aB call7 rfl (evc akt evn)) ?_;refine (SAt.look HA3 fun S hS => D.cX hS).mono ?_;rintro e w4 ⟨v4, rfl, m4, b4⟩;rw [HE0.out, HD0.out] at m4;obtain ⟨A4, c4, rfl, g1, g2⟩ := m4.form;have HA4 := ae (HA3.out.below b4);have HP4 := ae (aC HP3 b4);clear m4 b4 g1 g2;refine aR ?_;refine akj (fE underlying35 rfl akt) ?_;refine akj (aH true rfl akt evk rfl) ?_;refine runs 1 ?_;refine ay ake (aB call8 rfl evn) ?_;have HT4 : Hid (Tab w4) := ae fun i hi => (World.cell?_of_block (w := w) (HA4.out.bel.block _ (oN.start HT).lo)).trans (HT.out i hi)
   refine (yM C D I w4 HT4).mono ?_;rintro e wz ⟨rfl, b_⟩;have HZ := ae (HA4.out.bel.trans (b_.mono HA4.out.bel.size));clear b_;refine aR ?_;refine aF 2 ?_;go_wp2_with fail;go_ret;exact ⟨rfl, HZ⟩
  subst hx0;have hok1 : bW s1 := by rw [<- HS1.out]; exact HOK0.out.put (by omega) c
  have hn1 : s1.N = N /\ s1.T = 6 := by rw [<- HS1.out]; obtain ⟨e1, e2⟩ := ael s0 1 c; exact ⟨e1.trans HN0.out.1, e2.trans HN0.out.2⟩
  obtain ⟨h1, hh1⟩ : ∃ h1 : HuS, ({ h0 with M := js h0.M ((dd : Nat) : Int) } : HuS) = h1 := ⟨_, rfl⟩;have hl1 : Lif dd N 6 h1 := by rw [<- hh1]; exact HL0.out.fail
  have hr1 : HR 200 h1 := by rw [<- hh1]; exact HR0.out.fail _
  obtain ⟨h2, s2, hall, hl2, hd2, hsu⟩ := hl1.home hok1 hn1.1 hn1.2;obtain ⟨L, hL⟩ : ∃ L, sH s1 6 = L := ⟨_, rfl⟩;have hLf : ∀ k, k < L.length -> ∃ (n j : Nat) (z : Blk), L.getD k cP = ⟨(n : Int), (j : Int), z⟩ /\ n < 6 /\ j < N /\ (j ≠ dd -> qE h2.M (j : Int) (2 + (n : Int)) = 0 /\ qD h2.M (j : Int) (2 + (n : Int)) = z) := fun k hk => by
   have hm : L.getD k cP ∈ L := jo hk;rw [<- hL] at hm;obtain ⟨n, hn, hc⟩ := uu hm;obtain ⟨j, e1, e2, hj, e3⟩ := hsu n (by omega) _ hc;rw [hL] at e1 e2 e3;obtain ⟨⟨x1, x2, x3⟩, hx⟩ : ∃ z, L.getD k cP = z := ⟨_, rfl⟩;rw [hx] at e1 e2 e3;refine ⟨n, j, x3, ?_, hn, hj, fun hne => ?_⟩
   ·rw [hx];have e1' : x1 = (n : Int) := e1;have e2' : x2 = (j : Int) := e2;rw [e1', e2']
   ·obtain ⟨u1, u2⟩ := hl2.sure (j := j) (n := n) hj hne (by omega);exact ⟨u1, u2.trans (e3 hne)⟩
  have hLl : L.length <= 96 := by rw [<- hL]; have := ov hok1 6; omega
  have HOK1 := ae hok1;have HH1 := ae hh1;have HR1 : Hid (HR (16 * s1.T + 17) h1) := ae (hr1.less (by rw [hn1.2]; omega));have HALL := ae hall;have HD2 := ae hd2;have HL := ae hL;have HLF := ae hLf;have HLL96 := ae hLl;clear hok1 hn1 hh1 hl1 hr1 hall hl2 hd2 hsu hL hLf hLl HOK0 HL0 HR0 HD0 HN0;go_upto_region 6 with fail;refine af ?_;refine akj (ax rfl akt jT) ?_;refine akj (aD rfl akt (jS ((aQ HP2) 0 _ rfl))) ?_;refine runs 1 ?_;refine ay rfl (aB call6 rfl (evc akt (evc evk (evc akt evn)))) ?_;refine (HA2.out.ajf (Q := 1) (by omega) (by have := HN40.out; omega) HRD' HLL HNC' HCC).mono ?_;rintro e w3 ⟨rfl, a_, k_⟩;rw [HX.out];rw [HS1.out] at a_;have HA3 := ae a_;have HP3 := ae ((k_ b7 rfl).trans HP2);clear a_ k_;refine aR ?_;refine akj (aK false rfl akt evk rfl) ?_;refine ah ?_;go_upto_region 8 with fail;refine af ?_;refine akj (ax rfl akt acg) ?_;refine akj (aD rfl akt (acQ ((aQ HP3) 2 _ rfl))) ?_;refine runs 1 ?_;refine akj (px rfl akt HDC) ?_;refine ay rfl (aB call9 rfl (evc akt (evc akt evn))) ?_;refine (HA3.out.ajS fun hb => C.R.fail ((dd : Nat) : Int) hb).mono ?_;rintro e w4 ⟨rfl, a_, k_⟩;rw [HH1.out] at a_;have HA4 := ae a_;have HP4 := ae ((k_ b7 rfl).trans HP3);clear a_ k_;refine aR ?_;refine ah ?_;go_upto_region 9 with fail;refine cf 1 ?_;go_upto_region 10 with fail;refine cf 1 ?_;have HA5 : Hid (SAt C D w w.heap.size (fun b => b = b7 \/ (Value.slice none 0 0).ownBlock = some b) w4 q p t (0 + n) h1 s1) := ae (HA4.out.guard ak fun b e => .inl (e.elim id fun x => by cases x));clear HA4;go_wp2_with fail
  go_loopw [9, 10] (fun v z wr => ∃ i : Nat, z = .int .i64 i /\ i <= 6 /\ aN cH wr w.heap.size v ((sH s1 i).map bS) /\ SAt C D w w.heap.size (fun b => b = b7 \/ v.ownBlock = some b) wr q p t (0 + n) h1 s1 /\ wr.heap[b7]? = some (.cells (fm t p q r y).toArray 29 (0, 0))) (fun _ z _ => 6 - (intOf z).toNat)
  case atStart => exact ⟨0, by go_num, Nat.zero_le _, aN.nil _ _, HA5, HP4⟩
  case round =>
   clear HA5 HP4;obtain ⟨i, rfl, hi, mr, ar, pr⟩ := hrel;have HIL := ae hi;have HMr := ae mr;have HAr := ae ar;have HPr := ae pr;clear hi mr ar pr;by_cases hlt : i < 6
   ·have HI := ae hlt;have HLT : Hid (decide ((i : Int) < 6) = true) := ae (ao (by omega));have HIA : Hid (IntKind.i64.wrap ((i : Int) + 1) = ((i + 1 : Nat) : Int)) := ae (by rw [el ⟨by omega, by omega⟩]; omega);clear hlt;go_upto_region 11 with fail;refine aI 1 ?_;refine akj (aY true rfl akt evk HLT) ?_;refine ah ?_;go_upto_region 13 with fail;refine af ?_;refine akj (ax rfl akt jT) ?_;refine akj (aD rfl akt (jS ((aQ HPr) 0 _ rfl))) ?_;refine runs 1 ?_;refine ay rfl (aB call10 rfl (evc akt (evc akt evn))) ?_;refine (SAt.look HAr fun S hS => D.cells (i : Int) hS).mono ?_;rintro e w5 ⟨v5, rfl, m5, b5⟩;obtain ⟨A5, c5, rfl, g1, g2⟩ := m5.form;have HM5 := ae (aN.below HMr b5);have HA5 := ae (HAr.out.below b5);have HP5 := ae (aC HPr b5);have hln := ov HOK1 i;have hlm := uR HOK1 (i : Int);obtain ⟨v6, w6, hrun, m6, hg6, ho6⟩ := jL cH w5 22 w.heap.size w5.heap.size _ c5 u9 _ _ A5 HM5 m5.rd HA5.out.bel.size (by rw [List.length_map, List.length_map]; have := HI.out; omega);have HRUN := ae hrun;have HM6 : Hid (aN cH w6 w.heap.size v6 ((sH s1 (i + 1)).map bS)) := ae (by rw [sH, List.map_append]; exact m6);have HA6 := ae (SAt.app HA5 HM5 hg6 m6 ho6);have HP6 := ae ((hg6.block b7 (aU HP5) (fun e => (aN.eU HM5 HP5 (by decide)) e.symm)).trans HP5);clear m5 b5 g1 g2 hln hlm hrun m6 hg6 ho6 HMr HAr HPr;refine aR ?_;refine aF 1 ?_;go_upto_region 14 with fail;refine aI 2 ?_;refine akj (gh (E := cH) rfl akt akt HRUN) ?_;refine aF 1 ?_;go_upto_region 12 with fail;refine aI 1 ?_;refine akj (bH rfl akt evk HIA) ?_;refine aF 1 ?_;go_wp2_with fail;go_roundw
    case rel => exact ⟨i + 1, by go_num, HI, HM6, HA6, HP6⟩
    case measure => have := HI.out; simp [intOf]; omega
   have hin : i = 6 := by have := HIL.out; omega
   subst hin;clear hlt HIL;rw [HL.out] at HMr;obtain ⟨A9, c9, hv, g1, g2⟩ := HMr.out.form;replace hv : u9 = .slice A9 L.length c9 := by rw [hv, List.length_map]
   subst hv;clear g1 g2;have HLT : Hid (decide (((6 : Nat) : Int) < 6) = false) := ae rfl;go_upto_region 11 with fail;refine aI 1 ?_;refine akj (aY false rfl akt evk HLT) ?_;refine ah ?_;go_upto_region 15 with fail;refine af ?_;refine akj (ax rfl akt jT) ?_;refine akj (aD rfl akt (jS ((aQ HPr) 0 _ rfl))) ?_;refine akj (ax rfl akt yZ) ?_;refine akj (aD rfl akt (y7 ((aQ HPr) 1 _ rfl))) ?_;refine ay rfl (aB call11 rfl (evc akt (evc akt evn))) ?_;refine (HAr.out.home I HR1 HALL).mono ?_;rintro e w5 ⟨rfl, a_, k_⟩;have HA5 := ae a_;have HM5 := ae (xW HMr fun b e => k_ b (.inr e));have HP5 := ae ((k_ b7 (.inl rfl)).trans HPr);clear a_ k_ HAr HMr HPr;refine aR ?_;refine akj (aK false rfl akt evk rfl) ?_;refine runs 1 ?_;refine akq (ax rfl akt jT) ?_;refine akq (aD rfl akt (jS ((aQ HP5) 0 _ rfl))) ?_;refine ay ake (aB call7 rfl (evc akt evn)) ?_;refine (SAt.look HA5 fun S hS => D.cX hS).mono ?_;rintro e w6 ⟨v6, rfl, m6, b6⟩;dsimp only at m6;rw [HD2.out] at m6;obtain ⟨A6, c6, rfl, g1, g2⟩ := m6.form;have HA6 := ae (HA5.out.below b6);have HM6 := ae (aN.below HM5 b6);have HP6 := ae (aC HP5 b6);clear m6 b6 g1 g2 HA5 HM5 HP5;refine aR ?_;refine akq (fE underlying35 rfl akt) ?_;refine akq (aK false rfl akt evk rfl) ?_;refine aF 1 ?_;go_upto_region 17 with fail;refine cf 1 ?_;go_wp2_with fail
   go_loopw [12] (fun z wr => ∃ i : Nat, z = .int .i64 i /\ i <= L.length /\ aN cH wr w.heap.size (.slice A9 L.length c9) (L.map bS) /\ SAt C D w w.heap.size (fun b => b = b7 \/ (Value.slice A9 L.length c9).ownBlock = some b) wr q p t (0 + n) h2 s2 /\ wr.heap[b7]? = some (.cells (fm t p q r y).toArray 29 (0, 0))) (fun z _ => L.length - (intOf z).toNat)
   case atStart => exact ⟨0, by go_num, Nat.zero_le _, HM6, HA6, HP6⟩
   case round =>
    clear HA6 HP6 HM6;obtain ⟨i, rfl, hi, mr, ar, pr⟩ := hrel;have HIL := ae hi;have HMr := ae mr;have HAr := ae ar;have HPr := ae pr;clear hi mr ar pr;by_cases hlt : i < L.length
    ·have HI := ae hlt;have HLT : Hid (decide ((i : Int) < (L.length : Int)) = true) := ae (ao (by omega));have HIA : Hid (IntKind.i64.wrap ((i : Int) + 1) = ((i + 1 : Nat) : Int)) := ae (by have := HLL96.out; rw [el ⟨by omega, by omega⟩]; omega);obtain ⟨bA, oA, hA, hbA, hcA⟩ := HMr.out.rd.cl (k := i) hlt;obtain ⟨k1, j, z, hpp, hk1, hj, hsu⟩ := HLF.out i hlt;have hgd : (L.map bS).getD i iH = bS (L.getD i cP) := by
      simp only [List.getD, List.getElem?_map, List.getElem?_eq_getElem hlt]
      rfl
     rw [hgd, hpp] at hcA;have HCA : Hid (∀ {w' : World}, Below wr.heap.size wr w' -> w'.rangeAt bA (oA + i * 66) (cW ⟨(k1 : Int), (j : Int), z⟩)) := ae fun hw => fJ hcA hbA hw
     have HA := ae hA;have HW2 : Hid (IntKind.i64.wrap (2 + (k1 : Int)) = 2 + (k1 : Int)) := ae (el ⟨by omega, by omega⟩);have HSU := ae hsu;clear hlt hA hbA hcA hpp hgd hsu hk1 hj;go_upto_region 18 with fail;refine aI 2 ?_;refine akj (fE underlying22 rfl akt) ?_;refine akj (aY true rfl akt akt HLT) ?_;refine ah ?_;go_upto_region 20 with fail;refine aI 2 ?_;refine akj (co (E := cH) (b := bA) (off := oA) rfl ((ev (Eq.refl _)).trans (by rw [HA.out])) akt HI) ?_;refine akj (ax rfl akt nD) ?_;refine akj (ax rfl akt yx) ?_;refine akj (aD rfl akt (cd (fN (fQ (HCA.out ak))).2)) ?_;refine runs 1 ?_;refine akj (px rfl akt HDC) ?_;by_cases hjd : j = dd
     ·have HJD : Hid (((j : Int) == (dd : Int)) = true) := ae (by subst hjd; exact beq_self_eq_true _);clear hjd;refine akj (aH true rfl akt akt HJD) ?_;refine ah ?_;go_upto_region 19 with fail;refine aI 1 ?_;refine akj (bH rfl akt evk HIA) ?_;refine aF 1 ?_;go_wp2_with fail;go_roundw
      case rel => exact ⟨i + 1, by go_num, HI, HMr, HAr, HPr⟩
      case measure => have := HI.out; simp [intOf]; omega
     ·have HJD : Hid (((j : Int) == (dd : Int)) = false) := ae (av fun e => hjd (by omega));have HS2 := ae (HSU.out hjd);have HSD : Hid (Below wr.heap.size wr (World.drew wr)) := ae ((Below.refl wr.heap.size wr).drew);have HSB : Hid (Below wr.heap.size wr ((World.drew wr).alloc (.cells (cel aJ).toArray 44))) := ae (HSD.out.alloc aj _);clear hjd HSU;refine akj (aH false rfl akt akt HJD) ?_;refine ah ?_;go_upto_region 21 with fail;refine wp_region_held (S := fun w' => Below wr.heap.size wr w') (by kernel_rfl) ?_;change wpAnyH _ _ _ _ _ 22 _ _ wr.drew;apply aa8 (F := fun (vb : Value) (wz : World) => ∃ b, vb = .pointer (some ⟨b, 0, none⟩) /\ wz.heap[b]? = some (.cells (cel z).toArray 44 (0, 0)) /\ Below wr.heap.size wr wz /\ wr.heap.size <= b)
      ·intro kk;refine akm 0 rfl (fun _ hw => ax rfl akt acg) HSD ?_;refine akm 1 rfl (fun _ hw => aD rfl akt (acQ ((aQ (aC HPr hw)) 2 _ rfl))) HSD ?_;refine akG 2 rfl HSD ?_;refine akG 3 rfl HSD ?_;refine akm 4 rfl (fun _ hw => co (E := cH) (b := bA) (off := oA) rfl ((ev (Eq.refl _)).trans (by rw [HA.out])) akt HI) HSD ?_;refine akm 5 rfl (fun _ hw => ax rfl akt nD) HSD ?_;refine akm 6 rfl (fun _ hw => ax rfl akt yx) HSD ?_;refine akm 7 rfl (fun _ hw => aD rfl akt (cd (fN (fQ (HCA.out hw))).2)) HSD ?_;refine akG 8 rfl HSD ?_;refine akG 9 rfl HSD ?_;refine akm 10 rfl (fun _ hw => co (E := cH) (b := bA) (off := oA) rfl ((ev (Eq.refl _)).trans (by rw [HA.out])) akt HI) HSD ?_;refine akm 11 rfl (fun _ hw => ax rfl akt nD) HSD ?_;refine akm 12 rfl (fun _ hw => ax rfl akt nk) HSD ?_;refine akm 13 rfl (fun _ hw => aD rfl akt (cd (fN (fQ (HCA.out hw))).1)) HSD ?_;refine akm 14 rfl (fun _ hw => bH rfl evk akt HW2) HSD ?_;refine ny 15 19 rfl rfl (by kernel_rfl) rfl rfl (aB call12 rfl (evc akt (evc akt (evc akt evn)))) ?_ (bU rfl) HSB ?_
       ·refine (SAt.acs (HAr.out.below HSD) fun F hF => C.R.sure (j : Int) (2 + (k1 : Int)) hF).mono ?_;rintro e wA ⟨rfl, bX⟩;have bY := bX;rw [HS2.out.1, HS2.out.2];have HSA := ae (Below.trans HSD (bY.mono (Below.size HSD)));clear bX bY;refine ⟨_, rfl, HSA, ?_⟩;simp only [aa];refine akG 16 rfl HSA ?_;refine akJ 17 rfl HSA ?_;refine akJ 18 rfl HSA ?_;have HSA2 := ae (HSA.out.alloc HSA.out.size (.cells (cel aJ).toArray 44));have HSA3 := ae (HSA.out.alloc HSA.out.size (.cells (cel z).toArray 44));refine kP 19 rfl (by kernel_rfl) rfl (bU rfl) HSA2.out ?_;simp only [aa];refine dK 20 rfl (by kernel_rfl) rfl (ip (c := z) rfl (ev rfl) (ev rfl)) HSA3.out ?_;simp only [Act.put];refine akH 21 rfl HSA3 ?_;refine wpAnyH_done (by kernel_rfl) ?_ _;have hz : (wA.alloc (.cells (cel z).toArray 44)).heap[wA.heap.size]? = _ := heap_alloc_new wA (.cells (cel z).toArray 44);have hy := HSA3.out;have hge := HSA.out.size;obtain ⟨bb, hbb⟩ : ∃ bb, wA.heap.size = bb := ⟨_, rfl⟩;rw [hbb] at hz hge ⊢;clear HSA2 HSA3;generalize wA.alloc (.cells (cel z).toArray 44) = wz at *;obtain ⟨vb, hvb⟩ : ∃ vb, Value.pointer (some ⟨bb, 0, none⟩) = vb := ⟨_, rfl⟩;rw [hvb];exact kk vb wz ⟨bb, hvb.symm, hz, hy, hge⟩
       ·skip
        simp only [aa];obtain ⟨wa, hwa⟩ : ∃ wa, wr.drew.alloc (.cells (cel aJ).toArray 44) = wa := ⟨_, rfl⟩;have HSa := HSB;have HQa := ae (heap_alloc_new wr.drew (.cells (cel aJ).toArray 44));obtain ⟨bb, hbb⟩ : ∃ bb, wr.drew.heap.size = bb := ⟨_, rfl⟩;have HBL : Hid (wr.heap.size <= bb) := ae (Nat.le_of_eq hbb);rw [hwa] at HSa HQa;rw [hbb] at HQa;rw [hwa, hbb];clear hwa hbb;refine eB 15 rfl (by kernel_rfl) rfl (aB call12 rfl (evc akt (evc akt (evc akt evn)))) ?_;refine (SAt.acs (HAr.out.below HSa) fun F hF => C.R.sure (j : Int) (2 + (k1 : Int)) hF).mono ?_;rintro e wA ⟨rfl, bX⟩;have bY := bX;rw [HS2.out.1, HS2.out.2];have HQB := ae (aC HQa bY);have HSb := ae (HSa.out.trans (bY.mono HSa.out.size));clear bX bY;refine ⟨_, rfl, HSb, ?_⟩;simp only [aa];refine akG 16 rfl HSb ?_;refine akJ 17 rfl HSb ?_;refine akJ 18 rfl HSb ?_;have HSc := ae (below_setCells HSb HBL (o := 0) (cel z));refine dK 20 rfl (by kernel_rfl) rfl (bO (c := z) rfl (ev rfl) (ev rfl) (je HQB.out)) HSc.out ?_;simp only [Act.put];refine akH 21 rfl HSc ?_;refine wpAnyH_done (by kernel_rfl) ?_ _;have hz : (wA.setCells bb 0 (cel z)).heap[bb]? = _ := uF HQB;have hy := HSc.out;clear HSc;generalize wA.setCells bb 0 (cel z) = wz at *;obtain ⟨vb, hvb⟩ : ∃ vb, Value.pointer (some ⟨bb, 0, none⟩) = vb := ⟨_, rfl⟩;rw [hvb];exact kk vb wz ⟨bb, hvb.symm, hz, hy, HBL⟩
      rintro _ wz ⟨b13, rfl, hz, hy, hge⟩;have HZz := ae hz;have HAz := ae (HAr.out.below hy);have HMz := ae (aN.below HMr hy);have HPz := ae (aC HPr hy);have HCz : Hid (∀ {w' : World}, Below wz.heap.size wz w' -> w'.rangeAt bA (oA + i * 66) (cW ⟨(k1 : Int), (j : Int), z⟩)) := ae fun hw => HCA.out (hy.trans (hw.mono hy.size))
      clear hz hy hge HSD HSB HAr HMr HPr;go_upto_region 22 with fail;refine aS (B := wz.heap.size) (by kernel_rfl) ?_;refine cC 1 ?_;refine akr (fun _ hw => aK false rfl akt evk rfl) ?_;refine cC 1 ?_;refine aks (fun _ hw => bI (c := z) rfl akt (aQ (aC HZz hw))) ?_;refine cC 2 ?_;refine aks (fun _ hw => co (E := cH) (b := bA) (off := oA) rfl ((ev (Eq.refl _)).trans (by rw [HA.out])) akt HI) ?_;refine aks (fun _ hw => ax rfl akt ahE) ?_;refine aks (fun _ hw => bI (c := z) rfl akt (wk (HCz.out hw))) ?_;refine aks (fun _ hw => aaE false rfl akt akt (by rw [ao rfl]; rfl)) ?_;refine cC 1 ?_;refine wpQuiet_nil ?_;intro wy hw;have HAy := ae (HAz.out.below hw);have HMy := ae (aN.below HMz hw);have HPy := ae (aC HPz hw);clear hw HAz HMz HPz;go_upto_region 19 with fail;refine aI 1 ?_;refine akj (bH rfl akt evk HIA) ?_;refine aF 1 ?_;go_wp2_with fail;go_roundw
      case rel => exact ⟨i + 1, by go_num, HI, HMy, HAy, HPy⟩
      case measure => have := HI.out; simp [intOf]; omega
    have hin : i = L.length := by have := HIL.out; omega
    subst hin;have HLT : Hid (decide ((L.length : Int) < (L.length : Int)) = false) := ae (am (by omega));have HTr : Hid (Tab wr) := ae fun i hi => (World.cell?_of_block (w := w) (HAr.out.bel.block _ (oN.start HT).lo)).trans (HT.out i hi)
    clear hlt;go_upto_region 18 with fail;refine aI 2 ?_;refine akj (fE underlying22 rfl akt) ?_;refine akj (aY false rfl akt akt HLT) ?_;refine ah ?_;go_upto_region 24 with fail;refine af ?_;refine ay rfl (aB call8 rfl evn) ?_;refine (yM C D I wr HTr).mono ?_;rintro e wz ⟨rfl, b_⟩;have HZ := ae (HAr.out.bel.trans (b_.mono HAr.out.bel.size));clear b_;refine aR ?_;refine aF 1 ?_;go_wp2_with fail;go_ret;exact ⟨rfl, HZ⟩
def kyL (d : Nat -> Bool) (o : List Nat) : List Ky := o.map fun (n : Nat) => (⟨(n : Int), d n⟩ : Ky)
section
variable {d e : Nat -> Bool} {o : List Nat} {n i room : Nat} {s : ShS}
theorem cR : (kyL d o).length = o.length := List.length_map _
theorem sa : fw (kyL d o) = o.map fun (n : Nat) => (n : Int) := by unfold fw kyL; rw [List.map_map]; rfl
theorem mz (hi : i < o.length) : (kyL d o).getD i ky0 = ⟨((o.getD i 0 : Nat) : Int), d (o.getD i 0)⟩ := getD_map (fun (n : Nat) => (⟨(n : Int), d n⟩ : Ky)) o 0 ky0 hi
theorem zQ (h : ∀ n ∈ o, d n = e n) : kyL d o = kyL e o := List.map_congr_left fun n hn => by rw [h n hn]
theorem du : plc (n : Int) (kyL d o) < (kyL d o).length ↔ n ∈ o := by
 rw [lG, sa, List.mem_map]
 constructor
 ·rintro ⟨j, h1, h2⟩;have : j = n := by omega
  subst this; exact h1
 ·intro h; exact ⟨n, h, rfl⟩
theorem nL (h : n ∈ o) : o.getD (plc (n : Int) (kyL d o)) 0 = n := by
 have h1 := du (d := d).2 h;have h2 := o8 h1;rw [mz (by rw [cR] at h1; exact h1)] at h2;exact Int.ofNat.inj h2
theorem rN : ∀ {o : List Nat} {i : Nat}, o.Nodup -> i < o.length -> wo o i = eO o (o.getD i 0)
 |[], i, _, hi => by simp at hi
 |x :: r, 0, hd, _ => by
  obtain ⟨h1, h2⟩ := List.nodup_cons.1 hd;have e : eO (x :: r) x = eO r x := by unfold eO; simp
  show wo (x :: r) 0 = eO (x :: r) x
  rw [e, l7 h1]
  rfl
 |x :: r, i + 1, hd, hi => by
  obtain ⟨h1, h2⟩ := List.nodup_cons.1 hd;have hi' : i < r.length := by simpa using hi
  have ih := rN h2 hi';have hm : r.getD i 0 ∈ r := cI hi';have hne : x ≠ r.getD i 0 := fun e => h1 (by rw [e]; exact hm)
  show wo (x :: r) (i + 1) = eO (x :: r) (r.getD i 0)
  have e : eO (x :: r) (r.getD i 0) = x :: eO r (r.getD i 0) := by
   unfold eO;rw [List.filter_cons, if_pos (by rw [am hne]; rfl)]
  rw [e, <- ih];unfold wo;simp
theorem acm (hd : o.Nodup) (hi : i < o.length) : wo (kyL d o) i = kyL d (eO o (o.getD i 0)) := by
 rw [<- rN hd hi];exact (pG _ o i).symm
theorem sE : lu (kyL d o) = luD d o := abe _ _ (by unfold kyL; rw [List.map_map]; rfl) fun k hk n hn => by
 obtain ⟨j, _, rfl⟩ := List.mem_map.1 hk;have : j = n := Int.ofNat.inj hn;subst this; rfl
theorem y5 (hd : o.Nodup) (n : Nat) (is : Bool) : mW (n : Int) is (kyL d o) = kyL (dh d n is) o := by
 unfold mW;by_cases h : n ∈ o
 ·have hl := du (d := d).2 h;have hl' : plc (n : Int) (kyL d o) < o.length := by rw [cR] at hl; exact hl
  have hp := nL (d := d) h;rw [if_pos hl];refine List.ext_getElem (by rw [List.length_set, cR, cR]) fun j h1 h2 => ?_
  have hj : j < o.length := by rw [cR] at h2; exact h2
  rw [List.getElem_set];have g : (kyL (dh d n is) o)[j] = ⟨((o.getD j 0 : Nat) : Int), dh d n is (o.getD j 0)⟩ := by
   rw [<- mz hj, List.getD, List.getElem?_eq_getElem h2]; rfl
  rw [g]
  split
  ·rename_i e; rw [<- e, hp, c7]
  ·rename_i e
   have g2 : (kyL d o)[j]'(by rw [cR]; exact hj) = ⟨((o.getD j 0 : Nat) : Int), d (o.getD j 0)⟩ := by
    rw [<- mz hj, List.getD, List.getElem?_eq_getElem (by rw [cR]; exact hj)]; rfl
   rw [g2, cg];intro e2;have p1 := kJ hd hj;rw [e2, <- hp, kJ hd hl'] at p1;exact e p1
 ·rw [if_neg (fun e => h (du.1 e))];exact zQ fun j hj => (cg d is fun e => h (by rw [<- e]; exact hj)).symm
theorem aeH (h : bW s) (n : Nat) : qt (n : Int) (kyL s.dty s.o) = s.dty n := by
 unfold qt;by_cases hn : n ∈ s.o
 ·have hl := du (d := s.dty).2 hn;rw [ao hl, mz (by rw [cR] at hl; exact hl), nL hn]
  rfl
 ·rw [am fun e => hn (du.1 e)];cases e : s.dty n
  ·rfl
  ·exact absurd ((h.mem n).2 (eV e)) hn
theorem bW.lL (h : bW s) (n : Nat) : (s.ln n).isNone = true ↔ n ∉ s.o := by
 rw [h.mem n]; cases s.ln n <;> simp
theorem i6 (h : bW s) (n : Nat) :
  (n ∈ s.o /\ s.goes n = false /\ s.fj n = true /\ s.cut n = s) \/
  (n ∉ s.o /\ s.o.length < s.room /\ s.goes n = false /\ s.fj n = true /\ s.cut n = s) \/
  (n ∉ s.o /\ ¬ s.o.length < s.room /\ luD s.dty s.o = 0 /\ s.goes n = true /\ s.fj n = false) \/
  (n ∉ s.o /\ ¬ s.o.length < s.room /\ 0 < luD s.dty s.o /\ s.goes n = true /\ s.fj n = true /\ s.cut n = { s.eu s.gone none with o := eO s.o s.gone }) := by
 have hb : ∀ g, s.goes n = g -> s.fj n = !(g && decide (luD s.dty s.o = 0)) := fun g e => by unfold ShS.fj; rw [e]
 have hc : s.goes n = false -> s.cut n = s := fun e => by unfold ShS.cut; rw [e]; rfl
 by_cases hn : n ∈ s.o
 ·have g : s.goes n = false := by
   unfold ShS.goes;cases e : (s.ln n).isNone
   ·rfl
   ·exact absurd hn ((h.lL n).1 e)
  exact .inl ⟨hn, g, by rw [hb _ g]; rfl, hc g⟩
 ·have hi := (h.lL n).2 hn;by_cases hl : s.o.length < s.room
  ·have g : s.goes n = false := by unfold ShS.goes; rw [hi, am (by omega)]; rfl
   exact .inr (.inl ⟨hn, hl, g, by rw [hb _ g]; rfl, hc g⟩)
  ·have g : s.goes n = true := by unfold ShS.goes; rw [hi, ao (by omega)]; rfl
   rcases Nat.eq_zero_or_pos (luD s.dty s.o) with h0 | h0
   ·exact .inr (.inr (.inl ⟨hn, hl, h0, g, by rw [hb _ g, ao h0]; rfl⟩))
   ·exact .inr (.inr (.inr ⟨hn, hl, h0, g, by rw [hb _ g, am (by omega)]; rfl, by unfold ShS.cut; rw [if_pos g]⟩))
theorem adX (h : bW s) (n : Nat) : vG s.room n (kyL s.dty s.o) = if s.fj n = true then 0 else 10 := by
 unfold vG;rw [sE, cR];rcases i6 h n with ⟨h1, _, h3, _⟩ | ⟨h1, h2, _, h3, _⟩ | ⟨h1, h2, h4, _, h3⟩ | ⟨h1, h2, h4, _, h3, _⟩
 ·rw [if_pos (by have := du (d := s.dty).2 h1; rwa [cR] at this), if_pos h3]
 ·rw [if_neg (fun e => h1 (du (d := s.dty).1 (by rw [cR]; exact e))), if_pos h2, if_pos h3]
 ·rw [if_neg (fun e => h1 (du (d := s.dty).1 (by rw [cR]; exact e))), if_neg h2, if_pos h4, h3]; rfl
 ·rw [if_neg (fun e => h1 (du (d := s.dty).1 (by rw [cR]; exact e))), if_neg h2, if_neg (by omega), if_pos h3]
theorem adp (h : bW s) (n : Nat) : wQ s.room n (kyL s.dty s.o) = (s.goes n && s.fj n) := by
 unfold wQ;rw [sE, cR];rcases i6 h n with ⟨h1, g, h3, _⟩ | ⟨h1, h2, g, h3, _⟩ | ⟨h1, h2, h4, g, h3⟩ | ⟨h1, h2, h4, g, h3, _⟩
 ·rw [if_pos (by have := du (d := s.dty).2 h1; rwa [cR] at this), g]; rfl
 ·rw [if_neg (fun e => h1 (du (d := s.dty).1 (by rw [cR]; exact e))), if_pos h2, g]; rfl
 ·rw [if_neg (fun e => h1 (du (d := s.dty).1 (by rw [cR]; exact e))), if_neg h2, if_pos h4, g, h3]; rfl
 ·rw [if_neg (fun e => h1 (du (d := s.dty).1 (by rw [cR]; exact e))), if_neg h2, if_neg (by omega), g, h3]; rfl
theorem adj (h : bW s) (n : Nat) (hg : s.goes n = true) (hb : s.fj n = true) : t6 s.room n (kyL s.dty s.o) = (s.gone : Int) := by
 unfold t6;rw [sE, cR];rcases i6 h n with ⟨h1, g, h3, _⟩ | ⟨h1, h2, g, h3, _⟩ | ⟨h1, h2, h4, g, h3⟩ | ⟨h1, h2, h4, g, h3, _⟩
 ·rw [hg] at g; cases g
 ·rw [hg] at g; cases g
 ·rw [hb] at h3; cases h3
 ·have := xm (d := s.dty) s.o;rw [if_neg (fun e => h1 (du (d := s.dty).1 (by rw [cR]; exact e))), if_neg h2, if_neg (by omega), mz (by omega)]
  rfl
theorem uJ (s : ShS) (n : Nat) : (s.tch n).o = if s.fj n = true then n :: eO (s.cut n).o n else s.o := by unfold ShS.tch; split <;> rfl
theorem acj (h : bW s) (n : Nat) : vk s.room n (kyL s.dty s.o) = kyL s.dty (s.tch n).o := by
 unfold vk;rw [sE, cR, uJ];have d0 : n ∉ s.o -> s.dty n = false := fun hn => by
  cases e : s.dty n
  ·rfl
  ·exact absurd ((h.mem n).2 (eV e)) hn
 rcases i6 h n with ⟨h1, g, h3, hc⟩ | ⟨h1, h2, g, h3, hc⟩ | ⟨h1, h2, h4, g, h3⟩ | ⟨h1, h2, h4, g, h3, hc⟩
 ·have hl : plc (n : Int) (kyL s.dty s.o) < s.o.length := by have := du (d := s.dty).2 h1; rwa [cR] at this
  rw [if_pos hl, if_pos h3, hc, acm h.nd hl, mz hl, nL h1]
  rfl
 ·rw [if_neg (fun e => h1 (du (d := s.dty).1 (by rw [cR]; exact e))), if_pos h2, if_pos h3, hc, l7 h1]
  show _ = (⟨(n : Int), s.dty n⟩ : Ky) :: kyL s.dty s.o
  rw [d0 h1]
 ·rw [if_neg (fun e => h1 (du (d := s.dty).1 (by rw [cR]; exact e))), if_neg h2, if_pos h4, h3]; rfl
 ·have hle := xm (d := s.dty) s.o;rw [if_neg (fun e => h1 (du (d := s.dty).1 (by rw [cR]; exact e))), if_neg h2, if_neg (by omega), if_pos h3, hc, acm h.nd (by omega)]
  show _ = (⟨(n : Int), s.dty n⟩ : Ky) :: kyL s.dty (eO (eO s.o s.gone) n)
  rw [d0 h1, l7 (n := n) (o := eO s.o s.gone) fun e => h1 (iu.1 e).1]
  rfl
end
def jY (d : Nat -> Bool) (l : List Nat) : List Int := (l.filter d).map fun (n : Nat) => (n : Int)
theorem rC {d : Nat -> Bool} {l : List Nat} {i : Nat} {b : Bool} (hi : i < l.length) (h : d (l.getD i 0) = b) : jY d (l.take (i + 1)) = jY d (l.take i) ++ (if b = true then [((l.getD i 0 : Nat) : Int)] else []) := by
 subst h;unfold jY;rw [List.take_add_one, List.getElem?_eq_getElem hi, List.filter_append, List.map_append, List.getD, List.getElem?_eq_getElem hi]
 congr 1
 simp only [Option.toList_some, List.filter_cons, List.filter_nil, Option.getD_some]
 split <;> rfl
theorem pX (d : Nat -> Bool) (l : List Nat) : (jY d l).length <= l.length := by unfold jY; rw [List.length_map]; exact List.length_filter_le _ _
theorem kx (d : Nat -> Bool) : ∀ k, (mY d k).Pairwise (fun a b => a < b)
 |0 => List.Pairwise.nil
 |k + 1 => by
  rw [mY, List.pairwise_append];refine ⟨kx d k, ?_, fun a ha b hb => ?_⟩
  ·split
   ·exact List.pairwise_singleton _ _
   ·exact List.Pairwise.nil
  ·obtain ⟨j, rfl, hj, _⟩ := gp.1 ha
   split at hb
   ·have := List.mem_singleton.1 hb; omega
   ·cases hb
theorem ph {s : ShS} (h : bW s) : (jY s.dty s.o).mergeSort (fun x y => decide (x <= y)) = s.cX := by
 have tr : ∀ a b c : Int, decide (a <= b) = true -> decide (b <= c) = true -> decide (a <= c) = true := fun a b c h1 h2 => by simp only [decide_eq_true_eq] at *; omega
 have tot : ∀ a b : Int, (decide (a <= b) || decide (b <= a)) = true := fun a b => by simp only [Bool.or_eq_true, decide_eq_true_eq]; omega
 have hs := kx s.dty s.T;refine List.Perm.eq_of_pairwise (le := fun a b => decide (a <= b) = true) (fun a b _ _ h1 h2 => by simp only [decide_eq_true_eq] at h1 h2; omega) (List.pairwise_mergeSort tr tot _) (hs.imp fun {a b} hab => by simp only [decide_eq_true_eq]; omega) ((List.mergeSort_perm _ _).trans ?_);refine (List.perm_ext_iff_of_nodup ?_ (hs.imp fun {a b} hab e => by omega)).2 fun a => ?_
 ·unfold jY;refine List.pairwise_map.2 ((h.nd.filter _).imp fun {a b} hab e => hab (by omega))
 ·unfold jY;rw [List.mem_map]
  constructor
  ·rintro ⟨n, hn, rfl⟩;have := List.mem_filter.1 hn;exact ShS.kN.2 ⟨h.lt n this.1, this.2⟩
  ·intro ha;obtain ⟨j, rfl, hj, hd⟩ := gp.1 ha;exact ⟨j, List.mem_filter.2 ⟨(h.mem j).2 (eV hd), hd⟩, rfl⟩
theorem kh : ∀ (a b l : List Int), eZ l (a ++ b) = eZ (eZ l a) b
 |[], b, l => rfl
 |x :: a, b, l => by rw [List.cons_append, eZ, eZ, kh a b]
theorem qV : ∀ (r l : List Int), l.length <= (eZ l r).length
 |[], l => aj
 |x :: r, l => by
  rw [eZ];refine aq ?_ (qV r _)
  split <;> simp
theorem pY (l r : List Int) (x : Int) : eZ l (r ++ [x]) = if (eZ l r).contains x = true then eZ l r else eZ l r ++ [x] := by rw [kh]; rfl
theorem vv {l : List Int} {i : Nat} (hi : i < l.length) : l.take (i + 1) = l.take i ++ [l.getD i 0] := by
 rw [List.take_add_one, List.getElem?_eq_getElem hi, List.getD, List.getElem?_eq_getElem hi]; rfl
theorem aat (l r : List Int) (i : Nat) : (eZ l (r.take i)).length <= (eZ l r).length := by
 conv => rhs; rw [<- List.take_append_drop i r, kh]
 exact qV _ _
theorem qR {s : ShS} : ∀ (l r : List Int), (l ++ r).Nodup -> eZ l r = l ++ r
 |l, [], _ => by simp [eZ]
 |l, x :: r, h => by
  have hx : ¬ l.contains x = true := fun e => by
   have hm : x ∈ l := by simpa using e
   rw [List.nodup_append] at h;exact h.2.2 x hm x (List.mem_cons_self ..) rfl
  rw [eZ, if_neg hx, qR (s := s) (l ++ [x]) r (by rw [List.append_assoc]; exact h), List.append_assoc]
  rfl
theorem vf (s : ShS) : s.cX.Nodup := (kx s.dty s.T).imp fun {a b} hab e => by omega
theorem ack (s : ShS) (i : Nat) : eZ [] (s.cX.take i) = s.cX.take i := by
 have := qR (s := s) [] (s.cX.take i) (by rw [List.nil_append]; exact (vf s).sublist (List.take_sublist _ _));rw [this, List.nil_append]
theorem bW.vn {s : ShS} (h : bW s) : s.cX.length <= s.room := by
 rw [<- ph h, List.length_mergeSort];exact aq (pX _ _) h.len
section
variable {C : eN} {D : ShI C} {w w' w0 w1 : World} {G G' G0 S S' S0 : Nat -> Prop} {p q t K k : Nat} {h h' : HuS} {s s' : ShS} {O O' : Nat -> Prop}
theorem tM (hok : bW s) : s.fits [] = true := by
 have := hok.vn;unfold ShS.fits;rw [eZ, decide_eq_true_iff];exact this
theorem yq (w : World) (B : Nat) : RdE bP w B none ([] : List Int).length [] := ⟨rfl, fun k hk => absurd hk (by simp)⟩
theorem xj {n : Int} (e : (fK (dj s n) h).1 = 0) : ir h s n = (shE s n, (fK (dj s n) h).2, dL s n) := by
 unfold ir shE;by_cases x : s.str n = true
 ·rw [if_pos x, if_pos e, if_pos x]
 ·rw [if_neg x, if_neg x];have e1 : dj s n = [] := by unfold dj; rw [if_neg x]
  have e2 : dL s n = s := by unfold dL; rw [if_neg fun y => x y.1]
  rw [e1, e2]
  rfl
theorem adz {n : Int} (x : (fK (dj s n) h).1 ≠ 0) : ir h s n = ((fK (dj s n) h).1, (fK (dj s n) h).2, s) := by
 unfold ir;by_cases y : s.str n = true
 ·rw [if_pos y, if_neg x]
 ·have e1 : dj s n = [] := by unfold dj; rw [if_neg y]
  rw [e1] at x;exact absurd rfl x
theorem QD.write (n m : Int) (b : Blk) (e : QD C D w0 G0 S0 q p t K O w h s) (hr : HR (k + 1) h) : Calls prog 36 #[.pointer (some ⟨p, 0, none⟩), .agg #[.int .i64 n, .int .i64 m], blk b] w fun e w' => e = .returned (.int .i64 (jZ h n m b)) /\ QD C D w0 G0 S0 q p t K O w' (fU h n m b) s /\ cj O w w' :=
 e.afS fun G j hc => (C.write n m b j hc hr.hrm.1 hr.hrm.2).mono fun e w' ⟨k0, G', k1, k2, k3, _⟩ => ⟨k0, G', k1 (hr.ajO n m), k2, k3⟩
theorem QD.cells (n : Int) (e : QD C D w0 G0 S0 q p t K O w h s) : Calls prog 10 #[.pointer (some ⟨t, 0, none⟩), .int .i64 n] w fun e w' => ∃ v, e = .returned v /\ aN cH w' w.heap.size v ((dj s n).map bS) /\ Below w.heap.size w w' := e.look fun S hS => D.cells n hS
theorem QD.cX (e : QD C D w0 G0 S0 q p t K O w h s) : Calls prog 7 #[.pointer (some ⟨t, 0, none⟩)] w fun e w' => ∃ v, e = .returned v /\ aN bP w' w.heap.size v s.cX /\ Below w.heap.size w w' := e.look fun S hS => D.cX hS
theorem QD.clean (n : Int) (e : QD C D w0 G0 S0 q p t K O w h s) : Calls prog 37 #[.pointer (some ⟨t, 0, none⟩), .int .i64 n] w fun e w' => e = .returned (.int .i64 (shE s n)) /\ QD C D w0 G0 S0 q p t K O w' h (dL s n) /\ cj O w w' := e.shelf fun S hS => D.clean n hS
theorem QD.flush (F : af6 C) (e : QD C D w0 G0 S0 q p t K O w h s) (hr : HR (k + 16) h) : Calls prog 34 #[.pointer (some ⟨p, 0, none⟩)] w fun e w' => e = .returned (.int .i64 (oY h)) /\ QD C D w0 G0 S0 q p t K O w' (iX h) s /\ cj O w w' := e.afS fun G j hc => F.flush j hc fun _ => hr.hfl.1
theorem QD.own {v : Value} {α : Type} {E : Elt α} {l : List α} (e : QD C D w0 G0 S0 q p t K (fun _ => False) w h s) (k : Below w.heap.size w w') (m : aN E w' w.heap.size v l) : QD C D w0 G0 S0 q p t K (fun b => v.ownBlock = some b) w' h s := e.guard k fun b hb => .inr ⟨m.gH b hb, m.ju b hb⟩
end
theorem yW {C : eN} {D : ShI C} {w : World} {G S : Nat -> Prop} {q p t K : Nat} {h : HuS} {s : ShS} (hJ : C.J w G q p h) (hS : D.P w S t K s) : Calls prog 33 #[.pointer (some ⟨t, 0, none⟩), .pointer (some ⟨p, 0, none⟩)] w fun e w' => e = .returned (.bool true) /\ Below w.heap.size w w' := by
 have HJ := ae hJ;have HS := ae hS;have HID : Hid (((h.id : Int) != 0) = true) := ae (by have := (C.fin hJ).2; simp; omega);clear hJ hS;go_enter func33, ntmps33;go_upto_region 0 with fail;refine cf 1 ?_;go_upto_region 1 with fail;refine aI 1 ?_;refine ay rfl (aB call52 rfl (evc akt (evc evk evn))) ?_;refine (D.fits (l := []) HS (yq _ _) (fun x hx => by cases hx) aj (by unfold maxLen; decide) (by decide)).mono ?_;rintro e w1 ⟨rfl, b1⟩;rw [tM (D.ok HS.out)];have HB1 := ae b1;clear b1;refine aR ?_;refine runs 2 ?_;refine ay ake (aB call66 rfl (evc akt evn)) ?_;refine (C.id_ (C.below HJ HB1)).mono ?_;rintro e w2 ⟨rfl, b2⟩;have HB := ae (HB1.out.trans (b2.mono HB1.out.size));clear b2;refine aR ?_;refine akq (aK true rfl akt evk HID) ?_;refine aF 2 ?_;go_wp2_with fail;go_ret;exact ⟨rfl, HB⟩
theorem pL {C : eN} {D : ShI C} {w : World} (v u : Value) (hN : D.No w v) : Calls prog 33 #[v, u] w fun e w' => e = .returned (.bool false) /\ Below w.heap.size w w' := by
 have HN := ae hN;clear hN;go_enter func33, ntmps33;go_upto_region 0 with fail;refine cf 1 ?_;go_upto_region 1 with fail;refine aI 1 ?_;refine ay rfl (aB call52 rfl (evc akt (evc evk evn))) ?_;refine (D.no_fits _ v HN).mono ?_;rintro e w1 ⟨rfl, b1⟩;have HB := ae b1;clear b1;refine aR ?_;refine a7 3 rfl (aM rfl akt) (by kernel_rfl) ?_;simp only [bL, ac, aa];refine aF 2 ?_;go_wp2_with fail;go_ret;exact ⟨rfl, HB⟩
theorem oz {C : eN} {D : ShI C} {w : World} {S : Nat -> Prop} {t K : Nat} {s : ShS} (u : Value) (hS : D.P w S t K s) (hN : C.No w u) : Calls prog 33 #[.pointer (some ⟨t, 0, none⟩), u] w fun e w' => e = .returned (.bool false) /\ Below w.heap.size w w' := by
 have HS := ae hS;have HN := ae hN;clear hS hN;go_enter func33, ntmps33;go_upto_region 0 with fail;refine cf 1 ?_;go_upto_region 1 with fail;refine aI 1 ?_;refine ay rfl (aB call52 rfl (evc akt (evc evk evn))) ?_;refine (D.fits (l := []) HS (yq _ _) (fun x hx => by cases hx) aj (by unfold maxLen; decide) (by decide)).mono ?_;rintro e w1 ⟨rfl, b1⟩;rw [tM (D.ok HS.out)];have HB1 := ae b1;clear b1;refine aR ?_;refine runs 2 ?_;refine ay ake (aB call66 rfl (evc akt evn)) ?_;refine (C.no_id _ u (C.no_below HN HB1)).mono ?_;rintro e w2 ⟨rfl, b2⟩;have HB := ae (HB1.out.trans (b2.mono HB1.out.size));clear b2;refine aR ?_;refine akq (aK false rfl akt evk rfl) ?_;refine aF 2 ?_;go_wp2_with fail;go_ret;exact ⟨rfl, HB⟩
theorem sA {C : eN} {D : ShI C} {w : World} (v u : Value) (n : Int) (hN : D.No w v) : Calls prog 13 #[v, u, .int .i64 n] w fun e w' => e = .returned (.int .i64 1) /\ Below w.heap.size w w' := by
 have HN := ae hN;clear hN;go_enter func13, ntmps13;go_upto_region 0 with fail;refine cf 1 ?_;go_upto_region 1 with fail;refine aI 2 ?_;refine ay rfl (aB call33 rfl (evc akt (evc akt evn))) ?_;refine (pL v u HN).mono ?_;rintro e w1 ⟨rfl, b1⟩;have HB := ae b1;clear b1;refine aR ?_;refine aF 1 ?_;go_upto_region 2 with fail;refine cf 1 ?_;go_wp2_with fail;go_ret;exact ⟨rfl, HB⟩
theorem sS {C : eN} {D : ShI C} {w : World} {S : Nat -> Prop} {t K : Nat} {s : ShS} (u : Value) (n : Int) (hS : D.P w S t K s) (hN : C.No w u) : Calls prog 13 #[.pointer (some ⟨t, 0, none⟩), u, .int .i64 n] w fun e w' => e = .returned (.int .i64 1) /\ Below w.heap.size w w' := by
 have HS := ae hS;have HN := ae hN;clear hS hN;go_enter func13, ntmps13;go_upto_region 0 with fail;refine cf 1 ?_;go_upto_region 1 with fail;refine aI 2 ?_;refine ay rfl (aB call33 rfl (evc akt (evc akt evn))) ?_;refine (oz u HS HN).mono ?_;rintro e w1 ⟨rfl, b1⟩;have HB := ae b1;clear b1;refine aR ?_;refine aF 1 ?_;go_upto_region 2 with fail;refine cf 1 ?_;go_wp2_with fail;go_ret;exact ⟨rfl, HB⟩
theorem vu {C : eN} {D : ShI C} {w : World} (v u : Value) (hN : D.No w v) : Calls prog 11 #[v, u] w fun e w' => e = .returned (.int .i64 1) /\ Below w.heap.size w w' := by
 have HN := ae hN;clear hN;go_enter func11, ntmps11;go_upto_region 0 with fail;refine cf 1 ?_;go_upto_region 1 with fail;refine aI 2 ?_;refine ay rfl (aB call33 rfl (evc akt (evc akt evn))) ?_;refine (pL v u HN).mono ?_;rintro e w1 ⟨rfl, b1⟩;have HB := ae b1;clear b1;refine aR ?_;refine aF 1 ?_;go_upto_region 2 with fail;refine cf 1 ?_;go_wp2_with fail;go_ret;exact ⟨rfl, HB⟩
theorem xo {C : eN} {D : ShI C} {w : World} {S : Nat -> Prop} {t K : Nat} {s : ShS} (u : Value) (hS : D.P w S t K s) (hN : C.No w u) : Calls prog 11 #[.pointer (some ⟨t, 0, none⟩), u] w fun e w' => e = .returned (.int .i64 1) /\ Below w.heap.size w w' := by
 have HS := ae hS;have HN := ae hN;clear hS hN;go_enter func11, ntmps11;go_upto_region 0 with fail;refine cf 1 ?_;go_upto_region 1 with fail;refine aI 2 ?_;refine ay rfl (aB call33 rfl (evc akt (evc akt evn))) ?_;refine (oz u HS HN).mono ?_;rintro e w1 ⟨rfl, b1⟩;have HB := ae b1;clear b1;refine aR ?_;refine aF 1 ?_;go_upto_region 2 with fail;refine cf 1 ?_;go_wp2_with fail;go_ret;exact ⟨rfl, HB⟩
theorem qN {C : eN} {D : ShI C} {w : World} {G S : Nat -> Prop} {q p t K : Nat} {h : HuS} {s : ShS} (n : Int) (hJ : C.J w G q p h) (hS : D.P w S t K s) (hc : CrG w G) (hq : ¬ S 0) (hd : ∀ b, G b -> ¬ S b) (hr : HR 17 h) {X : Int × HuS × ShS} (hX : ir h s n = X) : Calls prog 13 #[.pointer (some ⟨t, 0, none⟩), .pointer (some ⟨p, 0, none⟩), .int .i64 n] w fun e w' => e = .returned (.int .i64 X.1) /\ QDR C D w G S q p t K X.2.1 X.2.2 w' := by
 have HJ := ae hJ;have HS := ae hS;have HQ := ae (QD.start hJ hS hc hq hd);have HR0 := ae hr;have HX := ae hX;obtain ⟨L, hL⟩ : ∃ L, dj s n = L := ⟨_, rfl⟩;have hL16 : L.length <= 16 := by
  rw [<- hL];unfold dj
  split
  ·have := n9 n (s.ch n.toNat) s.N;have := (D.ok hS).n16;omega
  ·exact Nat.zero_le _
 have HL := ae hL;have HL16 := ae hL16;clear hJ hS hc hq hd hr hX hL hL16;go_enter func13, ntmps13;go_upto_region 0 with fail;refine cf 1 ?_;go_upto_region 1 with fail;refine aI 2 ?_;refine ay rfl (aB call33 rfl (evc akt (evc akt evn))) ?_;refine (yW HJ HS).mono ?_;rintro e w1 ⟨rfl, b1⟩;have HQ1 := ae (HQ.out.below b1);clear b1 HJ HS HQ;refine aR ?_;refine aF 1 ?_;go_upto_region 3 with fail;refine aI 2 ?_;refine ay rfl (aB call10 rfl (evc akt (evc akt evn))) ?_;refine (HQ1.out.cells n).mono ?_;rintro e w2 ⟨v, rfl, m2, b2⟩;rw [HL.out] at m2;obtain ⟨A, c, hv, g1, g2⟩ := m2.form;replace hv : v = .slice A L.length c := by rw [hv, List.length_map]
 subst hv;have HM2 := ae m2;have HQ2 := ae (HQ1.out.own b2 m2);have HSZ : Hid (w1.heap.size <= w2.heap.size) := ae b2.size;clear m2 b2 g1 g2 HQ1;refine aR ?_;refine akj (fE underlying22 rfl akt) ?_;refine aF 1 ?_;go_wp2_with fail
 go_loopw [18] (fun z wr => ∃ (i : Nat) (hu : HuS), z = .int .i64 i /\ i <= L.length /\ QD C D w G S q p t K (fun b => (Value.slice A L.length c).ownBlock = some b) wr hu s /\ aN cH wr w1.heap.size (.slice A L.length c) (L.map bS) /\ HR (17 - i) hu /\ fK (L.drop i) hu = fK L h) (fun z _ => L.length - (intOf z).toNat)
 case atStart => exact ⟨0, h, by go_num, Nat.zero_le _, HQ2, HM2, HR0, rfl⟩
 case round =>
  clear HQ2 HM2 HR0;obtain ⟨i, hu, rfl, hi1, qr, mr, hr, hk⟩ := hrel;have HI1 := ae hi1;have HQr := ae qr;have HMr := ae mr;have HRr := ae hr;have HKr := ae hk;clear hi1 qr mr hr hk;by_cases hlt : i < L.length
  ·have HI := ae hlt;have HLT : Hid (decide ((i : Int) < (L.length : Int)) = true) := ae (ao (by omega));have HIA : Hid (IntKind.i64.wrap ((i : Int) + 1) = ((i + 1 : Nat) : Int)) := ae (by have := HL16.out; rw [el ⟨by omega, by omega⟩]; omega);have HN17 : Hid (17 - i = (17 - (i + 1)) + 1) := ae (by have := HL16.out; omega);obtain ⟨bA, oA, hA, hbA, hcA⟩ := HMr.out.rd.cl (k := i) hlt;obtain ⟨⟨cn, cm, cb⟩, hpp⟩ : ∃ z, L.getD i cP = z := ⟨_, rfl⟩;have hgd : (L.map bS).getD i iH = bS (L.getD i cP) := by
    simp only [List.getD, List.getElem?_map, List.getElem?_eq_getElem hlt]
    rfl
   rw [hgd, hpp] at hcA;have hdr : L.drop i = ⟨cn, cm, cb⟩ :: L.drop (i + 1) := by
    rw [List.drop_eq_getElem_cons hlt, <- hpp];simp [List.getD, List.getElem?_eq_getElem hlt]
   have hkk := HKr.out;rw [hdr, fK] at hkk;have hr1 : HR ((17 - (i + 1)) + 1) hu := HN17.out ▸ HRr.out;have hr2 := hr1.hwr cn cm cb;have HR1 := ae hr1;have HR2 := ae hr2.1;have HCA := ae hcA;have HKK := ae hkk;have HA := ae hA;clear hlt hA hbA hcA hpp hgd hdr hkk hr1 hr2 HKr HRr HN17;go_upto_region 4 with fail;refine af ?_;refine akj (aY true rfl akt akt HLT) ?_;refine ah ?_;go_upto_region 5 with fail;refine af ?_;refine akj (co (E := cH) (b := bA) (off := oA) rfl ((ev (Eq.refl _)).trans (by rw [HA.out])) akt HI) ?_;refine akj (f9 (c := bS ⟨cn, cm, cb⟩) rfl akt HCA) ?_;refine akj (gA rfl) ?_;refine aG rfl (ik rfl (ev rfl) (ev rfl)) ?_;simp only [aa];have hbx := (Below.refl wr.heap.size wr).alloc aj (.cells (cW (bS ⟨cn, cm, cb⟩)).toArray 46);have HX3 := ae (heap_alloc_new wr (.cells (cW (bS ⟨cn, cm, cb⟩)).toArray 46));have HQ3 := ae (HQr.out.below hbx);have HM3 := ae (xW HMr (w' := wr.alloc (.cells (cW (bS ⟨cn, cm, cb⟩)).toArray 46)) fun b e => hbx.block b (HQr.out.lt e));obtain ⟨b8, hb8⟩ : ∃ b8, wr.heap.size = b8 := ⟨_, rfl⟩;rw [hb8] at HX3 ⊢;clear hb8 hbx HQr HMr HCA;generalize wr.alloc (.cells (cW (bS ⟨cn, cm, cb⟩)).toArray 46) = w3 at *;refine ah ?_;go_upto_region 6 with fail;refine aI 1 ?_;refine akj (ax rfl akt nD) ?_;refine akj (iB (s := cn) (m := cm) rfl akt (fQ (aQ HX3))) ?_;refine akj (ax rfl akt ahE) ?_;refine akj (bI (c := cb) rfl akt (wk (aQ HX3))) ?_;refine ay rfl (aB call36 rfl (evc akt (evc akt (evc akt evn)))) ?_;refine (HQ3.out.write cn cm cb HR1).mono ?_;rintro e w4 ⟨rfl, q4, kk⟩;have HQ4 := ae q4;have HM4 := ae (xW HM3 fun b e => kk b e);obtain ⟨x, hx⟩ : ∃ x, jZ hu cn cm cb = x := ⟨_, rfl⟩;have HE := ae hx;rw [hx];have hkk := HKK.out;rw [hx] at hkk;have HKK2 := ae hkk;clear q4 kk hx hkk HQ3 HM3 HKK;refine aR ?_;refine aF 1 ?_;have hcase : x = 0 \/ x ≠ 0 := by omega
   rcases hcase with hx0 | hx0
   ·have HKN : Hid (fK (L.drop (i + 1)) (fU hu cn cm cb) = fK L h) := ae (by have := HKK2.out; rw [if_pos hx0] at this; exact this);subst hx0;go_upto_region 7 with fail;refine aI 1 ?_;refine akj (aK false rfl akt evk rfl) ?_;refine ah ?_;go_upto_region 9 with fail;refine af ?_;refine akj (bH rfl akt evk HIA) ?_;refine aF 1 ?_;go_wp2_with fail;go_roundw
    case rel => exact ⟨i + 1, _, by go_num, HI, HQ4, HM4, HR2, HKN⟩
    case measure => have := HI.out; simp [intOf]; omega
   ·have HXE : Hid (X = (x, fU hu cn cm cb, s)) := ae (by
     have e1 := HKK2.out;rw [if_neg hx0] at e1;rw [<- HX.out, adz (by rw [HL.out, <- e1]; exact hx0), HL.out, <- e1])
    have HX0 : Hid ((x != 0) = true) := ae (by simp [hx0]);clear hx0;go_upto_region 7 with fail;refine aI 1 ?_;refine akj (aK true rfl akt evk HX0) ?_;refine ah ?_;go_upto_region 8 with fail;refine cf 2 ?_;go_wp2_with fail;go_ret;rw [HXE.out];exact ⟨rfl, HQ4.out.res⟩
  have hin : i = L.length := by have := HI1.out; omega
  subst hin;have hz : fK L h = (0, hu) := by rw [<- HKr.out, List.drop_length, fK]
  have HXE : Hid (X = (shE s n, hu, dL s n)) := ae (by rw [<- HX.out, xj (by rw [HL.out, hz]), HL.out, hz]);have HLT : Hid (decide ((L.length : Int) < (L.length : Int)) = false) := ae (am (by omega));clear hz hlt HKr;go_upto_region 4 with fail;refine af ?_;refine akj (aY false rfl akt akt HLT) ?_;refine ah ?_;go_upto_region 10 with fail;refine aI 2 ?_;refine ay rfl (aB call37 rfl (evc akt (evc akt evn))) ?_;refine (HQr.out.clean n).mono ?_;rintro e w3 ⟨rfl, q3, kk⟩;have HQ3 := ae q3;clear q3 kk;refine aR ?_;refine aF 1 ?_;go_wp2_with fail;go_ret;rw [HXE.out];exact ⟨rfl, HQ3.out.res⟩
theorem vx {C : eN} {D : ShI C} {w : World} {G S : Nat -> Prop} {q p t K : Nat} {h : HuS} {s : ShS} (n : Int) (hJ : C.J w G q p h) (hS : D.P w S t K s) (hc : CrG w G) (hq : ¬ S 0) (hd : ∀ b, G b -> ¬ S b) (hr : HR 17 h) {x1 : Int} {x2 : HuS} {x3 : ShS} (hX : ir h s n = (x1, x2, x3)) : Calls prog 13 #[.pointer (some ⟨t, 0, none⟩), .pointer (some ⟨p, 0, none⟩), .int .i64 n] w fun e w' => e = .returned (.int .i64 x1) /\ QDR C D w G S q p t K x2 x3 w' :=
 qN n hJ hS hc hq hd hr hX
theorem ahL {C : eN} {D : ShI C} (F : af6 C) {w : World} {G S : Nat -> Prop} {q p t K : Nat} {h : HuS} {s : ShS} (hJ : C.J w G q p h) (hS : D.P w S t K s) (hc : CrG w G) (hq : ¬ S 0) (hd : ∀ b, G b -> ¬ S b) (hr : HR (16 * s.T + 17) h) {X : Int × HuS × ShS} (hX : zf h s = X) : Calls prog 11 #[.pointer (some ⟨t, 0, none⟩), .pointer (some ⟨p, 0, none⟩)] w fun e w' => e = .returned (.int .i64 X.1) /\ QDR C D w G S q p t K X.2.1 X.2.2 w' := by
 have HJ := ae hJ;have HS := ae hS;have HQ := ae (QD.start hJ hS hc hq hd);have hok := D.ok hS;obtain ⟨L, hL⟩ : ∃ L, s.cX = L := ⟨_, rfl⟩;have hLT : L.length <= s.T := by rw [<- hL]; exact vp _ _
 have HOK := ae hok;have HR0 : Hid (HR (16 * L.length + 17) h) := ae (hr.less (by omega));have HX : Hid (oI L h s = X) := ae (by rw [<- hL]; exact hX);have HL := ae hL;have HL64 : Hid (L.length <= 64) := ae (aq hLT hok.t64);clear hJ hS hc hq hd hr hX hL hok hLT;go_enter func11, ntmps11;go_upto_region 0 with fail;refine cf 1 ?_;go_upto_region 1 with fail;refine aI 2 ?_;refine ay rfl (aB call33 rfl (evc akt (evc akt evn))) ?_;refine (yW HJ HS).mono ?_;rintro e w1 ⟨rfl, b1⟩;have HQ1 := ae (HQ.out.below b1);clear b1 HJ HS HQ;refine aR ?_;refine aF 1 ?_;go_upto_region 3 with fail;refine aI 1 ?_;refine ay rfl (aB call7 rfl (evc akt evn)) ?_;refine HQ1.out.cX.mono ?_;rintro e w2 ⟨v, rfl, m2, b2⟩;rw [HL.out] at m2;obtain ⟨A, c, hv, g1, g2⟩ := m2.form;replace hv : v = .slice A L.length c := hv;subst hv;have HM2 := ae m2;have HQ2 := ae (HQ1.out.own b2 m2);clear m2 b2 g1 g2 HQ1;refine aR ?_;refine aF 1 ?_;go_upto_region 4 with fail;refine aI 1 ?_;refine akj (fE underlying35 rfl akt) ?_;refine aF 1 ?_;go_wp2_with fail
 go_loopw [17] (fun z wr => ∃ (i : Nat) (hu : HuS) (su : ShS), z = .int .i64 i /\ i <= L.length /\ QD C D w G S q p t K (fun b => (Value.slice A L.length c).ownBlock = some b) wr hu su /\ aN bP wr w1.heap.size (.slice A L.length c) L /\ HR (16 * (L.length - i) + 17) hu /\ bW su /\ oI (L.drop i) hu su = X) (fun z _ => L.length - (intOf z).toNat)
 case atStart => exact ⟨0, h, s, by go_num, Nat.zero_le _, HQ2, HM2, HR0, HOK, HX⟩
 case round =>
  clear HQ2 HM2 HR0 HOK HX;obtain ⟨i, hu, su, rfl, hi1, qr, mr, hr, hok, hk⟩ := hrel;have HI1 := ae hi1;have HQr := ae qr;have HMr := ae mr;have HRr := ae hr;have HOr := ae hok;have HKr := ae hk;clear hi1 qr mr hr hk hok;by_cases hlt : i < L.length
  ·have HI := ae hlt;have HLT : Hid (decide ((i : Int) < (L.length : Int)) = true) := ae (ao (by omega));have HIA : Hid (IntKind.i64.wrap ((i : Int) + 1) = ((i + 1 : Nat) : Int)) := ae (by have := HL64.out; rw [el ⟨by omega, by omega⟩]; omega);obtain ⟨bA, oA, hA, hbA, hcA⟩ := HMr.out.rd.int (k := i) hlt;obtain ⟨y, hpp⟩ : ∃ y, L.getD i 0 = y := ⟨_, rfl⟩;rw [hpp] at hcA;have hcB : wr.cell? ⟨bA, oA + i * bP.n, none⟩ = some (.int .i64 y) := by rw [show oA + i * bP.n = oA + i from by show oA + i * 1 = _; omega]; exact hcA
   have hdr : L.drop i = y :: L.drop (i + 1) := by
    rw [List.drop_eq_getElem_cons hlt, <- hpp];simp [List.getD, List.getElem?_eq_getElem hlt]
   obtain ⟨z1, z2, z3, hZ⟩ : ∃ z1 z2 z3, ir hu su y = (z1, z2, z3) := ⟨_, _, _, rfl⟩;have hkk : (if z1 = 0 then oI (L.drop (i + 1)) z2 z3 else (z1, z2, z3)) = X := by
    have := HKr.out;rw [hdr, oI, hZ] at this;exact this
   have hr1 : HR ((16 * (L.length - (i + 1)) + 17) + 16) hu := HRr.out.less (by omega);have hr2 := hr1.bks HOr y;rw [hZ] at hr2;have HR1 : Hid (HR 17 hu) := ae (HRr.out.less (by omega));have HR2 : Hid (HR (16 * (L.length - (i + 1)) + 17) z2) := ae hr2;have HO2 : Hid (bW z3) := ae (by
    have e3 : (ir hu su y).2.2 = z3 := by rw [hZ]
    rw [<- e3];unfold ir
    split
    ·split
     ·exact HOr.out.cln y
     ·exact HOr
    ·exact HOr)
   have HCA := ae hcB;have HKK := ae hkk;have HA := ae hA;have HZ := ae hZ;clear hlt hA hbA hcA hcB hpp hdr hkk hr1 hr2 hZ HKr HRr HOr;go_upto_region 5 with fail;refine af ?_;refine akj (aY true rfl akt akt HLT) ?_;refine ah ?_;go_upto_region 6 with fail;refine af ?_;refine akj (co (E := bP) (b := bA) (off := oA) rfl ((ev (Eq.refl _)).trans (by rw [HA.out])) akt HI) ?_;refine akj (aD rfl akt (cd HCA)) ?_;refine aF 1 ?_;go_upto_region 7 with fail;refine aI 3 ?_;refine ay rfl (aB call13 rfl (evc akt (evc akt (evc akt evn)))) ?_;refine (HQr.out.both fun G S hj hs hc hq hd => vx y hj hs hc hq hd HR1 HZ).mono ?_;rintro e w4 ⟨rfl, q4, kk⟩;have HQ4 := ae q4;have HM4 := ae (xW HMr fun b e => kk b e);clear q4 kk HQr HMr HCA;refine aR ?_;refine aF 1 ?_;have hcase : z1 = 0 \/ z1 ≠ 0 := by omega
   rcases hcase with hx0 | hx0
   ·have HKN : Hid (oI (L.drop (i + 1)) z2 z3 = X) := ae (by have := HKK.out; rw [if_pos hx0] at this; exact this);clear HKK HZ;subst hx0;go_upto_region 8 with fail;refine aI 1 ?_;refine akj (aK false rfl akt evk rfl) ?_;refine ah ?_;go_upto_region 10 with fail;refine af ?_;refine akj (bH rfl akt evk HIA) ?_;refine aF 1 ?_;go_wp2_with fail;go_roundw
    case rel => exact ⟨i + 1, _, _, by go_num, HI, HQ4, HM4, HR2, HO2, HKN⟩
    case measure => have := HI.out; simp [intOf]; omega
   ·have HXE : Hid (X = (z1, z2, z3)) := ae (by
     have e1 := HKK.out;rw [if_neg hx0] at e1;exact e1.symm)
    have HX0 : Hid ((z1 != 0) = true) := ae (by simp [hx0]);clear hx0;go_upto_region 8 with fail;refine aI 1 ?_;refine akj (aK true rfl akt evk HX0) ?_;refine ah ?_;go_upto_region 9 with fail;refine cf 2 ?_;go_wp2_with fail;go_ret;rw [HXE.out];exact ⟨rfl, HQ4.out.res⟩
  have hin : i = L.length := by have := HI1.out; omega
  subst hin;have HXE : Hid (X = (oY hu, iX hu, su)) := ae (by rw [<- HKr.out, List.drop_length, oI]);have HLT : Hid (decide ((L.length : Int) < (L.length : Int)) = false) := ae (am (by omega));have HRf : Hid (HR (1 + 16) hu) := ae (HRr.out.less (by omega));clear hlt HKr;go_upto_region 5 with fail;refine af ?_;refine akj (aY false rfl akt akt HLT) ?_;refine ah ?_;go_upto_region 11 with fail;refine aI 1 ?_;refine ay rfl (aB call34 rfl (evc akt evn)) ?_;refine (HQr.out.flush F HRf).mono ?_;rintro e w3 ⟨rfl, q3, kk⟩;have HQ3 := ae q3;clear q3 kk;refine aR ?_;refine aF 1 ?_;go_wp2_with fail;go_ret;rw [HXE.out];exact ⟨rfl, HQ3.out.res⟩
theorem ajX (C : eN) (D : ShI C) (F : af6 C) : abg C D where
 oE := fun {w G S q p t K h s} n hj hs hc hq hd hr => qN n hj hs hc hq hd hr rfl
 all_ := fun {w G S q p t K h s} hj hs hc hq hd hr => ahL F hj hs hc hq hd hr rfl
 no_stripe := fun {w G q p h} v n hN hj => sA (D := D) v _ n hN
 no_all := fun {w G q p h} v hN hj => vu (D := D) v _ hN
 nh_stripe := fun {w S t K s} v n hs hN => sS v n hs hN
 nh_all := fun {w S t K s} v hs hN => xo v hs hN
open Go.Maps (Keyed)
def ptO : Option Nat -> Value
 |none => .pointer none
 |some b => .pointer (some ⟨b, 0, none⟩)
def ptD : Option Nat -> DataW Unit
 |none => .nil
 |some b => .lit (.int .i64 (b : Int))
def ptR : Value -> Option (DataW Unit × List MemPlace)
 |.pointer none => some (.nil, [])
 |.pointer (some ⟨b, 0, none⟩) => some (.lit (.int .i64 (b : Int)), [])
 |_ => none
theorem adw (m : Option Nat) : ptR (ptO m) = some (ptD m, []) := by cases m <;> rfl
theorem yR {v : Value} {m : Option Nat} {ps : List MemPlace} (h : ptR v = some (ptD m, ps)) : v = ptO m := by
 unfold ptR at h
 split at h
 ·cases m with
  |none => rfl
  |some b => simp [ptD] at h
 ·rename_i b
  cases m with
  |none => simp [ptD] at h
  |some b' =>
   simp [ptD] at h;have : b = b' := by omega
   subst this; rfl
 ·cases h
theorem fy : Keyed prog 3 := Maps.int_keyed underlying3
theorem qw {k : Int} (hw : (Lit.int .i64 k).wf = true) : keyOf prog 3 (.int .i64 k) = some (.int .i64 k) := Maps.keyOf_int_mk underlying3 hw
theorem aju (w : World) : (zeroValue 119).run prog w = .ok (.pointer none) w := by kernel_rfl
def dI (w : World) (b N : Nat) (M : Int -> Option Nat) : Prop :=
 ∃ D : DataW Unit, w.ownsMap prog 3 ptR b N D /\ Maps.size D = N /\ ∀ k, (Lit.int .i64 k).wf = true -> D.atKey (.int .i64 k) .nil = ptD (M k) /\ Maps.has D (.int .i64 k) = (M k).isSome
theorem lK {w : World} {b n : Nat} {D : DataW Unit} (h : w.ownsMap prog 3 ptR b n D) : w.ownsMap prog 3 ptR b (Maps.size D) D := by
 obtain ⟨es, clock, hb, F, hs, rfl⟩ := h;exact ⟨es, clock, hb, F, by simp [Maps.size, length_sorted], rfl⟩
section
variable {w w' : World} {b N : Nat} {M : Int -> Option Nat} {k : Int}
theorem dI.kept (h : dI w b N M) (hk : ∀ es c, w.heap[b]? = some (.map es c) -> w'.heap[b]? = some (.map es c)) : dI w' b N M := by
 obtain ⟨D, ⟨es, c, hb, r⟩, h2⟩ := h;exact ⟨D, ⟨es, c, hk es c hb, r⟩, h2⟩
theorem dI.obj (h : dI w b N M) : ∃ es c, w.heap[b]? = some (.map es c) := by
 obtain ⟨D, ⟨es, c, hb, r⟩, h2⟩ := h;exact ⟨es, c, hb⟩
theorem dI.made (w : World) : dI (w.alloc (.map #[] 0)) w.heap.size 0 (fun _ => none) :=
 ⟨.map [], World.ownsMap_made _ _ _ _, rfl, fun k _ => ⟨rfl, rfl⟩⟩
theorem dI.look (h : dI w b N M) (hw : (Lit.int .i64 k).wf = true) : (Instr.lookup 146 (.map (some b)) (.int .i64 k) false).run prog w = .ok (ptO (M k)) w := by
 obtain ⟨D, h1, _, h3⟩ := h;obtain ⟨v, ps, hr, hv⟩ := h1.lookup fy underlying146 (aju w) (zd := .nil) (zp := []) rfl (qw hw);rw [(h3 k hw).1] at hv;rw [hr, yR hv]
theorem dI.len (h : dI w b N M) (ty : TypeId) : (Builtin.len_ #[146] ty #[.map (some b)]).run prog w = .ok (.int .i64 (N : Int)) w := by
 obtain ⟨D, h1, h2, _⟩ := h;rw [h1.len underlying146 ty, h2]
theorem jF {j k : Int} (h : j ≠ k) : Lit.int .i64 j ≠ Lit.int .i64 k := fun e => h (by injection e)
theorem dI.store (h : dI w b N M) (hw : (Lit.int .i64 k).wf = true) (hn : M k = none) (hN : N < maxLen) (q : Nat) :
  ∃ w', (Instr.mapUpdate 146 (.map (some b)) (.int .i64 k) (.pointer (some ⟨q, 0, none⟩))).run prog w = .ok () w' /\ dI w' b (N + 1) (fun j => if j = k then some q else M j) /\ w.mapTurned w' b := by
 obtain ⟨D, h1, h2, h3⟩ := h;obtain ⟨w', hr, ho, ht⟩ := h1.store fy underlying146 hN (qw hw) (adw (some q));have hT := h1.tidy fy;have hk : WideAt.IsKeyLit (Lit.int .i64 k) := fy.key (qw hw);have hs : Maps.size (D.put (.int .i64 k) (ptD (some q))) = N + 1 := by
  rw [Maps.size_put hT, (h3 k hw).2, hn, h2]; rfl
 refine ⟨w', hr, ⟨_, by rw [<- hs]; exact lK ho, hs, fun j hj => ?_⟩, ht⟩;by_cases e : j = k
 ·subst e;dsimp only;rw [if_pos rfl, Maps.atKey_put_same hT.isMap hk, Maps.has_put_same hT.isMap hk];exact ⟨rfl, rfl⟩
 ·dsimp only;rw [if_neg e, Maps.atKey_put_other (jF e), Maps.has_put_other (jF e)];exact h3 j hj
theorem dI.del (h : dI w b (N + 1) M) (hw : (Lit.int .i64 k).wf = true) (hn : (M k).isSome = true) (ty : TypeId) :
  ∃ w', (Builtin.delete_ #[146, 3] ty #[.map (some b), .int .i64 k]).run prog w = .ok (.tuple #[]) w' /\ dI w' b N (fun j => if j = k then none else M j) /\ w.mapTurned w' b := by
 obtain ⟨D, h1, h2, h3⟩ := h;obtain ⟨w', hr, ho, ht⟩ := h1.drop fy underlying146 (qw hw) ty;have hT := h1.tidy fy;have hs : Maps.size (D.del (.int .i64 k)) = N := by
  have := Maps.size_del (k := .int .i64 k) hT;rw [(h3 k hw).2, hn, h2] at this
  simpa using this
 refine ⟨w', hr, ⟨_, by rw [<- hs]; exact lK ho, hs, fun j hj => ?_⟩, ht⟩;by_cases e : j = k
 ·subst e;dsimp only;rw [if_pos rfl, Maps.atKey_del_same, Maps.has_del_same];exact ⟨rfl, rfl⟩
 ·dsimp only;rw [if_neg e, Maps.atKey_del_other (jF e), Maps.has_del_other (jF e)];exact h3 j hj
end
section
variable {ρ : Operand -> Value} {o : Oper} {x y z : Operand} {w w' : World} {t r te : TypeId} {b N : Nat} {M : Int -> Option Nat} {p q s v : Value} {ad a1 a2 : Addr}
theorem dw (ho : o.op = .lookup t x y false) (hx : ρ x = p) (hy : ρ y = q) (h : (Instr.lookup t p q false).run prog w = .ok v w) : (execOp ρ o).run prog w = .ok (.value v) w := by
 unfold execOp;simp only [ho, hx, hy, Sem.run_bind, h, Result.andThen_ok, Sem.run_pure]
theorem i7 (ho : o.op = .mapUpdate t x y z) (hx : ρ x = p) (hy : ρ y = q) (hz : ρ z = s) (h : (Instr.mapUpdate t p q s).run prog w = .ok () w') : (execOp ρ o).run prog w = .ok .skip w' := by
 unfold execOp;simp only [ho, hx, hy, hz, Sem.run_bind, h, Result.andThen_ok, Sem.run_pure]
theorem oL (ho : o.op = .makeMap t none) : (execOp ρ o).run prog w = .ok (.value (.map (some w.heap.size))) (w.alloc (.map #[] 0)) := by
 unfold execOp;simp [ho, run_makeMap, Result.andThen]
theorem mH (ho : o.op = .call { callee := .builtin .len, args := #[x], argTypes := #[146] }) (hx : ρ x = .map (some b)) (h : dI w b N M) : (execOp ρ o).run prog w = .ok (.value (.int .i64 (N : Int))) w := by
 simp [execOp, ho, resolve, invoke, builtin, hx, h.len, Result.andThen]
theorem tG {t1 t2 : TypeId} (ho : o.op = .call { callee := .builtin .delete, args := #[x, y], argTypes := #[t1, t2] }) (hx : ρ x = p) (hy : ρ y = q) (h : (Builtin.delete_ #[t1, t2] o.type #[p, q]).run prog w = .ok v w') : (execOp ρ o).run prog w = .ok (.value v) w' := by
 simp [execOp, ho, resolve, invoke, builtin, hx, hy, h, Result.andThen]
theorem jB {ad : Addr} {a : Option Addr} (h : w.cell? ad = some (.pointer a)) : (Instr.loadAt 119 (.pointer (some ad))).run prog w = .ok (.pointer a) w := by simp [go_sem, h]
theorem pP {ad : Addr} {a : Option Nat} (h : w.cell? ad = some (.map a)) : (Instr.loadAt 146 (.pointer (some ad))).run prog w = .ok (.map a) w := by simp [go_sem, h]
theorem ti {ad : Addr} {a : Bool} (h : w.cell? ad = some (.bool a)) : (Instr.loadAt 4 (.pointer (some ad))).run prog w = .ok (.bool a) w := by simp [go_sem, h]
theorem aaS {ad : Addr} {u : Value} {a : Option Addr} (h : w.cell? ad = some u) (hf : w.frozen? ad = false) : (Instr.storeAt 119 (.pointer (some ad)) (.pointer a)).run prog w = .ok () (w.setCell ad (.pointer a)) := by simp [go_sem, h, hf]
theorem aja {ad : Addr} {u : Value} {a : Bool} (h : w.cell? ad = some u) (hf : w.frozen? ad = false) : (Instr.storeAt 4 (.pointer (some ad)) (.bool a)).run prog w = .ok () (w.setCell ad (.bool a)) := by simp [go_sem, h, hf]
theorem acc : (Instr.fieldAt 123 (.pointer (some ⟨b, 0, none⟩)) 0).run prog w = .ok (.pointer (some ⟨b, 0, none⟩)) w := by kernel_rfl
theorem yr : (Instr.fieldAt 123 (.pointer (some ⟨b, 0, none⟩)) 1).run prog w = .ok (.pointer (some ⟨b, 1, none⟩)) w := by kernel_rfl
theorem nz : (Instr.fieldAt 123 (.pointer (some ⟨b, 0, none⟩)) 2).run prog w = .ok (.pointer (some ⟨b, 2, none⟩)) w := by kernel_rfl
theorem mj : (Instr.fieldAt 123 (.pointer (some ⟨b, 0, none⟩)) 3).run prog w = .ok (.pointer (some ⟨b, 3, none⟩)) w := by kernel_rfl
theorem adu : (Instr.fieldAt 148 (.pointer (some ⟨b, 0, none⟩)) 0).run prog w = .ok (.pointer (some ⟨b, 0, none⟩)) w := by kernel_rfl
theorem ns : (Instr.fieldAt 148 (.pointer (some ⟨b, 0, none⟩)) 1).run prog w = .ok (.pointer (some ⟨b, 1, none⟩)) w := by kernel_rfl
theorem ko : (Instr.fieldAt 148 (.pointer (some ⟨b, 0, none⟩)) 2).run prog w = .ok (.pointer (some ⟨b, 2, none⟩)) w := by kernel_rfl
end
theorem agr : ∃ j, prog.info? 123 = some j /\ j.size ≠ 0 := by
 have h : (prog.info? 123).map (·.size) = some 4 := by kernel_rfl
 cases hq : prog.info? 123 with
 |none => rw [hq] at h; cases h
 |some j => rw [hq] at h; exact ⟨j, rfl, by simp at h; omega⟩
def qv (x : Ky) (u v : Value) : List Value := [.int .i64 x.n, .bool x.pin, u, v]
def dB (w : World) (b : Nat) (x : Ky) (u v : Value) : Prop := w.heap[b]? = some (.cells (qv x u v).toArray 123 (0, 0))
section
variable {w w' : World} {b q : Nat} {x : Ky} {u v : Value}
theorem dB.c0 (h : dB w b x u v) : w.cell? ⟨b, 0, none⟩ = some (.int .i64 x.n) := (aQ h) 0 _ rfl
theorem dB.c1 (h : dB w b x u v) : w.cell? ⟨b, 1, none⟩ = some (.bool x.pin) := (aQ h) 1 _ rfl
theorem dB.c2 (h : dB w b x u v) : w.cell? ⟨b, 2, none⟩ = some u := (aQ h) 2 _ rfl
theorem dB.c3 (h : dB w b x u v) : w.cell? ⟨b, 3, none⟩ = some v := (aQ h) 3 _ rfl
theorem dB.fz (h : dB w b x u v) (j : Nat) : w.frozen? ⟨b, j, none⟩ = false := frozen_of_row w b j _ _ h
theorem dB.s1 (h : dB w b x u v) (is : Bool) : dB (w.setCell ⟨b, 1, none⟩ (.bool is)) b ⟨x.n, is⟩ u v := by
 have := heap_setCell_same w b 1 _ _ (.bool is) h
 simpa [dB, qv] using this
theorem dB.s2 (h : dB w b x u v) (s : Value) : dB (w.setCell ⟨b, 2, none⟩ s) b x s v := by
 have := heap_setCell_same w b 2 _ _ s h
 simpa [dB, qv] using this
theorem dB.s3 (h : dB w b x u v) (s : Value) : dB (w.setCell ⟨b, 3, none⟩ s) b x u s := by
 have := heap_setCell_same w b 3 _ _ s h
 simpa [dB, qv] using this
theorem dB.other (h : dB w b x u v) {p : Addr} (hp : b ≠ p.block) (s : Value) : dB (w.setCell p s) b x u v := by
 unfold dB;rw [heap_setCell_other w p b s hp];exact h
end
def ptB (b : Nat) : Value := .pointer (some ⟨b, 0, none⟩)
def Lnk (w : World) (ky : Nat -> Ky) (pv nx : Nat -> Nat) (S : List Nat) : Prop := ∀ b ∈ S, dB w b (ky b) (ptB (pv b)) (ptB (nx b))
section
variable {w w' : World} {ky : Nat -> Ky} {pv nx : Nat -> Nat} {S S' : List Nat} {x y : Nat}
theorem Lnk.sub (h : Lnk w ky pv nx S) (hs : ∀ b ∈ S', b ∈ S) : Lnk w ky pv nx S' := fun b hb => h b (hs b hb)
theorem Lnk.s2 (h : Lnk w ky pv nx S) (y : Nat) (hx : x ∈ S) : Lnk (w.setCell ⟨x, 2, none⟩ (ptB y)) ky (dh pv x y) nx S := fun b hb => by
 by_cases e : b = x
 ·subst e; rw [c7]; exact (h b hb).s2 _
 ·rw [cg _ _ e]; exact (h b hb).other e _
theorem Lnk.s3 (h : Lnk w ky pv nx S) (y : Nat) (hx : x ∈ S) : Lnk (w.setCell ⟨x, 3, none⟩ (ptB y)) ky pv (dh nx x y) S := fun b hb => by
 by_cases e : b = x
 ·subst e; rw [c7]; exact (h b hb).s3 _
 ·rw [cg _ _ e]; exact (h b hb).other e _
theorem Lnk.s1 (h : Lnk w ky pv nx S) (is : Bool) (hx : x ∈ S) : Lnk (w.setCell ⟨x, 1, none⟩ (.bool is)) (dh ky x ⟨(ky x).n, is⟩) pv nx S := fun b hb => by
 by_cases e : b = x
 ·subst e; rw [c7]; exact (h b hb).s1 _
 ·rw [cg _ _ e]; exact (h b hb).other e _
theorem Lnk.add (h : Lnk w ky pv nx S) (hx : dB w x (ky x) (ptB (pv x)) (ptB (nx x))) : Lnk w ky pv nx (x :: S) := fun b hb => by
 rcases List.mem_cons.1 hb with rfl | hb
 ·exact hx
 ·exact h b hb
theorem Lnk.keep (h : Lnk w ky pv nx S) (hk : ∀ (b : Nat) (cs : Array Value), w.heap[b]? = some (Obj.cells cs 123 (0, 0)) -> w'.heap[b]? = some (Obj.cells cs 123 (0, 0))) : Lnk w' ky pv nx S := fun b hb => hk b _ (h b hb)
end
def tI : Obj -> Prop
 |.map _ _ => True
 |.cells _ t _ => t = 123 \/ t = 148
 |_ => False
section
variable {P : Program} {ops : Array Oper} {Q : Exit -> Act -> World -> Prop} {md : Region.Mode} {S T : World -> Prop} {z : Nat}
def gJ (S T : World -> Prop) (z : Nat) (listed : Array Bool) (w : World) : Prop := (listed.getD z false = false -> S w) /\ (listed.getD z false = true -> T w)
def eR (P : Program) (md : Region.Mode) (ops : Array Oper) (Q : Exit -> Act -> World -> Prop) (S T : World -> Prop) (z : Nat) : Nat -> Array Bool -> Act -> World -> Prop
 |0, listed, a, w => Region.ready md ops listed = [] /\ Q .normal a w
 |fuel + 1, listed, a, w =>
  (Region.ready md ops listed = [] -> Q .normal a w) /\
  ∀ i ∈ Region.ready md ops listed, wpOp P ops Q i (fun a' w' => gJ S T z (listed.setIfInBounds i true) w' /\ eR P md ops Q S T z fuel (listed.setIfInBounds i true) a' w') a w
theorem pi : ∀ (fuel : Nat) (listed : Array Bool) (a : Act) (w : World), eR P md ops Q S T z fuel listed a w -> wpAny P md ops Q fuel listed a w
 |0, _, _, _, h => h
 |fuel + 1, _, _, _, h => ⟨h.1, fun i hi => wpOp_mono (fun a' w' h' => pi fuel _ a' w' h'.2) (h.2 i hi)⟩
theorem iU {l : Array Bool} {i j : Nat} (h : j ≠ i) : (l.setIfInBounds i true).getD j false = l.getD j false := by
 by_cases hj : j < l.size
 ·simp [hj, Array.getElem_setIfInBounds, Ne.symm h]
 ·simp [Array.getElem?_eq_none (Nat.le_of_not_lt hj), hj]
theorem rt {listed : Array Bool} {w : World} {i : Nat} (h : gJ S T z listed w) (hi : i ≠ z) : gJ S T z (listed.setIfInBounds i true) w := by
 unfold gJ at *;rw [iU (Ne.symm hi)];exact h
theorem acw {listed : Array Bool} {w : World} {i : Nat} (h : gJ S T z (listed.setIfInBounds i true) w) (hi : i ≠ z) : gJ S T z listed w := by
 unfold gJ at *;rw [iU (Ne.symm hi)] at h;exact h
theorem mb {i : Nat} {oi : Oper} {v : Value} (hi : ops[i]? = some oi) (hsel : ∀ (j : Nat) (o : Oper) cs b, ops[j]? = some o -> o.op ≠ .select cs b)
  (hQ : ∀ c a w, Q (.panic c) (a.put oi.dst v) w -> Q (.panic c) a w) (hiz : i ≠ z) {U : World -> Prop} (hS : ∀ w, S w -> U w) (hT : iR md ops z i = true \/ ∀ w, T w -> U w) :
  ∀ (fuel : Nat) (listed : Array Bool) (a : Act) (w : World),
   (∀ j oj, ops[j]? = some oj -> j ≠ i -> listed.getD j true = false -> (∀ e ∈ oj.after, Region.binds md e = true -> e.on ≠ i) -> oi.apart ops oj = true) ->
   i ∈ Region.ready md ops listed -> (iR md ops z i = true -> listed.getD z false = false) -> YieldsIf P ops U oi v a -> gJ S T z listed w ->
   eR P md ops Q S T z fuel (listed.setIfInBounds i true) (a.put oi.dst v) w -> eR P md ops Q S T z (fuel + 1) listed a w := by
 intro fuel;have key : ∀ (listed : Array Bool) (w : World), (iR md ops z i = true -> listed.getD z false = false) -> gJ S T z listed w -> U w := fun listed w hz hc => by
  by_cases hl : listed.getD z false = false
  ·exact hS w (hc.1 hl)
  ·rcases hT with h | h
   ·exact absurd (hz h) hl
   ·exact h w (hc.2 (by simpa using hl))
 induction fuel with
 |zero =>
  intro listed a w _ hr hz hy hc H;refine ⟨fun h => (by rw [h] at hr; cases hr), fun j hj => ?_⟩;by_cases hji : j = i
  ·subst hji; exact hy.wpOp hi (key listed w hz hc) ⟨rt hc hiz, H⟩
  ·have := ready_mono hj hji;rw [H.1] at this;cases this
 |succ fuel ih =>
  intro listed a w hfree hr hz hy hc H;refine ⟨fun h => (by rw [h] at hr; cases hr), fun j hj => ?_⟩;by_cases hji : j = i
  ·subst hji; exact hy.wpOp hi (key listed w hz hc) ⟨rt hc hiz, H⟩
  ·have h1 := H.2 j (ready_mono hj hji);obtain ⟨hjun, oj, hoj, hall⟩ := mem_ready.1 hj;have hnot : ∀ e ∈ oj.after, Region.binds md e = true -> e.on ≠ i := fun e he hb heq => by
    have h1 := hall e he hb;rw [heq, yh (mem_ready.1 hr).1] at h1;cases h1
   have h2 := wpOp_putIf hoj (hfree j oj hoj hji hjun hnot) (fun cs b => hsel i oi cs b hi) (fun cs b => hsel j oj cs b hoj) hQ hy h1;have hfree' : ∀ k ok, ops[k]? = some ok -> k ≠ i -> (listed.setIfInBounds j true).getD k true = false ->
     (∀ e ∈ ok.after, Region.binds md e = true -> e.on ≠ i) -> oi.apart ops ok = true := fun k ok hk hki hun hno => by
    refine hfree k ok hk hki ?_ hno;by_cases hjk : j = k
    ·subst hjk; exact hjun
    ·rw [getD_set_ne true hjk] at hun; exact hun
   have hz' : iR md ops z i = true -> (listed.setIfInBounds j true).getD z false = false := fun hw => by
    have hjz : j ≠ z := fun e => by
     subst e;exact pD hw (yh (mem_ready.1 hr).1) hj
    rw [iU (Ne.symm hjz)];exact hz hw
   refine wpOp_mono (fun a' w' h3 => ?_) h2;have hc' : gJ S T z (listed.setIfInBounds j true) w' := by
    have h4 := h3.2.1;rw [Array.setIfInBounds_comm _ _ (Ne.symm hji)] at h4;exact acw h4 hiz
   refine ⟨hc', ih (listed.setIfInBounds j true) a' w' hfree' (ready_mono hr (Ne.symm hji)) hz' h3.1 hc' ?_⟩;rw [Array.setIfInBounds_comm _ _ hji];exact h3.2.2
theorem oK {rs : List Nat} {fuel : Nat} {listed : Array Bool} {a : Act} {w : World} (hr : Region.ready md ops listed = rs) (hne : rs ≠ [])
  (h : ∀ i ∈ rs, wpOp P ops Q i (fun a' w' => gJ S T z (listed.setIfInBounds i true) w' /\ eR P md ops Q S T z fuel (listed.setIfInBounds i true) a' w') a w) : eR P md ops Q S T z (fuel + 1) listed a w :=
 ⟨fun h0 => absurd (hr ▸ h0) hne, hr ▸ h⟩
theorem un {listed : Array Bool} {a : Act} {w : World} (hr : Region.ready md ops listed = []) (h : Q .normal a w) :
  ∀ fuel, eR P md ops Q S T z fuel listed a w
 |0 => ⟨hr, h⟩
 |_ + 1 => ⟨fun _ => h, by rw [hr]; simp⟩
theorem qu {id : Nat} {a : Act} {w : World} (S T : World -> Prop) (z : Nat) (hm : P.follows .mixedOrders = true)
  (h : eR P .any ops Q S T z ops.size (Array.replicate ops.size false) a w.drew) : (Code.region id ops true).wp P Q a w :=
 wp_region_any hm (pi _ _ _ _ h)
end
section
variable {P : Program} {md : Region.Mode} {l : List Oper} {Q : Exit -> Act -> World -> Prop} {S T : World -> Prop} {z fuel : Nat} {listed : Array Bool} {a : Act} {w w' : World} {o : Oper} {v : Value}
theorem jD (i : Nat) (hi : l[i]? = some o) (hs : Region.noSelect l.toArray = true) (hf : Region.free md l.toArray listed i = true) (hr : (Region.ready md l.toArray listed).contains i = true) (hiz : i ≠ z) (hwz : iR md l.toArray z i = true) (hlz : listed.getD z false = false)
  (hw : Region.wanted o (yielded l.toArray a.tmps) = true) (h : ∀ w, S w -> (execOp a.eval o).run P w = .ok (.value v) w) (hQ : ∀ c a w, Q (.panic c) (a.put o.dst v) w -> Q (.panic c) a w) (hS : S w)
  (hk : eR P md l.toArray Q S T z fuel (listed.setIfInBounds i true) (a.put o.dst v) w) : eR P md l.toArray Q S T z (fuel + 1) listed a w :=
 mb (by simpa using hi) (Region.noSelect_spec hs) hQ hiz (U := S) (fun _ h => h) (.inl hwz) fuel listed a w (Region.free_spec (by simpa using hi) hf) (by simpa using hr) (fun _ => hlz) (.inl ⟨hw, h⟩) ⟨fun _ => hS, fun e => absurd (e.symm.trans hlz) (by decide)⟩ hk
theorem akh (i : Nat) (hi : l[i]? = some o) (h : ∀ w, S w -> (execOp a.eval o).run P w = .ok (.value v) w) (hS : S w) (hk : eR P md l.toArray Q S T z fuel (listed.setIfInBounds i true) (a.put o.dst v) w) (hs : Region.noSelect l.toArray = true := by kernel_rfl) (hf : Region.free md l.toArray listed i = true := by kernel_rfl) (hr : (Region.ready md l.toArray listed).contains i = true := by kernel_rfl) (hiz : i ≠ z := by decide) (hwz : iR md l.toArray z i = true := by kernel_rfl) (hlz : listed.getD z false = false := by kernel_rfl) (hw : Region.wanted o (yielded l.toArray a.tmps) = true := by exact rfl) (hQ : ∀ c a w, Q (.panic c) (a.put o.dst v) w -> Q (.panic c) a w := by exact fun _ _ _ h => h) : eR P md l.toArray Q S T z (fuel + 1) listed a w := jD i hi hs hf hr hiz hwz hlz hw h hQ hS hk
theorem ako {l0 l1 : List Value} {ds0 : List Deferred} {i0 : Nat} (i : Nat) (hi : l[i]? = some o) (h : ∀ w, S w -> (execOp (Act.mk l0.toArray ds0).eval o).run P w = .ok (.value v) w) (hS : S w) (hk : eR P md l.toArray Q S T z fuel (listed.setIfInBounds i true) ⟨l1.toArray, ds0⟩ w) (hd : o.dst = some i0 := by exact rfl) (hl : l0.set i0 v = l1 := by simp only [ai] <;> rfl) (hs : Region.noSelect l.toArray = true := by kernel_rfl) (hf : Region.free md l.toArray listed i = true := by kernel_rfl) (hr : (Region.ready md l.toArray listed).contains i = true := by kernel_rfl) (hiz : i ≠ z := by decide) (hwz : iR md l.toArray z i = true := by kernel_rfl) (hlz : listed.getD z false = false := by kernel_rfl) (hw : Region.wanted o (yielded l.toArray l0.toArray) = true := by exact rfl) (hQ : ∀ c a w, Q (.panic c) (a.put o.dst v) w -> Q (.panic c) a w := by exact fun _ _ _ h => h) : eR P md l.toArray Q S T z (fuel + 1) listed ⟨l0.toArray, ds0⟩ w := akh i hi h hS (by have e : Act.put (Act.mk l0.toArray ds0) o.dst v = ⟨l1.toArray, ds0⟩ := (by rw [hd, <- hl]; show Act.mk (l0.toArray.setIfInBounds i0 v) ds0 = _; rw [List.setIfInBounds_toArray]); rw [e]; exact hk) hs hf hr hiz hwz hlz hw hQ
theorem lR (i : Nat) (hi : l[i]? = some o) (hs : Region.noSelect l.toArray = true) (hf : Region.free md l.toArray listed i = true) (hr : (Region.ready md l.toArray listed).contains i = true) (hiz : i ≠ z) (hwz : iR md l.toArray z i = false)
  (hw : Region.wanted o (yielded l.toArray a.tmps) = true) (h : ∀ w, S w \/ T w -> (execOp a.eval o).run P w = .ok (.value v) w) (hQ : ∀ c a w, Q (.panic c) (a.put o.dst v) w -> Q (.panic c) a w) (hc : gJ S T z listed w)
  (hk : eR P md l.toArray Q S T z fuel (listed.setIfInBounds i true) (a.put o.dst v) w) : eR P md l.toArray Q S T z (fuel + 1) listed a w :=
 mb (by simpa using hi) (Region.noSelect_spec hs) hQ hiz (U := fun w => S w \/ T w) (fun _ h => .inl h) (.inr fun _ h => .inr h) fuel listed a w (Region.free_spec (by simpa using hi) hf) (by simpa using hr) (fun e => by rw [hwz] at e; cases e) (.inl ⟨hw, h⟩) hc hk
theorem aki (i : Nat) (hi : l[i]? = some o) (h : ∀ w, S w \/ T w -> (execOp a.eval o).run P w = .ok (.value v) w) (hc : gJ S T z listed w) (hk : eR P md l.toArray Q S T z fuel (listed.setIfInBounds i true) (a.put o.dst v) w) (hs : Region.noSelect l.toArray = true := by kernel_rfl) (hf : Region.free md l.toArray listed i = true := by kernel_rfl) (hr : (Region.ready md l.toArray listed).contains i = true := by kernel_rfl) (hiz : i ≠ z := by decide) (hwz : iR md l.toArray z i = false := by kernel_rfl) (hw : Region.wanted o (yielded l.toArray a.tmps) = true := by exact rfl) (hQ : ∀ c a w, Q (.panic c) (a.put o.dst v) w -> Q (.panic c) a w := by exact fun _ _ _ h => h) : eR P md l.toArray Q S T z (fuel + 1) listed a w := lR i hi hs hf hr hiz hwz hw h hQ hc hk
theorem akp {l0 l1 : List Value} {ds0 : List Deferred} {i0 : Nat} (i : Nat) (hi : l[i]? = some o) (h : ∀ w, S w \/ T w -> (execOp (Act.mk l0.toArray ds0).eval o).run P w = .ok (.value v) w) (hc : gJ S T z listed w) (hk : eR P md l.toArray Q S T z fuel (listed.setIfInBounds i true) ⟨l1.toArray, ds0⟩ w) (hd : o.dst = some i0 := by exact rfl) (hl : l0.set i0 v = l1 := by simp only [ai] <;> rfl) (hs : Region.noSelect l.toArray = true := by kernel_rfl) (hf : Region.free md l.toArray listed i = true := by kernel_rfl) (hr : (Region.ready md l.toArray listed).contains i = true := by kernel_rfl) (hiz : i ≠ z := by decide) (hwz : iR md l.toArray z i = false := by kernel_rfl) (hw : Region.wanted o (yielded l.toArray l0.toArray) = true := by exact rfl) (hQ : ∀ c a w, Q (.panic c) (a.put o.dst v) w -> Q (.panic c) a w := by exact fun _ _ _ h => h) : eR P md l.toArray Q S T z (fuel + 1) listed ⟨l0.toArray, ds0⟩ w := aki i hi h hc (by have e : Act.put (Act.mk l0.toArray ds0) o.dst v = ⟨l1.toArray, ds0⟩ := (by rw [hd, <- hl]; show Act.mk (l0.toArray.setIfInBounds i0 v) ds0 = _; rw [List.setIfInBounds_toArray]); rw [e]; exact hk) hs hf hr hiz hwz hw hQ
theorem vg (i : Nat) (hi : l[i]? = some o) (hr : Region.ready md l.toArray listed = [i]) (hw : Region.wanted o (yielded l.toArray a.tmps) = true) (h : (execOp a.eval o).run P w = .ok (.value v) w')
  (hc : gJ S T z (listed.setIfInBounds i true) w') (hk : eR P md l.toArray Q S T z fuel (listed.setIfInBounds i true) (a.put o.dst v) w') : eR P md l.toArray Q S T z (fuel + 1) listed a w :=
 oK hr (by simp) fun j hj => by
  obtain rfl : j = i := by simpa using hj
  unfold wpOp;simp only [List.getElem?_toArray, hi, hw, if_true];refine .inl ?_;unfold Oper.wp;rw [h];exact ⟨hc, hk⟩
theorem xP (i : Nat) (hi : l[i]? = some o) (hr : Region.ready md l.toArray listed = [i]) (hw : Region.wanted o (yielded l.toArray a.tmps) = true) (h : (execOp a.eval o).run P w = .ok .skip w')
  (hc : gJ S T z (listed.setIfInBounds i true) w') (hk : eR P md l.toArray Q S T z fuel (listed.setIfInBounds i true) (a.put o.dst undef) w') : eR P md l.toArray Q S T z (fuel + 1) listed a w :=
 oK hr (by simp) fun j hj => by
  obtain rfl : j = i := by simpa using hj
  unfold wpOp;simp only [List.getElem?_toArray, hi, hw, if_true];refine .inl ?_;unfold Oper.wp;rw [h];exact ⟨hc, hk⟩
theorem i2 (hl : listed.getD z false = false) (h : S w) : gJ S T z listed w := ⟨fun _ => h, fun e => absurd (e.symm.trans hl) (by decide)⟩
theorem jv (hl : listed.getD z false = true) (h : T w) : gJ S T z listed w := ⟨fun e => absurd (e.symm.trans hl) (by decide), fun _ => h⟩
end
def nF : Obj -> Prop
 |.cells _ t _ => t = 123
 |_ => False
theorem yE (o : Obj) (h : nF o) : tI o := by
 cases o <;> first | exact h.elim | exact .inl h
def bZ (I : Obj -> Prop) (F : Nat -> Prop) (w w' : World) : Prop := Only (fun b => F b /\ ∀ o, w.heap[b]? = some o -> I o) w w'
section
variable {I J : Obj -> Prop} {F : Nat -> Prop} {w w1 w2 : World} {o : Obj} {b : Nat}
theorem bZ.refl (I : Obj -> Prop) (F : Nat -> Prop) (w : World) : bZ I F w w := Only.refl _ _
theorem bZ.size (h : bZ I F w w1) : w.heap.size <= w1.heap.size := Only.size h
theorem bZ.only (h : bZ I F w w1) : Only F w w1 := Only.widen h fun b hb => hb.1
theorem bZ.keep (h : bZ I F w w1) (hb : w.heap[b]? = some o) (hn : ¬ I o) : w1.heap[b]? = some o := Only.keep h hb fun e => hn (e.2 o hb)
theorem bZ.trans (h : bZ I F w w1) (k : bZ I F w1 w2) : bZ I F w w2 := by
 refine Only.trans h k fun b hb => ?_
 by_cases hl : b < w.heap.size
 ·refine .inl ⟨hb.1, fun o ho => ?_⟩;exact Classical.byContradiction fun hn => hn (hb.2 o (h.keep ho hn))
 ·exact .inr (by omega)
theorem bZ.of_below (h : Below w.heap.size w w1) : bZ I F w w1 := Only.of_below _ h
theorem bZ.drew (h : bZ I F w w1) : bZ I F w w1.drew := Only.drew h
theorem bZ.setCell (h : bZ I F w w1) {p : Addr} (hB : F p.block) (ho : w1.heap[p.block]? = some o) (hI : I o) (u : Value) : bZ I F w (w1.setCell p u) := by
 refine h.trans (Only.setCell (Only.refl _ _) (.inl ⟨hB, fun o' ho' => ?_⟩) u);rw [ho] at ho';cases ho';exact hI
theorem bZ.map {k : TypeId} (h : bZ I F w w1) (hB : F b) (hI : ∀ es c, I (.map es c)) (k : w1.mapTurned w2 b) : bZ I F w w2 := by
 have hg := k.grown;obtain ⟨es, c, es', c', hb, e⟩ := k;refine h.trans (Only.grown (Only.refl _ _) hg fun j hj => ?_);injection hj with hj;subst hj;refine .inl ⟨hB, fun o ho => ?_⟩;rw [hb] at ho;cases ho;exact hI es c
theorem bZ.node {x : Ky} {u v : Value} (h : bZ nF F w w1) (hB : F b) (hb : dB w1 b x u v) (j : Nat) (s : Value) : bZ nF F w (w1.setCell ⟨b, j, none⟩ s) := h.setCell (p := ⟨b, j, none⟩) hB hb rfl s
theorem bZ.widen (h : bZ I F w w1) (hI : ∀ o, I o -> J o) : bZ J F w w1 := Only.widen h fun b hb => ⟨hb.1, fun o ho => hI o (hb.2 o ho)⟩
end
abbrev iW := bZ tI
structure dx (w : World) (B : Nat -> Prop) (p room : Nat) (E bm : Nat) (bs : List Nat) (ky : Nat -> Ky) (pv nx : Nat -> Nat) (M : Int -> Option Nat) : Prop where
 at_ : w.heap[p]? = some (.cells #[.int .i64 (room : Int), ptB E, .map (some bm)] 148 (0, 0))
 lnk : Lnk w ky pv nx (E :: bs)
 seg : Seg pv nx E bs E
 one : (E :: bs).Nodup
 map : dI w bm bs.length M
 hit : ∀ b ∈ bs, M (ky b).n = some b
 who : ∀ k b, (Lit.int .i64 k).wf = true -> M k = some b -> b ∈ bs /\ (ky b).n = k
 low : B p /\ B bm /\ ∀ b ∈ E :: bs, B b
 ok : LOk room (bs.map ky)
 rm : 1 <= room /\ room <= 64
def PLF (w : World) (B : Nat -> Prop) (p room : Nat) (L : List Ky) : Prop := ∃ E bm bs ky pv nx M, dx w B p room E bm bs ky pv nx M /\ bs.map ky = L
section
variable {w w' : World} {B : Nat -> Prop} {p room E bm : Nat} {bs : List Nat} {ky : Nat -> Ky} {pv nx : Nat -> Nat} {M : Int -> Option Nat} {L : List Ky}
theorem dx.keep (h : dx w B p room E bm bs ky pv nx M) (hk : ∀ (b : Nat) (o : Obj), w.heap[b]? = some o -> tI o -> w'.heap[b]? = some o) : dx w' B p room E bm bs ky pv nx M :=
 ⟨hk _ _ h.at_ (.inr rfl), h.lnk.keep fun b cs hb => hk b _ hb (.inl rfl), h.seg, h.one, h.map.kept fun es c hb => hk _ _ hb trivial, h.hit, h.who, h.low, h.ok, h.rm⟩
theorem dx.c0 (h : dx w B p room E bm bs ky pv nx M) : w.cell? ⟨p, 0, none⟩ = some (.int .i64 (room : Int)) := (cells3 h.at_).1
theorem dx.c1 (h : dx w B p room E bm bs ky pv nx M) : w.cell? ⟨p, 1, none⟩ = some (.pointer (some ⟨E, 0, none⟩)) := (cells3 h.at_).2.1
theorem dx.c2 (h : dx w B p room E bm bs ky pv nx M) : w.cell? ⟨p, 2, none⟩ = some (.map (some bm)) := (cells3 h.at_).2.2
theorem PLF.keep (h : PLF w B p room L) (hk : ∀ (b : Nat) (o : Obj), w.heap[b]? = some o -> tI o -> w'.heap[b]? = some o) : PLF w' B p room L := by
 obtain ⟨E, bm, bs, ky, pv, nx, M, h, e⟩ := h;exact ⟨E, bm, bs, ky, pv, nx, M, h.keep hk, e⟩
theorem PLF.below (h : PLF w B p room L) (hb : Below w.heap.size w w') : PLF w' B p room L := h.keep fun b o ho _ => aC ho hb
end
section
variable {w w' : World} {B B' : Nat -> Prop} {p room E bm : Nat} {bs : List Nat} {ky : Nat -> Ky} {pv nx : Nat -> Nat} {M : Int -> Option Nat} {L : List Ky}
theorem dI.lt {b N : Nat} (h : dI w b N M) : b < w.heap.size := by obtain ⟨es, c, hb⟩ := h.obj; exact aU hb
theorem dx.mono (h : dx w B p room E bm bs ky pv nx M) (hB : ∀ b, B b -> b < w.heap.size -> B' b) : dx w B' p room E bm bs ky pv nx M :=
 ⟨h.at_, h.lnk, h.seg, h.one, h.map, h.hit, h.who, ⟨hB _ h.low.1 (aU h.at_), hB _ h.low.2.1 h.map.lt, fun b hb => hB _ (h.low.2.2 b hb) (aU (h.lnk b hb))⟩, h.ok, h.rm⟩
theorem PLF.mono (h : PLF w B p room L) (hB : ∀ b, B b -> b < w.heap.size -> B' b) : PLF w B' p room L := by
 obtain ⟨E, bm, bs, ky, pv, nx, M, h, e⟩ := h;exact ⟨E, bm, bs, ky, pv, nx, M, h.mono hB, e⟩
theorem PLF.only {G : Nat -> Prop} (h : PLF w B p room L) (hk : Only G w w') (hG : ∀ b, B b -> ¬ G b) : PLF w' B p room L := by
 obtain ⟨E, bm, bs, ky, pv, nx, M, h, e⟩ := h;refine ⟨E, bm, bs, ky, pv, nx, M, ⟨Only.keep hk h.at_ (hG _ h.low.1), fun b hb => Only.keep hk (h.lnk b hb) (hG b (h.low.2.2 b hb)), h.seg, h.one, h.map.kept fun es c hb => Only.keep hk hb (hG _ h.low.2.1), h.hit, h.who, h.low, h.ok, h.rm⟩, e⟩
end
section
variable {w : World} {B : Nat -> Prop} {n E : Nat} {ky : Nat -> Ky} {pv nx : Nat -> Nat} {S : List Nat}
theorem tc (w : World) (h : Lnk w ky pv nx S) (hn : n ∈ S) (hp : pv n ∈ S) (hx : nx n ∈ S) (hB : ∀ b ∈ S, B b) :
  Calls prog 122 #[.pointer (some ⟨n, 0, none⟩)] w fun e w' => e = .returned (.tuple #[]) /\ Lnk w' ky (dh pv (nx n) (pv n)) (dh nx (pv n) (nx n)) S /\ bZ nF B w w' := by
 have HN := ae (h n hn);have HP := ae (h (pv n) hp);have h1 : Lnk (w.drew.setCell ⟨pv n, 3, none⟩ (ptB (nx n))) ky pv (dh nx (pv n) (nx n)) S := Lnk.s3 (w := w.drew) h (nx n) hp;have HX1 := ae (h1 (nx n) hx);have H2 := ae (Lnk.s2 h1 (pv n) hx);have HT := ae (((bZ.refl nF B w).drew.node (hB _ hp) (h (pv n) hp) 3 (ptB (nx n))).node (hB _ hx) (h1 (nx n) hx) 2 (ptB (pv n)));clear h h1 hn hp hx hB;go_enter func122, ntmps122;go_upto_region 0 with fail;refine wp_region_still_tail 16 (by kernel_rfl) (by kernel_rfl) ?_;simp only [ac];refine aP rfl (aM rfl akt) ?_;simp only [aa];refine aP rfl (bq rfl akt) ?_;simp only [aa];refine aP rfl (ax rfl akt nz) ?_;simp only [aa];refine aP rfl (aD rfl akt (jB (HN.out).c2)) ?_;simp only [aa];refine aP rfl (aM rfl akt) ?_;simp only [aa];refine aP rfl (bq rfl akt) ?_;simp only [aa];refine aP rfl (ax rfl akt mj) ?_;simp only [aa];refine aP rfl (aD rfl akt (jB (HN.out).c3)) ?_;simp only [aa];refine aP rfl (aM rfl akt) ?_;simp only [aa];refine aP rfl (bq rfl akt) ?_;simp only [aa];refine aP rfl (ax rfl akt mj) ?_;simp only [aa];refine aP rfl (aD rfl akt (jB (HN.out).c3)) ?_;simp only [aa];refine aP rfl (aM rfl akt) ?_;simp only [aa];refine aP rfl (bq rfl akt) ?_;simp only [aa];refine aP rfl (ax rfl akt nz) ?_;simp only [aa];refine aP rfl (aD rfl akt (jB (HN.out).c2)) ?_;simp only [aa];refine wpStill_nil ?_;change wpList _ _ _ _ _ (World.drew _);refine runs 1 ?_;refine akj (ax rfl akt mj) ?_;refine aG rfl (df rfl (ev rfl) (ev rfl) (aaS HP.out.c3 (HP.out.fz 3))) ?_;simp only [aa];refine runs 1 ?_;refine akj (ax rfl akt nz) ?_;refine aG rfl (df rfl (ev rfl) (ev rfl) (aaS HX1.out.c2 (HX1.out.fz 2))) ?_;simp only [aa];refine ah ?_
 go_end0
 exact ⟨rfl, H2, HT⟩
theorem qZ (w : World) (x : Ky) (u v : Value) (h : Lnk w ky pv nx S) (hn : dB w n x u v) (hnS : n ∉ S) (hE : E ∈ S) (hx : nx E ∈ S) (hB : ∀ b ∈ S, B b) (hBn : B n) :
  Calls prog 123 #[.pointer (some ⟨n, 0, none⟩), .pointer (some ⟨E, 0, none⟩)] w fun e w' => e = .returned (.tuple #[]) /\ Lnk w' (dh ky n x) (dh (dh pv n E) (nx E) n) (dh (dh nx n (nx E)) E n) (n :: S) /\ bZ nF B w w' := by
 have HN := ae hn;have HE := ae (h E hE);have n1 := hn.s2 (ptB E);have n2 := n1.s3 (ptB (nx E));have HN1 := ae n1;have HN2 := ae n2;have hne : ∀ b ∈ S, b ≠ n := fun b hb e => hnS (by rw [<- e]; exact hb)
 have l2 : Lnk ((w.setCell ⟨n, 2, none⟩ (ptB E)).setCell ⟨n, 3, none⟩ (ptB (nx E))) (dh ky n x) (dh pv n E) (dh nx n (nx E)) S := fun b hb => by
  rw [cg _ _ (hne b hb), cg _ _ (hne b hb), cg _ _ (hne b hb)];exact ((h b hb).other (p := ⟨n, 2, none⟩) (hne b hb) _).other (p := ⟨n, 3, none⟩) (hne b hb) _
 have m2 : Lnk ((w.setCell ⟨n, 2, none⟩ (ptB E)).setCell ⟨n, 3, none⟩ (ptB (nx E))) (dh ky n x) (dh pv n E) (dh nx n (nx E)) (n :: S) := l2.add (by rw [c7, c7, c7]; exact n2);have T2 : bZ nF B w ((w.setCell ⟨n, 2, none⟩ (ptB E)).setCell ⟨n, 3, none⟩ (ptB (nx E))) := ((bZ.refl nF B w).node hBn hn 2 (ptB E)).node hBn n1 3 (ptB (nx E));have HM2 := ae m2;have HT2 := ae T2;have HI := ae (And.intro hE (And.intro hx (And.intro hB hBn)));clear h hn hnS hE hx hB hBn n1 n2 hne l2 m2 T2;go_enter func123, ntmps123;go_upto_region 0 with fail;refine aI 3 ?_;refine runs 2 ?_;refine akj (ax rfl akt mj) ?_;refine akj (aD rfl akt (jB (HE.out).c3)) ?_;refine runs 1 ?_;refine akj (ax rfl akt nz) ?_;refine aG rfl (df rfl (ev rfl) (ev rfl) (aaS HN.out.c2 (HN.out.fz 2))) ?_;simp only [aa];refine runs 1 ?_;refine akj (ax rfl akt mj) ?_;refine aG rfl (df rfl (ev rfl) (ev rfl) (aaS HN1.out.c3 (HN1.out.fz 3))) ?_;simp only [aa];refine ah ?_;go_upto_region 1 with fail;obtain ⟨w2, hw2⟩ : ∃ w2, (w.setCell ⟨n, 2, none⟩ (ptB E)).setCell ⟨n, 3, none⟩ (ptB (nx E)) = w2 := ⟨_, rfl⟩;unfold ptB at hw2;rw [hw2];unfold ptB at HM2 HT2 HN2;rw [hw2] at HM2 HT2 HN2;clear HN HN1 HE hw2;have HE2 := ae (HM2.out E (List.mem_cons_of_mem _ HI.out.1));have m3 : Lnk (w2.drew.setCell ⟨E, 3, none⟩ (ptB n)) (dh ky n x) (dh pv n E) (dh (dh nx n (nx E)) E n) (n :: S) := Lnk.s3 (w := w2.drew) HM2 n (List.mem_cons_of_mem _ HI.out.1);have HX3 := ae (m3 (nx E) (List.mem_cons_of_mem _ HI.out.2.1));have HM4 := ae (Lnk.s2 m3 n (List.mem_cons_of_mem _ HI.out.2.1));have HT4 := ae ((HT2.out.drew.node (HI.out.2.2.1 _ HI.out.1) HE2 3 (ptB n)).node (HI.out.2.2.1 _ HI.out.2.1) HX3 2 (ptB n));clear m3;refine qu (fun w' => dB w' n x (ptB E) (ptB (nx E))) (fun _ => True) 12 (by kernel_rfl) ?_;change eR _ _ _ _ _ _ _ 16 _ _ w2.drew;refine ako 0 rfl (fun _ hw => aM rfl akt) HN2 ?_;refine ako 1 rfl (fun _ hw => bq rfl akt) HN2 ?_;refine ako 2 rfl (fun _ hw => ax rfl akt nz) HN2 ?_;refine ako 3 rfl (fun _ hw => aD rfl akt (jB (hw).c2)) HN2 ?_;refine akp 4 rfl (fun _ hw => aM rfl akt) (i2 (by kernel_rfl) HN2) ?_;refine akp 5 rfl (fun _ hw => bq rfl akt) (i2 (by kernel_rfl) HN2) ?_;refine akp 6 rfl (fun _ hw => ax rfl akt mj) (i2 (by kernel_rfl) HN2) ?_;refine ako 7 rfl (fun _ hw => aD rfl akt (jB (hw).c3)) HN2 ?_;refine ako 8 rfl (fun _ hw => aM rfl akt) HN2 ?_;refine akp 9 rfl (fun _ hw => aM rfl akt) (i2 (by kernel_rfl) HN2) ?_;refine akp 10 rfl (fun _ hw => bq rfl akt) (i2 (by kernel_rfl) HN2) ?_;refine ako 11 rfl (fun _ hw => ax rfl akt mj) HN2 ?_;refine xP 12 rfl (by kernel_rfl) rfl (df rfl (ev rfl) (ev rfl) (aaS HE2.out.c3 (HE2.out.fz 3))) (jv (by kernel_rfl) trivial) ?_;simp only [Act.put];refine vg 13 rfl (by kernel_rfl) rfl (bq rfl akt) (jv (by kernel_rfl) trivial) ?_;simp only [aa];refine vg 14 rfl (by kernel_rfl) rfl (ax rfl akt nz) (jv (by kernel_rfl) trivial) ?_;simp only [aa];refine xP 15 rfl (by kernel_rfl) rfl (df rfl (ev rfl) (ev rfl) (aaS HX3.out.c2 (HX3.out.fz 2))) (jv (by kernel_rfl) trivial) ?_;simp only [Act.put];refine un (by kernel_rfl) ?_ _
 go_end0
 exact ⟨rfl, HM4, HT4⟩
end
section
variable {w w' : World} {B p room E bm i : Nat} {bs : List Nat} {ky : Nat -> Ky} {pv nx : Nat -> Nat} {M : Int -> Option Nat} {L : List Ky} {k : Int}
theorem iJ {b : Nat} {o : Obj} (h : w.mapTurned w' bm) (hb : w.heap[b]? = some o) (hn : ∀ es c, o ≠ .map es c) : w'.heap[b]? = some o := by
 have hg := h.grown;obtain ⟨es, c, es', c', hm, e⟩ := h;exact (hg.block b (aU hb) (fun e2 => by injection e2 with e2; subst e2; rw [hm] at hb; cases hb; exact hn _ _ rfl)).trans hb
theorem Lnk.turned {S : List Nat} (h : Lnk w ky pv nx S) (ht : w.mapTurned w' bm) : Lnk w' ky pv nx S := fun b hb => iJ ht (h b hb) fun _ _ e => by cases e
def lsB (bs : List Nat) (L : List Ky) : Option Nat := if lu L = 0 then none else some (bs.getD (lu L - 1) 0)
theorem ug {bs : List Nat} {L : List Ky} (h : lu L = 0) : lsB bs L = none := if_pos h
theorem tE {bs : List Nat} {L : List Ky} {j : Nat} (h : lu L = j + 1) : lsB bs L = some (bs.getD j 0) := by unfold lsB; rw [if_neg (by omega), h]; rfl
theorem tR {ops : Array Oper} {rest : List Oper} {o : Oper} {a : Act} {Q : Exit -> Act -> World -> Prop} {x y : Operand} {N b : Nat} (hg : o.guard = none) (ho : o.op = .call { callee := .builtin .delete, args := #[x, y], argTypes := #[146, 3] })
  (hx : a.eval x = .map (some b)) (hy : a.eval y = .int .i64 k) (h : dI w b (N + 1) M) (hw : (Lit.int .i64 k).wf = true) (hn : (M k).isSome = true)
  (hk : ∀ w', dI w' b N (fun j => if j = k then none else M j) -> w.mapTurned w' b -> wpList prog ops Q rest (a.put o.dst (.tuple #[])) w') : wpList prog ops Q (o :: rest) a w := by
 obtain ⟨w', h1, h2, h3⟩ := h.del hw hn o.type;exact aw hg (tG ho hx hy h1) (hk w' h2 h3)
end
end Go.Proofs.YtlmdklakcmnaiaaGreatDoor
