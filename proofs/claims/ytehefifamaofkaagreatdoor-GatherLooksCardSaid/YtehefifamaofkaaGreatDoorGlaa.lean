import Derived.Laws.OwnMore
import Derived.Deep.Draws
import Derived.Laws.Rows
import Derived.OwnWalk
import Derived.Deep.OwnRows
import Derived.Test.YtehefifamaofkaaGreatDoorRows
import Derived.WalkKit
import Derived.ProofKit
import Derived.OpenShut
import Derived.ShutString
import Derived.ChangeOld
import Derived.SizedLaws
import Derived.JoinedCond
import Derived.Test.YtehefifamaofkaaGreatDoorProg
import Derived.RegionTactic
import Derived.ChangeAlike
import Derived.Deep.QuietTactic
import Derived.BigQuiet
import Derived.WalkLawsBesides
import Derived.WalkSpells
import Derived.Laws.BitsAllLaws
import Derived.Deep.DeepHandedRow
import Derived.Lib.LaidTab
import Derived.Lib.SmallJoins
import Derived.LaidSub
import Derived.Deep.MidRow
import Derived.StillTailTactics
import Derived.Deep.WholeRow
import Derived.Deep.Quiet
import Derived.Laws.StructEq
import Derived.Laws.NewBlocks
import Derived.OrdersHeld
import Derived.Laws.AppendOwn
import Derived.Laws.IdiomCopy
import Derived.Test.YtehefifamaofkaaGreatDoorGlZ
namespace Go.Proofs.YtehefifamaofkaaGreatDoor
set_option maxHeartbeats 8000000
open Go.Proofs.Tryz
open Go.RowKit
set_option maxRecDepth 100000
def bt (l : List UInt8) (k : Nat) : Int := ((l.getD k 0).toNat : Int)
theorem gM (l : List UInt8) (k : Nat) : 0 <= bt l k := by unfold bt; omega
theorem jU (l : List UInt8) (k : Nat) : bt l k <= 255 := by
 unfold bt;have := UInt8.toNat_lt (l.getD k 0);omega
theorem cZ {l : List UInt8} {k : Nat} (h : k < l.length) : bt l k = (l[k].toNat : Int) := by
 unfold bt;simp [List.getD, List.getElem?_eq_getElem h]
theorem eB {a b : List UInt8} (hl : a.length = b.length) (h : ∀ k, k < a.length -> bt a k = bt b k) : a = b := by
 apply List.ext_getElem hl;intro k h1 h2;have := h k h1;rw [cZ h1, cZ h2] at this;exact UInt8.toNat_inj.1 (by omega)
def Rd (w : World) (B : Nat) (A : Option Addr) (n : Nat) (l : List UInt8) : Prop :=
 l.length = n /\ ∀ k, k < n -> ∃ b off, A = some ⟨b, off, none⟩ /\ b < B /\ w.cell? ⟨b, off + k, none⟩ = some (.int .u8 (bt l k))
section
variable {w w' : World} {B B' n : Nat} {A : Option Addr} {l : List UInt8}
theorem Rd.nil (w : World) (B : Nat) (A : Option Addr) : Rd w B A 0 [] := ⟨rfl, fun k hk => absurd hk (by omega)⟩
theorem Rd.keep (h : Rd w B A n l) (hk : ∀ p : Addr, p.block < B -> w'.cell? p = w.cell? p) : Rd w' B A n l :=
 ⟨h.1, fun k hn => by
  obtain ⟨b, off, e, hb, hc⟩ := h.2 k hn;exact ⟨b, off, e, hb, (hk _ hb).trans hc⟩⟩
theorem Rd.below (h : Rd w B A n l) (hb : Below B w w') : Rd w' B A n l := h.keep fun _ hp => hb.cell hp
end
theorem bdn {B : Nat} {a w : World} (h : Below B a w) (k : Nat) : Below B a (w.drewN k) := ⟨h.os, h.tape, h.output, h.size, h.block⟩
theorem bd {B : Nat} {a w : World} (h : Below B a w) : Below B a w.drew := ⟨h.os, h.tape, h.output, h.size, h.block⟩
theorem two {a b c : World} (h1 : Below a.heap.size a b) (h2 : Below b.heap.size b c) : Below a.heap.size a c := h1.trans (h2.mono h1.size)
theorem bp {a b : Bool} (h : a = b) : Ending.returned (.bool a) = .returned (.bool b) := by rw [h]
theorem rv {k k' : IntKind} {a b a' b' : Int} (h : a = b) (h' : a' = b') : Ending.returned (.tuple #[.int k a, .int k' a']) = .returned (.tuple #[.int k b, .int k' b']) := by rw [h, h']
theorem bP {k : IntKind} {a b : Int} (h : a = b) : Ending.returned (.int k a) = .returned (.int k b) := by rw [h]
def Made (w : World) (base : Nat) (v : Value) (l : List UInt8) : Prop :=
 w.ownsRow base 5 1 v l.length (l.map fun u => .int .u8 (u.toNat : Int))
theorem Made.form {w : World} {base : Nat} {v : Value} {l : List UInt8} (h : Made w base v l) : ∃ A c, v = .slice A l.length c /\ l.length <= c /\ c <= maxLen := by
 rcases h.2 with ⟨rfl, h0⟩ | ⟨g, cap, cur, rfl, _, _, h1, h2, _⟩
 ·exact ⟨none, 0, by rw [h0], by omega, by simp [maxLen]⟩
 ·exact ⟨_, cap, rfl, h1, h2⟩
theorem Made.rd {w : World} {base n c : Nat} {A : Option Addr} {l : List UInt8} (h : Made w base (.slice A n c) l) : Rd w w.heap.size A n l := by
 rcases h.2 with ⟨hv, h0⟩ | ⟨g, cap, cur, hv, _, hg, _, _, _, ht⟩
 ·have hl : l = [] := List.eq_nil_of_length_eq_zero h0;subst hl;injection hv with h1 h2 h3;subst h2;exact Rd.nil _ _ _
 ·injection hv with h1 h2 h3;subst h1 h2 h3;refine ⟨rfl, fun k hk => ⟨g, 0, rfl, (Array.getElem?_eq_some_iff.1 hg).1, ?_⟩⟩;rw [cell_of_row w g (0 + k) cur 5 (0, 0) hg];have h2 : (cur.toList.take (l.length * 1))[k]? = (l.map fun u => Value.int .u8 (u.toNat : Int))[k]? := by rw [ht]
  rw [List.getElem?_take_of_lt (by omega), List.getElem?_map, List.getElem?_eq_getElem hk] at h2;rw [cZ hk, Nat.zero_add]
  simpa using h2
theorem Made.below {w w' : World} {base : Nat} {v : Value} {l : List UInt8} (h : Made w base v l) (hb : Below w.heap.size w w') : Made w' base v l := by
 refine ⟨h.1, ?_⟩;rcases h.2 with hn | ⟨g, cap, cur, rfl, hbg, hg, rest⟩
 ·exact .inl hn
 ·exact .inr ⟨g, cap, cur, rfl, hbg, by rw [hb.block g (Array.getElem?_eq_some_iff.1 hg).1]; exact hg, rest⟩
theorem Made.own {w : World} {base n : Nat} {v : Value} {l : List UInt8} (h : Made w base v l) (hn : l.length = n) : w.ownsRow base 5 1 v n (l.map fun u => .int .u8 (u.toNat : Int)) := by
 subst hn; exact h
theorem Made.yu {w : World} {base n : Nat} {v : Value} {l : List UInt8} (h : w.ownsRow base 5 1 v n (l.map fun u => .int .u8 (u.toNat : Int))) : Made w base v l := by
 have hn : l.length = n := by have := h.1; simpa using this
 subst hn; exact h
theorem Made.push {w0 wr w' : World} {B n : Nat} {v v' : Value} {l : List UInt8} {u : UInt8} {x : Int} {o : Obj} (hm : Made wr B v l) (hbl : Below B w0 wr) (hsz : B <= wr.heap.size) (hx : x = (u.toNat : Int))
  (hown : w'.ownsRow B 5 1 v' n ((l.map fun u => .int .u8 (u.toNat : Int)) ++ [.int .u8 x])) (hg : (wr.alloc o).grownBy w' v.ownBlock) : Made w' B v' (l ++ [u]) /\ Below B w0 w' := by
 subst hx;refine ⟨Made.yu (n := n) ?_, ((hbl.alloc hsz o).grown hg (by simp; omega) fun k hk => ?_)⟩
 ·rw [List.map_append]; exact hown
 ·exact (hm.lt k hk).1
theorem Made.base {w : World} {b b' : Nat} {v : Value} {l : List UInt8} (h : Made w b v l) (hb : b' <= b) : Made w b' v l := by
 refine ⟨h.1, ?_⟩;rcases h.2 with hn | ⟨g, cap, cur, rfl, hbg, rest⟩
 ·exact .inl hn
 ·exact .inr ⟨g, cap, cur, rfl, ap hb hbg, rest⟩
theorem Made.open_ {w : World} {base n : Nat} {v : Value} {l : List UInt8} (h : Made w base v l) (hn : l.length = n) : ∃ A c, v = .slice A n c /\ Rd w w.heap.size A n l /\ n <= c /\ c <= maxLen := by
 subst hn;obtain ⟨A, c, rfl, h1, h2⟩ := h.form;exact ⟨A, c, rfl, h.rd, h1, h2⟩
def upd (f : Nat -> Int) (i : Nat) (x : Int) : Nat -> Int := fun j => if j = i then x else f j
theorem nu (f : Nat -> Int) (i : Nat) (x : Int) : upd f i x i = x := by unfold upd; rw [if_pos rfl]
theorem kE (f : Nat -> Int) {i j : Nat} (x : Int) (h : j ≠ i) : upd f i x j = f j := by unfold upd; rw [if_neg h]
theorem pM {w : World} {g c i : Nat} {f : Nat -> Int} {e : TypeId} (h : w.rowIs g e c (fun j => .int .u8 (f j))) (x : Int) : (w.setCell ⟨g, i, none⟩ (.int .u8 x)).rowIs g e c (fun j => .int .u8 (upd f i x j)) :=
 (h.set i _).congr fun j _ => by
  unfold upd
  split
  ·rfl
  ·rfl
def Own (w : World) (base : Nat) (v : Value) (l : List UInt8) : Prop :=
 ∃ (g c : Nat) (f : Nat -> Int), v = .slice (some ⟨g, 0, none⟩) l.length c /\ base <= g /\ w.rowIs g 5 c (fun j => .int .u8 (f j)) /\ l.length <= c /\ c <= maxLen /\ (∀ j, j < l.length -> f j = bt l j) /\ ∀ j, 0 <= f j /\ f j <= 255
theorem Own.made {w : World} {base : Nat} {v : Value} {l : List UInt8} (h : Own w base v l) : Made w base v l := by
 obtain ⟨g, c, f, rfl, hb, ⟨cur, hg, hn, hc⟩, h1, h2, hf, _⟩ := h;refine ⟨by simp, .inr ⟨g, c, cur, rfl, hb, hg, h1, h2, by simpa using hn, ?_⟩⟩;apply List.ext_getElem?;intro k;by_cases hk : k < l.length
 ·rw [List.getElem?_take_of_lt (by omega), List.getElem?_map, List.getElem?_eq_getElem hk, Array.getElem?_toList, hc k (by omega)]
  show some (Value.int .u8 (f k)) = _
  rw [hf k hk, cZ hk]
  rfl
 ·rw [List.getElem?_eq_none (by simp; omega), List.getElem?_eq_none (by simp; omega)]
theorem Own.sf {w : World} {base g c : Nat} {f : Nat -> Int} {l : List UInt8} {n : Nat} (hn : l.length = n) (hb : base <= g) (h : w.rowIs g 5 c (fun j => .int .u8 (f j))) (h1 : n <= c) (h2 : c <= maxLen)
  (hf : ∀ j, j < n -> f j = bt l j) (hr : ∀ j, 0 <= f j /\ f j <= 255) : Own w base (.slice (some ⟨g, 0, none⟩) n c) l := by
 subst hn;exact ⟨g, c, f, rfl, hb, h, h1, h2, hf, hr⟩
open Go.RowKit Go.ChangeShapes Go.WideShapes Go.ChangeAt
theorem ade : ownKnob prog.godebug = none := by kernel_rfl
theorem adK : laidOutB prog = true := by kernel_rfl
theorem uE : prog.cellsOf 5 = 1 := by kernel_rfl
def val (w : Nat) : List UInt8 -> Nat
 |[] => 0
 |u :: r => u.toNat + 2 ^ w * val w r
def aU (w n V : Nat) : List UInt8 := (List.range n).map fun j => UInt8.ofNat (V / 2 ^ (w * j) % 2 ^ w)
theorem aD (w n V : Nat) : (aU w n V).length = n := by simp [aU]
theorem kh {w : Nat} (hw : w <= 8) (x : Nat) : x % 2 ^ w < 256 := by
 have h1 : x % 2 ^ w < 2 ^ w := Nat.mod_lt _ (Nat.pow_pos (by omega));have h2 : 2 ^ w <= 2 ^ 8 := Nat.pow_le_pow_right (by omega) hw;omega
theorem fN {w n V j : Nat} (hw : w <= 8) (h : j < (aU w n V).length) : ((aU w n V)[j]).toNat = V / 2 ^ (w * j) % 2 ^ w := by
 simp only [aU, List.getElem_map, List.getElem_range, UInt8.toNat_ofNat'];exact Nat.mod_eq_of_lt (kh hw _)
theorem vf (w n V : Nat) : aU w (n + 1) V = UInt8.ofNat (V % 2 ^ w) :: aU w n (V / 2 ^ w) := by
 simp only [aU, List.range_succ_eq_map, List.map_cons, List.map_map]
 congr 1
 ·simp
 ·apply List.map_congr_left;intro j _;simp only [Function.comp];rw [Nat.div_div_eq_div_mul, <- Nat.pow_add]
  congr 3
  rw [Nat.mul_succ, Nat.add_comm]
theorem fX (w n V : Nat) : aU w (n + 1) V = aU w n V ++ [UInt8.ofNat (V / 2 ^ (w * n) % 2 ^ w)] := by
 simp [aU, List.range_succ]
theorem lg {w : Nat} (hw : w <= 8) (n V : Nat) : val w (aU w n V) = V % 2 ^ (w * n) := by
 induction n generalizing V with
 |zero => simp [aU, val, Nat.mod_one]
 |succ n ih =>
  rw [vf, val, ih, UInt8.toNat_ofNat', Nat.mod_eq_of_lt (kh hw _), Nat.mul_succ, Nat.add_comm (w * n) w, Nat.pow_add, Nat.mod_mul]
theorem mV {w : Nat} {l : List UInt8} (h : ∀ u ∈ l, u.toNat < 2 ^ w) : val w l < 2 ^ (w * l.length) := by
 induction l with
 |nil => simp [val]
 |cons u r ih =>
  have h1 := ih fun x hx => h x (List.mem_cons_of_mem _ hx)
  have h2 := h u List.mem_cons_self;rw [val, List.length_cons, Nat.mul_succ, Nat.add_comm (w * r.length) w, Nat.pow_add];have h3 : 2 ^ w * (val w r + 1) <= 2 ^ w * 2 ^ (w * r.length) := Nat.mul_le_mul_left _ h1;rw [Nat.mul_succ] at h3;omega
theorem uM (w : Nat) (u : UInt8) : val w [u] = u.toNat := by rw [val, val, Nat.mul_zero, Nat.add_zero]
theorem val_append (w : Nat) (a b : List UInt8) : val w (a ++ b) = val w a + 2 ^ (w * a.length) * val w b := by
 induction a with
 |nil => simp [val]
 |cons u r ih =>
  rw [List.cons_append, val, val, ih, List.length_cons, Nat.mul_succ, Nat.add_comm (w * r.length) w, Nat.pow_add, Nat.mul_add, Nat.mul_assoc, Nat.add_assoc]
theorem om {w : Nat} {l : List UInt8} (h : ∀ u ∈ l, u.toNat < 2 ^ w) (j : Nat) : val w l / 2 ^ (w * j) % 2 ^ w = (l.getD j 0).toNat := by
 induction l generalizing j with
 |nil => simp [val]
 |cons u r ih =>
  have h2 := h u List.mem_cons_self;have h0 : 0 < 2 ^ w := Nat.pow_pos (by omega);cases j with
  |zero =>
   rw [val, Nat.mul_zero, Nat.pow_zero, Nat.div_one, Nat.add_mul_mod_self_left, Nat.mod_eq_of_lt h2]
   rfl
  |succ j =>
   rw [val, Nat.mul_succ, Nat.add_comm (w * j) w, Nat.pow_add, <- Nat.div_div_eq_div_mul, Nat.add_mul_div_left _ _ h0, Nat.div_eq_of_lt h2, Nat.zero_add, ih fun x hx => h x (List.mem_cons_of_mem _ hx)];simp
theorem qw {w : Nat} {l : List UInt8} (h : ∀ u ∈ l, u.toNat < 2 ^ w) : aU w l.length (val w l) = l := by
 apply List.ext_getElem (aD _ _ _);intro j h1 h2;simp only [aU, List.getElem_map, List.getElem_range];rw [om h];simp [List.getD, List.getElem?_eq_getElem h2]
theorem o9 (l : List UInt8) : ∀ u ∈ l, u.toNat < 2 ^ 8 := fun u _ => UInt8.toNat_lt u
theorem yW {w a b V : Nat} (X : Nat) (hV : V < 2 ^ (w * a)) : aU w (a + b) (V + 2 ^ (w * a) * X) = aU w a V ++ aU w b X := by
 induction b with
 |zero =>
  rw [Nat.add_zero];have e0 : aU w 0 X = [] := rfl;rw [e0, List.append_nil];unfold aU;apply List.map_congr_left;intro j hj;rw [List.mem_range] at hj
  congr 1
  have hK : w * j + w <= w * a := by rw [<- Nat.mul_succ]; exact Nat.mul_le_mul_left _ hj
  obtain ⟨q, hq⟩ := Nat.exists_eq_add_of_le hK;rw [hq, show w * j + w + q = w * j + (w + q) from by omega, Nat.pow_add, Nat.mul_assoc, Nat.add_mul_div_left _ _ (Nat.pow_pos (by omega)), Nat.pow_add, Nat.mul_assoc, Nat.add_mul_mod_self_left]
 |succ b ih =>
  rw [<- Nat.add_assoc, fX, ih, fX w b X, List.append_assoc]
  congr 3
  rw [Nat.mul_add, Nat.pow_add, <- Nat.div_div_eq_div_mul, Nat.add_mul_div_left _ _ (Nat.pow_pos (by omega)), Nat.div_eq_of_lt hV, Nat.zero_add]
theorem rx (R p m : Nat) : R / 2 ^ p % 2 ^ (m + 1) = 2 * (R / 2 ^ (p + 1) % 2 ^ m) + R / 2 ^ p % 2 := by
 rw [Nat.pow_succ 2 m, Nat.mul_comm (2 ^ m) 2, Nat.mod_mul, Nat.pow_succ, <- Nat.div_div_eq_div_mul];omega
def dg (V j : Nat) : Nat := V / 2 ^ (8 * j) % 2 ^ 8
theorem jW (V j : Nat) : dg V j < 256 := Nat.mod_lt _ (by decide)
theorem iA (V j t : Nat) : (dg V j).testBit t = (decide (t < 8) && V.testBit (8 * j + t)) := by
 unfold dg;rw [Nat.testBit_mod_two_pow, Nat.testBit_div_two_pow, Nat.add_comm]
theorem mr {V s : Nat} (x : Nat) (hV : V < 2 ^ s) (t : Nat) : (V + 2 ^ s * x).testBit t = if t < s then V.testBit t else x.testBit (t - s) := by
 rw [Nat.add_comm, Nat.testBit_two_pow_mul_add x hV]
theorem jk {V s t : Nat} (hV : V < 2 ^ s) (h : s <= t) : V.testBit t = false :=
 Nat.testBit_lt_two_pow (aq hV (Nat.pow_le_pow_right (by omega) h))
theorem qL {V s x : Nat} (hV : V < 2 ^ s) : dg V (s / 8) ||| (x * 2 ^ (s % 8) % 2 ^ 8) = dg (V + 2 ^ s * x) (s / 8) := by
 apply Nat.eq_of_testBit_eq;intro t;rw [Nat.testBit_or, iA, iA, Nat.testBit_mod_two_pow, mr x hV, Nat.testBit_mul_two_pow];by_cases ht : t < 8
 ·by_cases h2 : t < s % 8
  ·have h3 : 8 * (s / 8) + t < s := by omega
   simp [ht, h3];omega
  ·have h3 : ¬ 8 * (s / 8) + t < s := by omega
   have h4 : 8 * (s / 8) + t - s = t - s % 8 := by omega
   rw [jk hV (by omega)];simp [ht, h3, h4];omega
 ·simp [ht]
theorem yY {V s x : Nat} (hV : V < 2 ^ s) (hx : x < 2 ^ 8) : dg V (s / 8 + 1) ||| (x * 2 ^ (s % 8) / 2 ^ 8) = dg (V + 2 ^ s * x) (s / 8 + 1) := by
 apply Nat.eq_of_testBit_eq;intro t;rw [Nat.testBit_or, iA, iA, Nat.testBit_div_two_pow, mr x hV, Nat.testBit_mul_two_pow];have h3 : ¬ 8 * (s / 8 + 1) + t < s := by omega
 have h4 : 8 * (s / 8 + 1) + t - s = t + 8 - s % 8 := by omega
 have h5 : s % 8 <= t + 8 := by omega
 rw [jk hV (by omega)];by_cases ht : t < 8
 ·simp [ht, h3, h4, h5]
 ·rw [jk hx (by omega)];simp [ht]
theorem oy {V s x d j : Nat} (hV : V < 2 ^ s) (hx : x < 2 ^ d) (hj : j < s / 8 \/ s + d <= 8 * j) : dg (V + 2 ^ s * x) j = dg V j := by
 apply Nat.eq_of_testBit_eq;intro t;rw [iA, iA, mr x hV];by_cases ht : t < 8
 ·rcases hj with hj | hj
  ·have : 8 * j + t < s := by omega
   simp [this]
  ·have h3 : ¬ 8 * j + t < s := by omega
   rw [jk hV (by omega), if_neg h3, jk hx (by omega)]
 ·simp [ht]
theorem zy {V s X d q ab : Nat} (hV : V < 2 ^ s) (hX : X < 2 ^ d) (hd : d <= 8) (hq : s / 8 = q) (hab : s % 8 = ab) (k : Nat) :
  dg (V + 2 ^ s * X) k = if k = q + 1 then dg V (q + 1) ||| (X * 2 ^ ab / 2 ^ 8) else if k = q then dg V q ||| (X * 2 ^ ab % 2 ^ 8) else dg V k := by
 subst hq hab
 split
 ·rename_i h
  rw [h, yY hV (aq hX (Nat.pow_le_pow_right (by omega) hd))]
 ·split
  ·rename_i h
   rw [h, qL hV]
  ·exact oy hV hX (by omega)
theorem sM {V s X d q ab : Nat} (hV : V < 2 ^ s) (hX : X < 2 ^ d) (hs : ab + d <= 8) (hq : s / 8 = q) (hab : s % 8 = ab) (k : Nat) :
  dg (V + 2 ^ s * X) k = if k = q then dg V q ||| (X * 2 ^ ab % 2 ^ 8) else dg V k := by
 subst hq hab
 split
 ·rename_i h
  rw [h, qL hV]
 ·exact oy hV hX (by omega)
theorem gI {d i : Nat} {l : List UInt8} (h : i < l.length) : val d (l.take (i + 1)) = val d (l.take i) + 2 ^ (i * d) * l[i].toNat := by
 rw [List.take_succ_eq_append_getElem h, val_append, uM, List.length_take, Nat.min_eq_left (by omega), Nat.mul_comm d i]
theorem lR {d : Nat} {l : List UInt8} (hall : ∀ u ∈ l, u.toNat < 2 ^ d) {i : Nat} (h : i <= l.length) : val d (l.take i) < 2 ^ (i * d) := by
 have := mV (l := l.take i) (w := d) fun u hu => hall u (List.mem_of_mem_take hu)
 rwa [List.length_take, Nat.min_eq_left h, Nat.mul_comm] at this
theorem sw {V s d : Nat} (hd : d <= 8) : (dg V (s / 8) + 2 ^ 8 * dg V (s / 8 + 1)) / 2 ^ (s % 8) % 2 ^ d = V / 2 ^ s % 2 ^ d := by
 apply Nat.eq_of_testBit_eq;intro t;rw [Nat.testBit_mod_two_pow, Nat.testBit_mod_two_pow, Nat.testBit_div_two_pow, Nat.testBit_div_two_pow, mr _ (jW V _), iA, iA];by_cases ht : t < d
 ·by_cases h2 : t + s % 8 < 8
  ·have h3 : 8 * (s / 8) + (t + s % 8) = t + s := by omega
   simp [ht, h2, h3]
  ·have h3 : 8 * (s / 8 + 1) + (t + s % 8 - 8) = t + s := by omega
   have h4 : t + s % 8 - 8 < 8 := by omega
   simp [ht, h2, h3, h4]
 ·simp [ht]
theorem nc {V s d : Nat} (hd : s % 8 + d <= 8) : dg V (s / 8) / 2 ^ (s % 8) % 2 ^ d = V / 2 ^ s % 2 ^ d := by
 apply Nat.eq_of_testBit_eq;intro t;rw [Nat.testBit_mod_two_pow, Nat.testBit_mod_two_pow, Nat.testBit_div_two_pow, Nat.testBit_div_two_pow, iA];by_cases ht : t < d
 ·have h2 : t + s % 8 < 8 := by omega
  have h3 : 8 * (s / 8) + (t + s % 8) = t + s := by omega
  simp [ht, h2, h3]
 ·simp [ht]
theorem kb : (prog.info? 5).map (fun i => (i.zero, i.size, i.bytes)) = some (some (.int .u8 0), 1, 1) := by kernel_rfl
theorem sD (w : World) (l : List UInt8) (cs : Array Value) (h : cs.toList = l.map fun u => Value.int .u8 (u.toNat : Int)) : Rd (w.alloc (.cells cs 5)) (w.heap.size + 1) (some ⟨w.heap.size, 0, none⟩) l.length l := by
 refine ⟨rfl, fun k hk => ⟨w.heap.size, 0, rfl, by omega, ?_⟩⟩;rw [cell_of_row (w.alloc (.cells cs 5)) w.heap.size (0 + k) cs 5 (0, 0) (heap_alloc_new w _), Nat.zero_add, <- Array.getElem?_toList, h, List.getElem?_map, List.getElem?_eq_getElem hk, cZ hk]
 rfl
def stp (r : Nat) : Nat := if r % 2 = 1 then r / 2 ^^^ 2197175160 else r / 2
def steps : Nat -> Nat -> Nat
 |0, r => r
 |n + 1, r => steps n (stp r)
def tak (r c : Nat) : Nat := steps 8 (r ^^^ c)
def run (r : Nat) (l : List UInt8) : Nat := l.foldl (fun r u => tak r u.toNat) r
def aej (m r : Nat) : Nat := m ^^^ r
def neg (r : Nat) : Nat := aej 4294967295 r
def more (s : Nat) (l : List UInt8) : Nat := neg (run (neg s) l)
def tab (i : Nat) : Nat := [0, 274646895, 549293790, 820201905, 1098587580, 1361435347, 1640403810, 1905808397, 2197175160, 2460548119, 2722870694, 2987750089, 3280807620, 3553878443, 3811616794, 4084100981].getD i 0
def hlf (r : Nat) : Nat := r / 16 ^^^ tab (r % 16)
theorem mZ {a b : Nat} (ha : a < 4294967296) (hb : b < 4294967296) : a ^^^ b < 4294967296 := Nat.xor_lt_two_pow (n := 32) ha hb
theorem abM {r : Nat} (h : r < 4294967296) : stp r < 4294967296 := by
 unfold stp
 split
 ·exact mZ (by omega) (by omega)
 ·omega
theorem nM (n : Nat) {r : Nat} (h : r < 4294967296) : steps n r < 4294967296 := by
 induction n generalizing r with
 |zero => exact h
 |succ n ih => exact ih (abM h)
theorem ab4 {r c : Nat} (h : r < 4294967296) (hc : c < 256) : tak r c < 4294967296 := nM 8 (mZ h (by omega))
theorem mM {r : Nat} (h : r < 4294967296) (l : List UInt8) : run r l < 4294967296 := by
 induction l generalizing r with
 |nil => exact h
 |cons u l ih => exact ih (ab4 h (UInt8.toNat_lt u))
theorem pz {r : Nat} (h : r < 4294967296) : neg r < 4294967296 := mZ (by omega) h
theorem mC {s : Nat} (h : s < 4294967296) (l : List UInt8) : more s l < 4294967296 := pz (mM (pz h) l)
theorem sL (r : Nat) (a b : List UInt8) : run r (a ++ b) = run (run r a) b := by unfold run; rw [List.foldl_append]
theorem zh (a b : Nat) : (a ^^^ b) / 2 = a / 2 ^^^ b / 2 := by
 have h : (a ^^^ b) >>> 1 = a >>> 1 ^^^ b >>> 1 := Nat.shiftRight_xor_distrib
 simpa [Nat.shiftRight_succ] using h
theorem z9 (a b : Nat) : (a ^^^ b) % 2 = 1 ↔ ¬ (a % 2 = 1 ↔ b % 2 = 1) := by
 have h : ((a ^^^ b) % 2 ^ 1) = (a % 2 ^ 1) ^^^ (b % 2 ^ 1) := Nat.xor_mod_two_pow;rw [show (2 : Nat) ^ 1 = 2 from rfl] at h;rw [h];rcases Nat.mod_two_eq_zero_or_one a with ha | ha <;> rcases Nat.mod_two_eq_zero_or_one b with hb | hb <;> rw [ha, hb] <;> decide
theorem adZ (a b c d : Nat) : (a ^^^ b) ^^^ (c ^^^ d) = (a ^^^ c) ^^^ (b ^^^ d) := by
 rw [Nat.xor_assoc, <- Nat.xor_assoc b c d, Nat.xor_comm b c, Nat.xor_assoc c b d, <- Nat.xor_assoc]
theorem zM (a b : Nat) : stp (a ^^^ b) = stp a ^^^ stp b := by
 unfold stp;rw [zh];have hl := z9 a b;by_cases ha : a % 2 = 1 <;> by_cases hb : b % 2 = 1
 ·rw [if_neg (by rw [hl]; simp [ha, hb]), if_pos ha, if_pos hb, adZ, Nat.xor_self, Nat.xor_zero]
 ·rw [if_pos (by rw [hl]; simp [ha, hb]), if_pos ha, if_neg hb, Nat.xor_assoc, Nat.xor_comm (b / 2), <- Nat.xor_assoc]
 ·rw [if_pos (by rw [hl]; simp [ha, hb]), if_neg ha, if_pos hb, Nat.xor_assoc]
 ·rw [if_neg (by rw [hl]; simp [ha, hb]), if_neg ha, if_neg hb]
theorem wW (n a b : Nat) : steps n (a ^^^ b) = steps n a ^^^ steps n b := by
 induction n generalizing a b with
 |zero => rfl
 |succ n ih => rw [steps, zM, ih]; rfl
theorem oR (m n r : Nat) : steps (m + n) r = steps n (steps m r) := by
 induction m generalizing r with
 |zero => rw [Nat.zero_add]; rfl
 |succ m ih => rw [Nat.succ_add, steps, ih]; rfl
theorem sJ (x : Nat) : stp (2 * x) = x := by
 unfold stp;rw [if_neg (by omega)];omega
theorem rq (n x : Nat) : steps n (2 ^ n * x) = x := by
 induction n with
 |zero => simp [steps]
 |succ n ih => rw [steps, Nat.pow_succ, Nat.mul_comm (2 ^ n) 2, Nat.mul_assoc, sJ, ih]
theorem wh {n t : Nat} (q : Nat) (h : t < 2 ^ n) : 2 ^ n * q ^^^ t = 2 ^ n * q + t := by
 apply Nat.eq_of_testBit_eq;intro i;rw [Nat.testBit_xor, Nat.testBit_two_pow_mul_add q h, Nat.testBit_two_pow_mul];by_cases hi : i < n
 ·simp [hi, Nat.not_le.2 hi]
 ·have : t.testBit i = false := Nat.testBit_lt_two_pow (aq h (Nat.pow_le_pow_right (by omega) (by omega)));simp [hi, this, Nat.le_of_not_lt hi]
theorem lC (r : Nat) : hlf r = steps 4 r := by
 have e : r = 2 ^ 4 * (r / 16) ^^^ r % 16 := by
  rw [wh (n := 4) _ (by omega)];omega
 have h : ∀ t, t < 16 -> tab t = steps 4 t := by decide
 conv => rhs; rw [e, wW, rq]
 unfold hlf;rw [h _ (by omega)]
theorem aag (r c : Nat) : hlf (hlf (r ^^^ c)) = tak r c := by
 rw [lC, lC, <- oR]
 rfl
set_option linter.unusedVariables false
def Tab (w : World) : Prop := ∀ i, i < 16 -> w.cell? ⟨0, i, none⟩ = some (.int .u32 (tab i : Int))
theorem Tab.below {w w' : World} (h : Tab w) (hb : Below w.heap.size w w') : Tab w' := fun i hi => by
 rw [hb.cell (p := ⟨0, i, none⟩) (World.block_lt_of_cell? w _ (h i hi))];exact h i hi
theorem acj (i : Nat) : tab i < 4294967296 := by
 by_cases h : i < 16
 ·have : ∀ i, i < 16 -> tab i < 4294967296 := by decide
  exact this i h
 ·unfold tab;rw [List.getD, List.getElem?_eq_none (by simp; omega)];simp
theorem ach {r : Nat} (h : r < 4294967296) : hlf r < 4294967296 := by
 rw [lC];exact nM 4 h
theorem aaA (r : Nat) (h : r < 4294967296) : bits .and .u32 (r : Int) 15 = ((r % 16 : Nat) : Int) := by
 have h2 := u32_and_nat r 15 h (by omega);have h3 : r &&& 15 = r % 16 := Nat.and_two_pow_sub_one_eq_mod r 4;rw [h3] at h2;exact h2
theorem pX (r : Nat) (w : World) (T : Tab w) (hr : r < 4294967296) :
  Calls prog 151 #[.int .u32 r] w fun e w' => e = .returned (.int .u32 (hlf r)) /\ w = w' := by
 have hl := aaA r hr;have ht := T (r % 16) (by omega);have hlo : r % 16 < 16 := by omega
 go_enter func151, ntmps151;go_wp2;go_ret;have e : ((r : Int) / 16) = ((r / 16 : Nat) : Int) := by omega
 refine ⟨bP ?_, rfl⟩;rw [e, u32_xor_nat _ _ (by omega) (acj _)]
 rfl
theorem yV (r c : Nat) (w : World) (T : Tab w) (hr : r < 4294967296) (hc : c < 256) :
  Calls prog 150 #[.int .u32 r, .int .u8 c] w fun e w' => e = .returned (.int .u32 (tak r c)) /\ w = w' := by
 have hx := u32_xor_nat r c hr (by omega);have hlt : r ^^^ c < 4294967296 := mZ hr (by omega);have hlt2 : hlf (r ^^^ c) < 4294967296 := ach hlt;have HT : Hid (hlf (hlf (r ^^^ c)) = tak r c) := ae (aag r c);go_enter func150, ntmps150;go_wp2_with fail;refine (pX (r ^^^ c) _ T hlt).mono ?_;rintro e w' ⟨rfl, rfl⟩;go_wp2_with fail;refine (pX (hlf (r ^^^ c)) _ T hlt2).mono ?_;rintro e w' ⟨rfl, rfl⟩;go_wp2;go_ret;exact ⟨bP (by rw [HT.out]), rfl⟩
theorem rz (r : Nat) (w : World) (hr : r < 4294967296) :
  Calls prog 134 #[.int .u32 r] w fun e w' => e = .returned (.int .u32 (stp r)) /\ w = w' := by
 have e : ((r : Int) / 2) = ((r / 2 : Nat) : Int) := by omega
 have hx := u32_xor_nat (r / 2) 2197175160 (by omega) (by omega);have HX := ae hx;have HE := ae e;clear e hx;by_cases h : r % 2 = 1
 ·have hs : stp r = r / 2 ^^^ 2197175160 := by unfold stp; rw [if_pos h]
  have HS := ae hs;have hb : ((r : Int) % 2 == 1) = true := by simp; omega
  clear h hs;go_enter func134, ntmps134;go_wp2;go_ret;exact ⟨bP (by rw [HS.out, HE.out]; exact HX), rfl⟩
 ·have hs : stp r = r / 2 := by unfold stp; rw [if_neg h]
  have HS := ae hs;have hb : ((r : Int) % 2 == 1) = false := by simp; omega
  clear h hs;go_enter func134, ntmps134;go_wp2;go_ret;exact ⟨bP (by rw [HS.out, HE.out]), rfl⟩
theorem sq (n r : Nat) : steps (n + 1) r = stp (steps n r) := by rw [oR]; rfl
theorem rL (r c : Nat) (w : World) (hr : r < 4294967296) (hc : c < 256) :
  Calls prog 122 #[.int .u32 r, .int .u8 c] w fun e w' => e = .returned (.int .u32 (tak r c)) /\ w = w' := by
 have hx := u32_xor_nat r c hr (by omega);have hlt : r ^^^ c < 4294967296 := mZ hr (by omega);go_enter func122, ntmps122;go_wp2;have HX := ae hx;clear hx
 go_loop [0, 5] (fun x i => ∃ j : Nat, j <= 8 /\ i = .int .i64 j /\ x = .int .u32 (steps j (r ^^^ c))) (fun _ i => 8 - (intOf i).toNat)
 case atStart => exact ⟨0, by omega, rfl, by first | rfl | rw [HX.out]; rfl⟩
 case round =>
  obtain ⟨j, hj, rfl, rfl⟩ := hrel;have hl2 := nM j hlt;by_cases h8 : j < 8
  ·go_wp2_with fail;refine (rz (steps j (r ^^^ c)) _ hl2).mono ?_;rintro e w' ⟨rfl, rfl⟩;go_wp2
   go_round
   case rel => exact ⟨j + 1, by omega, by go_num, by rw [sq]⟩
   case measure => simp [intOf]; omega
  ·have h : j = 8 := by omega
   subst h;go_wp2;go_ret;exact ⟨rfl, rfl⟩
theorem adE : prog.globalNamed "ashlar/crc.halves" = some 0 := by kernel_rfl
theorem yJ : (prog.globals[0]?).map (·.type) = some 183 := by kernel_rfl
theorem yh : prog.cellsOf 183 = 16 := by kernel_rfl
theorem xu : prog.cellsOf 59 = 1 := by kernel_rfl
def mx : List Int := [0, 274646895, 549293790, 820201905, 1098587580, 1361435347, 1640403810, 1905808397, 2197175160, 2460548119, 2722870694, 2987750089, 3280807620, 3553878443, 3811616794, 4084100981]
theorem abo {W : World} {l : List (String × DataW Unit)} (hl : laidMetH prog l W) (hf : l.filter (fun x => x.1 == "ashlar/crc.halves") = [("ashlar/crc.halves", Rows.laid_ashlar_crc_halves)] := by kernel_rfl) : Tab W := by
 have h := laidMetH.filter (fun x => x.1 == "ashlar/crc.halves") hl;rw [hf] at h;have h1 : Lib.TabIs prog W "ashlar/crc.halves" .u32 mx :=
  Lib.tabIs_of_head (rest := []) adE yJ underlying183 underlying59 xu yh h
 intro i hi;rw [h1.cell adE i (by simpa [mx] using hi)];have : ∀ i, i < 16 -> mx.getD i 0 = (tab i : Int) := by decide
 rw [this i hi]
def acn (w : World) (g : Nat) (cs : Array Value) : World :=
 { w with heap := w.heap.modify g fun
   |.cells _ t frozen => .cells cs t frozen
   |o => o }
noncomputable def adn (w : World) : World := w
noncomputable def adJ (w : World) : World := w
noncomputable def ac3 (os : Os) : World :=
 adJ (adn (acn (World.holding prog os ⟨#[], #[], []⟩) 0 (mx.map fun z => Value.int .u32 z).toArray))
section
variable {ρ : Operand -> Value} {o : Oper} {x y : Operand} {w : World} {t r : TypeId} {i : Nat} {p q : Value}
theorem wi (ho : o.op = .move x) : (execOp ρ o).run prog w = .ok (.value (ρ x)) w := by
 unfold execOp;simp only [ho, Sem.run_pure]
theorem qW (ho : o.op = .assign x) : (execOp ρ o).run prog w = .ok (.value (ρ x)) w := by
 unfold execOp;simp only [ho, Sem.run_pure]
theorem wF {f : FuncId} {args : List Operand} {ats : Array TypeId} {a : Act} (hf : ∀ args w, (callFunc f args).run prog w = .ok (.enter f args) w) (ho : o.op = .call { callee := .value (.func f), args := args.toArray, argTypes := ats }) :
  (execOp a.eval o).run prog w = .ok (.enter f (args.map a.eval).toArray) w := by
 unfold execOp;simp [ho, resolve, Deferred.ofValue, Act.eval, invoke, hf]
theorem ax (ho : o.op = .fieldAddr t x i) (hx : ρ x = p) (h : (Instr.fieldAt t p i).run prog w = .ok q w) : (execOp ρ o).run prog w = .ok (.value q) w := by
 unfold execOp;simp only [ho, hx, Sem.run_bind, h, Result.andThen_ok, Sem.run_pure]
theorem aE (ho : o.op = .load t x) (hx : ρ x = p) (h : (Instr.loadAt t p).run prog w = .ok q w) : (execOp ρ o).run prog w = .ok (.value q) w := by
 unfold execOp;simp only [ho, hx, Sem.run_bind, h, Result.andThen_ok, Sem.run_pure]
theorem cD (ho : o.op = .indexAddr t x y) {u : Value} (hx : ρ x = p) (hy : ρ y = u) (h : (Instr.indexAt t p u).run prog w = .ok q w) : (execOp ρ o).run prog w = .ok (.value q) w := by
 unfold execOp;simp only [ho, hx, hy, Sem.run_bind, h, Result.andThen_ok, Sem.run_pure]
theorem cE {b off : Nat} (ho : o.op = .nilCheck x) (hx : ρ x = .pointer (some ⟨b, off, none⟩)) : (execOp ρ o).run prog w = .ok (.value (.pointer (some ⟨b, off, none⟩))) w := by
 unfold execOp;simp only [ho, hx, Sem.run_pure]
theorem gB {u : Value} {w' : World} (ho : o.op = .store t x y) (hx : ρ x = p) (hy : ρ y = u) (h : (Instr.storeAt t p u).run prog w = .ok () w') : (execOp ρ o).run prog w = .ok .skip w' := by
 unfold execOp;simp only [ho, hx, hy, Sem.run_bind, h, Result.andThen_ok, Sem.run_pure]
theorem bU {a b c : Int} (ho : o.op = .binOp .add t x y r) (hx : ρ x = .int .i64 a) (hy : ρ y = .int .i64 b) (h : IntKind.i64.wrap (a + b) = c) : (execOp ρ o).run prog w = .ok (.value (.int .i64 c)) w := by
 unfold execOp;simp [ho, hx, hy, eqGuard, binOp, Op.intArith, h]
theorem gr {a b c : Int} (ho : o.op = .binOp .sub t x y r) (hx : ρ x = .int .i64 a) (hy : ρ y = .int .i64 b) (h : IntKind.i64.wrap (a - b) = c) : (execOp ρ o).run prog w = .ok (.value (.int .i64 c)) w := by
 unfold execOp;simp [ho, hx, hy, eqGuard, binOp, Op.intArith, h]
end
section
variable {P : Program} {ops : Array Oper} {rest : List Oper} {o : Oper} {a : Act} {w w' : World} {Q : Exit -> Act -> World -> Prop} {v : Value}
theorem av (hw : Region.wanted o (yielded ops a.tmps) = true) (h : (execOp a.eval o).run P w = .ok (.value v) w') (hr : wpList P ops Q rest (a.put o.dst v) w') : wpList P ops Q (o :: rest) a w := by
 refine wpList_step fun K hK => ?_
 rw [if_pos hw];unfold Oper.wp;rw [h];exact hK _ _ hr
theorem aew {l0 l1 : List Value} {ds0 : List Deferred} {i0 : Nat} (h : (execOp (Act.mk l0.toArray ds0).eval o).run P w = .ok (.value v) w') (hk : wpList P ops Q rest ⟨l1.toArray, ds0⟩ w') (hd : o.dst = some i0 := by exact rfl) (hl : l0.set i0 v = l1 := by simp only [ah] <;> rfl) (hw : Region.wanted o (yielded ops l0.toArray) = true := by exact aek) : wpList P ops Q (o :: rest) ⟨l0.toArray, ds0⟩ w := av hw h (by have e : Act.put (Act.mk l0.toArray ds0) o.dst v = ⟨l1.toArray, ds0⟩ := (by rw [hd, <- hl]; show Act.mk (l0.toArray.setIfInBounds i0 v) ds0 = _; rw [List.setIfInBounds_toArray]); rw [e]; exact hk)
theorem aeq {l0 l1 : List Value} {ds0 : List Deferred} {i0 : Nat} (hw : Region.wanted o (yielded ops l0.toArray) = true) (h : (execOp (Act.mk l0.toArray ds0).eval o).run P w = .ok (.value v) w') (hk : wpList P ops Q rest ⟨l1.toArray, ds0⟩ w') (hd : o.dst = some i0 := by exact rfl) (hl : l0.set i0 v = l1 := by simp only [ah] <;> rfl) : wpList P ops Q (o :: rest) ⟨l0.toArray, ds0⟩ w := av hw h (by have e : Act.put (Act.mk l0.toArray ds0) o.dst v = ⟨l1.toArray, ds0⟩ := (by rw [hd, <- hl]; show Act.mk (l0.toArray.setIfInBounds i0 v) ds0 = _; rw [List.setIfInBounds_toArray]); rw [e]; exact hk)
theorem bj (hw : Region.wanted o (yielded ops a.tmps) = true) (h : (execOp a.eval o).run P w = .ok .skip w') (hr : wpList P ops Q rest (a.put o.dst undef) w') : wpList P ops Q (o :: rest) a w := by
 refine wpList_step fun K hK => ?_
 rw [if_pos hw];unfold Oper.wp;rw [h];exact hK _ _ hr
end
section
variable {P : Program} {ops : Array Oper} {rest : List Oper} {o : Oper} {a : Act} {w w' : World} {Q : Exit -> Act -> World -> Prop} {v : Value}
theorem au (hg : o.guard = none) (h : (execOp a.eval o).run P w = .ok (.value v) w') (hr : wpList P ops Q rest (a.put o.dst v) w') : wpList P ops Q (o :: rest) a w := av (by unfold Region.wanted; rw [hg]) h hr
theorem aep {l0 l1 : List Value} {ds0 : List Deferred} {i0 : Nat} (h : (execOp (Act.mk l0.toArray ds0).eval o).run P w = .ok (.value v) w') (hk : wpList P ops Q rest ⟨l1.toArray, ds0⟩ w') (hd : o.dst = some i0 := by exact rfl) (hl : l0.set i0 v = l1 := by simp only [ah] <;> rfl) (hg : o.guard = none := by exact rfl) : wpList P ops Q (o :: rest) ⟨l0.toArray, ds0⟩ w := au hg h (by have e : Act.put (Act.mk l0.toArray ds0) o.dst v = ⟨l1.toArray, ds0⟩ := (by rw [hd, <- hl]; show Act.mk (l0.toArray.setIfInBounds i0 v) ds0 = _; rw [List.setIfInBounds_toArray]); rw [e]; exact hk)
theorem az (hg : o.guard = none) (h : (execOp a.eval o).run P w = .ok .skip w') (hr : wpList P ops Q rest (a.put o.dst undef) w') : wpList P ops Q (o :: rest) a w := bj (by unfold Region.wanted; rw [hg]) h hr
theorem ay {f : FuncId} {vs : Array Value} (hw : Region.wanted o (yielded ops a.tmps) = true) (h : (execOp a.eval o).run P w = .ok (.enter f vs) w) (hc : Calls P f vs w fun e w' => ∃ v, e = .returned v /\ wpList P ops Q rest (a.put o.dst v) w') : wpList P ops Q (o :: rest) a w := by
 refine wpList_step fun K hK => ?_
 rw [if_pos hw];unfold Oper.wp;rw [h];exact hc.mono fun e w'' ⟨v, he, hk⟩ => by subst he; exact hK _ _ hk
end
theorem cj {B : Nat} {id : Nat} {Q : Exit -> Act -> World -> Prop} {a : Act} {w : World} {l : List Oper} (hB : Region.lexB .any l.toArray = true)
  (h : wpQuiet prog l.toArray (Below B w) (fun a' => ∀ w', Below B w w' -> Q .normal a' w') l a) : (Code.region id l.toArray true).wp prog Q a w :=
 wp_region_quiet (C := Below B w) (by kernel_rfl) hB (bd (Below.refl B w)) (by simpa using h)
section
variable {P : Program} {ops : Array Oper} {C : World -> Prop} {Q : Act -> Prop} {a : Act} {o : Oper} {rest : List Oper} {v : Value}
theorem zF (hw : Region.wanted o (yielded ops a.tmps) = false) (h : wpQuiet P ops C Q rest (a.put o.dst undef)) : wpQuiet P ops C Q (o :: rest) a :=
 wpQuiet_step fun K hK => by rw [if_neg (by rw [hw]; exact Bool.false_ne_true)]; exact hK _ h
theorem bH (hw : Region.wanted o (yielded ops a.tmps) = true) (h : ∀ w, C w -> (execOp a.eval o).run P w = .ok (.value v) w) (hr : wpQuiet P ops C Q rest (a.put o.dst v)) : wpQuiet P ops C Q (o :: rest) a :=
 wpQuiet_step fun K hK => by
  rw [if_pos hw];exact ⟨v, fun w hC => by unfold Oper.quietAt; rw [h w hC]; exact ⟨rfl, rfl⟩, hK _ hr⟩
theorem aey {l0 l1 : List Value} {ds0 : List Deferred} {i0 : Nat} (h : ∀ w, C w -> (execOp (Act.mk l0.toArray ds0).eval o).run P w = .ok (.value v) w) (hk : wpQuiet P ops C Q rest ⟨l1.toArray, ds0⟩) (hd : o.dst = some i0 := by exact rfl) (hl : l0.set i0 v = l1 := by simp only [ah] <;> rfl) (hw : Region.wanted o (yielded ops l0.toArray) = true := by exact aek) : wpQuiet P ops C Q (o :: rest) ⟨l0.toArray, ds0⟩ := bH hw h (by have e : Act.put (Act.mk l0.toArray ds0) o.dst v = ⟨l1.toArray, ds0⟩ := (by rw [hd, <- hl]; show Act.mk (l0.toArray.setIfInBounds i0 v) ds0 = _; rw [List.setIfInBounds_toArray]); rw [e]; exact hk)
theorem aex {l0 l1 : List Value} {ds0 : List Deferred} {i0 : Nat} (h : ∀ w, C w -> (execOp (Act.mk l0.toArray ds0).eval o).run P w = .ok (.value v) w) (hk : wpQuiet P ops C Q rest ⟨l1.toArray, ds0⟩) (hd : o.dst = some i0 := by exact rfl) (hl : l0.set i0 v = l1 := by simp only [ah] <;> rfl) (hw : Region.wanted o (yielded ops l0.toArray) = true := by exact rfl) : wpQuiet P ops C Q (o :: rest) ⟨l0.toArray, ds0⟩ := bH hw h (by have e : Act.put (Act.mk l0.toArray ds0) o.dst v = ⟨l1.toArray, ds0⟩ := (by rw [hd, <- hl]; show Act.mk (l0.toArray.setIfInBounds i0 v) ds0 = _; rw [List.setIfInBounds_toArray]); rw [e]; exact hk)
theorem dd {f : FuncId} {vs : Array Value} (hw : Region.wanted o (yielded ops a.tmps) = true) (h : ∀ w, (execOp a.eval o).run P w = .ok (.enter f vs) w) (hc : ∀ w, C w -> Calls P f vs w fun e w'' => e = .returned v /\ C w'') (hr : wpQuiet P ops C Q rest (a.put o.dst v)) : wpQuiet P ops C Q (o :: rest) a :=
 wpQuiet_step fun K hK => by
  rw [if_pos hw];exact ⟨v, fun w hC => by unfold Oper.quietAt; rw [h w]; exact ⟨rfl, hc w hC⟩, hK _ hr⟩
end
section
variable {P : Program} {ops : Array Oper} {w : World} {Q : Act -> Prop} {a : Act} {o : Oper} {rest : List Oper} {v : Value}
theorem aM (hw : Region.wanted o (yielded ops a.tmps) = true) (h : (execOp a.eval o).run P w = .ok (.value v) w) (hr : wpStill P ops w Q rest (a.put o.dst v)) : wpStill P ops w Q (o :: rest) a :=
 wpStill_step fun K hK => by
  rw [if_pos hw];unfold Oper.still;rw [h, Oper.stillUpon_value];exact hK _ hr
end
section
variable {P : Program} {md : Region.Mode} {l : List Oper} {Q : Exit -> Act -> World -> Prop} {S : World -> Prop} {fuel : Nat} {listed : Array Bool} {a : Act} {w : World} {o : Oper} {v : Value}
theorem aO (i : Nat) (hi : l[i]? = some o) (hs : Region.noSelect l.toArray = true) (hf : Region.free md l.toArray listed i = true) (hr : (Region.ready md l.toArray listed).contains i = true)
  (hw : Region.wanted o (yielded l.toArray a.tmps) = true) (h : ∀ w, S w -> (execOp a.eval o).run P w = .ok (.value v) w) (hQ : ∀ c a w, Q (.panic c) (a.put o.dst v) w -> Q (.panic c) a w) (hS : S w)
  (hk : wpAnyH P md l.toArray Q S fuel (listed.setIfInBounds i true) (a.put o.dst v) w) : wpAnyH P md l.toArray Q S (fuel + 1) listed a w :=
 wpAnyH_take (by simpa using hi) hs hf hr hQ (.inl ⟨hw, h⟩) hS hk
theorem ael (i : Nat) (hi : l[i]? = some o) (h : ∀ w, S w -> (execOp a.eval o).run P w = .ok (.value v) w) (hS : S w) (hk : wpAnyH P md l.toArray Q S fuel (listed.setIfInBounds i true) (a.put o.dst v) w) (hs : Region.noSelect l.toArray = true := by kernel_rfl) (hf : Region.free md l.toArray listed i = true := by kernel_rfl) (hr : (Region.ready md l.toArray listed).contains i = true := by kernel_rfl) (hw : Region.wanted o (yielded l.toArray a.tmps) = true := by exact rfl) (hQ : ∀ c a w, Q (.panic c) (a.put o.dst v) w -> Q (.panic c) a w := by exact fun _ _ _ h => h) : wpAnyH P md l.toArray Q S (fuel + 1) listed a w := aO i hi hs hf hr hw h hQ hS hk
theorem aes {l0 l1 : List Value} {ds0 : List Deferred} {i0 : Nat} (i : Nat) (hi : l[i]? = some o) (h : ∀ w, S w -> (execOp (Act.mk l0.toArray ds0).eval o).run P w = .ok (.value v) w) (hS : S w) (hk : wpAnyH P md l.toArray Q S fuel (listed.setIfInBounds i true) ⟨l1.toArray, ds0⟩ w) (hd : o.dst = some i0 := by exact rfl) (hl : l0.set i0 v = l1 := by simp only [ah] <;> rfl) (hs : Region.noSelect l.toArray = true := by kernel_rfl) (hf : Region.free md l.toArray listed i = true := by kernel_rfl) (hr : (Region.ready md l.toArray listed).contains i = true := by kernel_rfl) (hw : Region.wanted o (yielded l.toArray l0.toArray) = true := by exact rfl) (hQ : ∀ c a w, Q (.panic c) (a.put o.dst v) w -> Q (.panic c) a w := by exact fun _ _ _ h => h) : wpAnyH P md l.toArray Q S (fuel + 1) listed ⟨l0.toArray, ds0⟩ w := ael i hi h hS (by have e : Act.put (Act.mk l0.toArray ds0) o.dst v = ⟨l1.toArray, ds0⟩ := (by rw [hd, <- hl]; show Act.mk (l0.toArray.setIfInBounds i0 v) ds0 = _; rw [List.setIfInBounds_toArray]); rw [e]; exact hk) hs hf hr hw hQ
theorem fx (i : Nat) {f : FuncId} {vs : Array Value} (hi : l[i]? = some o) (hr : Region.ready md l.toArray listed = [i]) (hw : Region.wanted o (yielded l.toArray a.tmps) = true) (h : (execOp a.eval o).run P w = .ok (.enter f vs) w)
  (hc : Calls P f vs w fun e w' => ∃ v, e = .returned v /\ S w' /\ wpAnyH P md l.toArray Q S fuel (listed.setIfInBounds i true) (a.put o.dst v) w') : wpAnyH P md l.toArray Q S (fuel + 1) listed a w :=
 wpAnyH_all hr (by simp) fun j hj => by
  obtain rfl : j = i := by simpa using hj
  unfold wpOp;simp only [List.getElem?_toArray, hi, hw, if_true];refine .inl ?_;unfold Oper.wp;rw [h];exact hc.mono fun e w' ⟨v, he, hk⟩ => by subst he; exact hk
theorem gp (i : Nat) {w' : World} (hi : l[i]? = some o) (hr : Region.ready md l.toArray listed = [i]) (hw : Region.wanted o (yielded l.toArray a.tmps) = true) (h : (execOp a.eval o).run P w = .ok .skip w')
  (hS : S w') (hk : wpAnyH P md l.toArray Q S fuel (listed.setIfInBounds i true) (a.put o.dst undef) w') : wpAnyH P md l.toArray Q S (fuel + 1) listed a w :=
 wpAnyH_all hr (by simp) fun j hj => by
  obtain rfl : j = i := by simpa using hj
  unfold wpOp;simp only [List.getElem?_toArray, hi, hw, if_true];refine .inl ?_;unfold Oper.wp;rw [h];exact ⟨hS, hk⟩
end
section
variable {ρ : Operand -> Value} {o : Oper} {x y z : Operand} {w : World} {t r : TypeId} {k : IntKind}
theorem qC (ho : o.op = .pick x y z) (hx : ρ x = .bool true) : (execOp ρ o).run prog w = .ok (.value (ρ y)) w := by
 unfold execOp;simp [ho, hx, asBool]
theorem qN (ho : o.op = .pick x y z) (hx : ρ x = .bool false) : (execOp ρ o).run prog w = .ok (.value (ρ z)) w := by
 unfold execOp;simp [ho, hx, asBool]
theorem rD (b : Bool) (ho : o.op = .unOp .not t x) (hx : ρ x = .bool b) : (execOp ρ o).run prog w = .ok (.value (.bool (!b))) w := by
 unfold execOp;simp [ho, hx, Op.unary]
theorem aH {a b : Int} (c : Bool) (ho : o.op = .binOp .eql t x y r) (hx : ρ x = .int k a) (hy : ρ y = .int k b) (h : (a == b) = c) : (execOp ρ o).run prog w = .ok (.value (.bool c)) w := by
 unfold execOp;simp [ho, hx, hy, eqGuard, binOp, Op.intCmp, h]
theorem aI {a b : Int} (c : Bool) (ho : o.op = .binOp .neq t x y r) (hx : ρ x = .int k a) (hy : ρ y = .int k b) (h : (a != b) = c) : (execOp ρ o).run prog w = .ok (.value (.bool c)) w := by
 unfold execOp;simp [ho, hx, hy, eqGuard, binOp, Op.intCmp, h]
end
theorem ev {ts : List Value} {ds : List Deferred} {d : Nat} {v : Value} (h : ts[d]? = some v) : (Act.mk ts.toArray ds).eval (.tmp d) = v := by
 simp [Act.eval, h]
theorem aez {ts : List Value} {ds : List Deferred} {d : Nat} {v : Value} (h : ts[d]? = some v := by exact rfl) : (Act.mk ts.toArray ds).eval (.tmp d) = v := ev h
theorem evk {a : Act} {v : Value} : a.eval (.const v) = v := rfl
theorem evc {ρ : Operand -> Value} {x : Operand} {xs : List Operand} {v : Value} {vs : List Value} (h : ρ x = v) (hs : xs.map ρ = vs) : (x :: xs).map ρ = v :: vs := by
 rw [List.map_cons, h, hs]
theorem evn {ρ : Operand -> Value} : ([] : List Operand).map ρ = [] := rfl
theorem aw {l : List Oper} {ts : List Value} {o oj : Oper} {j d : Nat} {b : Bool} (hg : o.guard = some (j, b)) (hj : l[j]? = some oj) (hd : oj.dst = some d) (hv : ts[d]? = some (.bool b)) : Region.wanted o (yielded l.toArray ts.toArray) = true := by
 unfold Region.wanted yielded;simp [hg, hj, hd, hv]
theorem aek {l : List Oper} {ts : List Value} {o oj : Oper} {j d : Nat} {b : Bool} (hg : o.guard = some (j, b) := by exact rfl) (hj : l[j]? = some oj := by exact rfl) (hd : oj.dst = some d := by exact rfl) (hv : ts[d]? = some (.bool b) := by exact rfl) : Region.wanted o (yielded l.toArray ts.toArray) = true := aw hg hj hd hv
section
variable {ρ : Operand -> Value} {o : Oper} {x y z : Operand} {w : World} {v : Value}
theorem aJ (ho : o.op = .move x) (hx : ρ x = v) : (execOp ρ o).run prog w = .ok (.value v) w := by rw [wi ho, hx]
theorem dp (ho : o.op = .assign x) (hx : ρ x = v) : (execOp ρ o).run prog w = .ok (.value v) w := by rw [qW ho, hx]
theorem zW (ho : o.op = .pick x y z) (hx : ρ x = .bool true) (hy : ρ y = v) : (execOp ρ o).run prog w = .ok (.value v) w := by rw [qC ho hx, hy]
theorem zp (ho : o.op = .pick x y z) (hx : ρ x = .bool false) (hz : ρ z = v) : (execOp ρ o).run prog w = .ok (.value v) w := by rw [qN ho hx, hz]
theorem aC {f : FuncId} {args : List Operand} {vs : List Value} {ats : Array TypeId} {a : Act} (hf : ∀ args w, (callFunc f args).run prog w = .ok (.enter f args) w) (ho : o.op = .call { callee := .value (.func f), args := args.toArray, argTypes := ats }) (hv : args.map a.eval = vs) :
  (execOp a.eval o).run prog w = .ok (.enter f vs.toArray) w := by rw [wF hf ho, hv]
end
theorem cN {f : FuncId} {vs : Array Value} {w0 : World} {B : Nat} {v : Value} (hB : B <= w0.heap.size) (h : ∀ w', Below B w0 w' -> Calls prog f vs w' fun e w'' => e = .returned v /\ Below w'.heap.size w' w'') :
  ∀ w', Below B w0 w' -> Calls prog f vs w' fun e w'' => e = .returned v /\ Below B w0 w'' :=
 fun w' hw => (h w' hw).mono fun _ _ hh => ⟨hh.1, hw.trans (hh.2.mono (ap hB hw.size))⟩
section
variable {ρ : Operand -> Value} {o : Oper} {x : Operand} {w : World}
theorem i5 {i : Nat} {vs : List Value} {v : Value} (ho : o.op = .extract x i) (hx : ρ x = .tuple vs.toArray) (hv : vs[i]? = some v) : (execOp ρ o).run prog w = .ok (.value v) w := by
 have h : (Instr.extract (.tuple vs.toArray) i).run prog w = .ok v w := by simp [Instr.extract, hv]
 unfold execOp;simp only [ho, hx, Sem.run_bind, h, Result.andThen_ok, Sem.run_pure]
theorem aeM {l0 l1 : List Value} {ds0 : List Deferred} {i0 : Nat} {md : Region.Mode} {l : List Oper} {Q : Exit -> Act -> World -> Prop} {S : World -> Prop} {fuel : Nat} {listed : Array Bool} {o : Oper} {w : World} {x : Operand} {v : Value} (i' : Nat) (hi : l[i']? = some o) (hS : S w) (hk : wpAnyH prog md l.toArray Q S fuel (listed.setIfInBounds i' true) ⟨l1.toArray, ds0⟩ w) (ho : o.op = .move x := by exact rfl) (hx : (Act.mk l0.toArray ds0).eval x = v := by exact ev rfl) (hd : o.dst = some i0 := by exact rfl) (hl : l0.set i0 v = l1 := by simp only [ah] <;> rfl) (hs : Region.noSelect l.toArray = true := by kernel_rfl) (hf : Region.free md l.toArray listed i' = true := by kernel_rfl) (hr : (Region.ready md l.toArray listed).contains i' = true := by kernel_rfl) (hw : Region.wanted o (yielded l.toArray l0.toArray) = true := by exact rfl) (hQ : ∀ c a w, Q (.panic c) (a.put o.dst v) w -> Q (.panic c) a w := by exact fun _ _ _ h => h) : wpAnyH prog md l.toArray Q S (fuel + 1) listed ⟨l0.toArray, ds0⟩ w := aes i' hi (fun w hw => aJ ho hx) hS hk hd hl hs hf hr hw hQ
theorem aeN {l0 l1 : List Value} {ds0 : List Deferred} {i0 : Nat} {md : Region.Mode} {l : List Oper} {Q : Exit -> Act -> World -> Prop} {S : World -> Prop} {fuel : Nat} {listed : Array Bool} {o : Oper} {w : World} {x : Operand} {v : Value} (i' : Nat) (hi : l[i']? = some o) (hS : S w) (hk : wpAnyH prog md l.toArray Q S fuel (listed.setIfInBounds i' true) ⟨l1.toArray, ds0⟩ w) (ho : o.op = .assign x := by exact rfl) (hx : (Act.mk l0.toArray ds0).eval x = v := by exact ev rfl) (hd : o.dst = some i0 := by exact rfl) (hl : l0.set i0 v = l1 := by simp only [ah] <;> rfl) (hs : Region.noSelect l.toArray = true := by kernel_rfl) (hf : Region.free md l.toArray listed i' = true := by kernel_rfl) (hr : (Region.ready md l.toArray listed).contains i' = true := by kernel_rfl) (hw : Region.wanted o (yielded l.toArray l0.toArray) = true := by exact rfl) (hQ : ∀ c a w, Q (.panic c) (a.put o.dst v) w -> Q (.panic c) a w := by exact fun _ _ _ h => h) : wpAnyH prog md l.toArray Q S (fuel + 1) listed ⟨l0.toArray, ds0⟩ w := aes i' hi (fun w hw => dp ho hx) hS hk hd hl hs hf hr hw hQ
theorem aeO {l0 l1 : List Value} {ds0 : List Deferred} {i0 : Nat} {md : Region.Mode} {l : List Oper} {Q : Exit -> Act -> World -> Prop} {S : World -> Prop} {fuel : Nat} {listed : Array Bool} {o : Oper} {w : World} {x : Operand} {b off : Nat} (i' : Nat) (hi : l[i']? = some o) (hS : S w) (hk : wpAnyH prog md l.toArray Q S fuel (listed.setIfInBounds i' true) ⟨l1.toArray, ds0⟩ w) (ho : o.op = .nilCheck x := by exact rfl) (hx : (Act.mk l0.toArray ds0).eval x = .pointer (some ⟨b, off, none⟩) := by exact ev rfl) (hd : o.dst = some i0 := by exact rfl) (hl : l0.set i0 (.pointer (some ⟨b, off, none⟩)) = l1 := by simp only [ah] <;> rfl) (hs : Region.noSelect l.toArray = true := by kernel_rfl) (hf : Region.free md l.toArray listed i' = true := by kernel_rfl) (hr : (Region.ready md l.toArray listed).contains i' = true := by kernel_rfl) (hw : Region.wanted o (yielded l.toArray l0.toArray) = true := by exact rfl) (hQ : ∀ c a w, Q (.panic c) (a.put o.dst (.pointer (some ⟨b, off, none⟩))) w -> Q (.panic c) a w := by exact fun _ _ _ h => h) : wpAnyH prog md l.toArray Q S (fuel + 1) listed ⟨l0.toArray, ds0⟩ w := aes i' hi (fun w hw => cE ho hx) hS hk hd hl hs hf hr hw hQ
theorem aeP {l0 l1 : List Value} {ds0 : List Deferred} {i0 : Nat} {md : Region.Mode} {l : List Oper} {Q : Exit -> Act -> World -> Prop} {S : World -> Prop} {fuel : Nat} {listed : Array Bool} {o : Oper} {w : World} {x : Operand} {i : Nat} {vs : List Value} {v : Value} (i' : Nat) (hi : l[i']? = some o) (hS : S w) (hk : wpAnyH prog md l.toArray Q S fuel (listed.setIfInBounds i' true) ⟨l1.toArray, ds0⟩ w) (ho : o.op = .extract x i := by exact rfl) (hx : (Act.mk l0.toArray ds0).eval x = .tuple vs.toArray := by exact ev rfl) (hv : vs[i]? = some v := by exact rfl) (hd : o.dst = some i0 := by exact rfl) (hl : l0.set i0 v = l1 := by simp only [ah] <;> rfl) (hs : Region.noSelect l.toArray = true := by kernel_rfl) (hf : Region.free md l.toArray listed i' = true := by kernel_rfl) (hr : (Region.ready md l.toArray listed).contains i' = true := by kernel_rfl) (hw : Region.wanted o (yielded l.toArray l0.toArray) = true := by exact rfl) (hQ : ∀ c a w, Q (.panic c) (a.put o.dst v) w -> Q (.panic c) a w := by exact fun _ _ _ h => h) : wpAnyH prog md l.toArray Q S (fuel + 1) listed ⟨l0.toArray, ds0⟩ w := aes i' hi (fun w hw => i5 ho hx hv) hS hk hd hl hs hf hr hw hQ
end
set_option linter.unusedSimpArgs false
def evL (ts : List Value) : Operand -> Option Value
 |.tmp d => ts[d]?
 |.const v => some v
 |_ => none
def acU (l : List Oper) (ts : List Value) (o : Oper) : Option Bool :=
 match o.guard with
 |none => some true
 |some (j, b) => match l[j]? with
  |some oj => match oj.dst with
   |some d => match ts[d]? with
    |some (.bool c) => match c, b with
     |true, true => some true
     |false, false => some true
     |true, false => some false
     |false, true => some false
    |some (.tuple _) => some false
    |_ => none
   |none => none
  |none => none
def evO (ts : List Value) : Op -> Option Value
 |.move x => evL ts x
 |.assign x => evL ts x
 |.nilCheck x => match evL ts x with
  |some (.pointer (some ⟨b, off, none⟩)) => some (.pointer (some ⟨b, off, none⟩))
  |_ => none
 |.extract x i => match evL ts x with
  |some (.tuple vs) => vs.toList[i]?
  |_ => none
 |.pick c x y => match evL ts c with
  |some (.bool true) => evL ts x
  |some (.bool false) => evL ts y
  |_ => none
 |.unOp .not _ x => match evL ts x with
  |some (.bool true) => some (.bool false)
  |some (.bool false) => some (.bool true)
  |_ => none
 |_ => none
def qj (d : Option Tmp) (v : Value) (ts : List Value) : List Value := match d with
 |some i => ts.set i v
 |none => ts
def mU (l0 : List Oper) : Nat -> List Oper -> List Value -> Option (List Oper × List Value)
 |0, l, ts => some (l, ts)
 |n + 1, o :: l, ts => match acU l0 ts o with
  |some true => match evO ts o.op with
   |some v => mU l0 n l (qj o.dst v ts)
   |none => none
  |some false => mU l0 n l (qj o.dst undef ts)
  |none => none
 |_ + 1, [], _ => none
theorem gH {ts : List Value} {ds : List Deferred} {x : Operand} {v : Value} (h : evL ts x = some v) : (Act.mk ts.toArray ds).eval x = v := by
 cases x with
 |tmp d => exact ev h
 |const u => exact Option.some.inj h
 |global g => cases h
 |func f => cases h
theorem mp {l : List Oper} {ts : List Value} {o : Oper} {b : Bool} (h : acU l ts o = some b) : Region.wanted o (yielded l.toArray ts.toArray) = b := by
 unfold acU at h;unfold Region.wanted yielded
 split at h
 ·rename_i hg
  rw [hg];exact Option.some.inj h
 ·rename_i j b' hg
  rw [hg]
  split at h
  ·rename_i oj hj
   split at h
   ·rename_i d hd
    split at h
    ·rename_i c hv
     have e : ((l.toArray[j]?).bind (·.dst)).bind (ts.toArray[·]?) = some (.bool c) := by simp [hj, hd, hv]
     simp only [e];cases c <;> cases b' <;> simp at h <;> subst h <;> rfl
    ·rename_i vs hv
     have e : ((l.toArray[j]?).bind (·.dst)).bind (ts.toArray[·]?) = some (.tuple vs) := by simp [hj, hd, hv]
     simp only [e];cases b' <;> simp at h <;> subst h <;> rfl
    ·cases h
   ·cases h
  ·cases h
theorem wZ {ts : List Value} {ds : List Deferred} {o : Oper} {v : Value} {w : World} (h : evO ts o.op = some v) : (execOp (Act.mk ts.toArray ds).eval o).run prog w = .ok (.value v) w := by
 unfold evO at h
 split at h
 ·rename_i x ho; exact aJ ho (gH h)
 ·rename_i x ho; exact dp ho (gH h)
 ·rename_i x ho
  split at h
  ·rename_i b off hx
   obtain rfl := Option.some.inj h;exact cE ho (gH hx)
  ·cases h
 ·rename_i x i ho
  split at h
  ·rename_i vs hx
   exact i5 (ρ := (Act.mk ts.toArray ds).eval) (vs := vs.toList) ho (by rw [gH hx]) h
  ·cases h
 ·rename_i c x y ho
  split at h
  ·rename_i hx; exact zW ho (gH hx) (gH h)
  ·rename_i hx; exact zp ho (gH hx) (gH h)
  ·cases h
 ·rename_i t x ho
  split at h
  ·rename_i hx; obtain rfl := Option.some.inj h; exact rD true ho (gH hx)
  ·rename_i hx; obtain rfl := Option.some.inj h; exact rD false ho (gH hx)
  ·cases h
 ·cases h
theorem mj {d : Option Tmp} {v : Value} {ts : List Value} {ds : List Deferred} : (Act.mk ts.toArray ds).put d v = ⟨(qj d v ts).toArray, ds⟩ := by
 cases d with
 |none => rfl
 |some i => show Act.mk (ts.toArray.setIfInBounds i v) ds = _; rw [List.setIfInBounds_toArray]; rfl
theorem fA {l0 : List Oper} {Q : Exit -> Act -> World -> Prop} {ds : List Deferred} {w : World} : ∀ (n : Nat) (l : List Oper) (ts : List Value) (l' : List Oper) (ts' : List Value), mU l0 n l ts = some (l', ts') -> wpList prog l0.toArray Q l' ⟨ts'.toArray, ds⟩ w -> wpList prog l0.toArray Q l ⟨ts.toArray, ds⟩ w
 |0, l, ts, l', ts', h, hk => by cases h; exact hk
 |n + 1, [], ts, l', ts', h, hk => by cases h
 |n + 1, o :: l, ts, l', ts', h, hk => by
  unfold mU at h
  split at h
  ·rename_i hw
   split at h
   ·rename_i v hv
    exact av (mp hw) (wZ hv) (by rw [mj]; exact fA n l _ l' ts' h hk)
   ·cases h
  ·rename_i hw
   refine wpList_step fun K hK => ?_
   rw [if_neg (by rw [show Region.wanted o (yielded l0.toArray (Act.mk ts.toArray ds).tmps) = false from mp hw]; exact Bool.false_ne_true)];refine hK _ _ ?_;rw [mj];exact fA n l _ l' ts' h hk
  ·cases h
theorem i4 {l0 : List Oper} {C : World -> Prop} {Q : Act -> Prop} {ds : List Deferred} : ∀ (n : Nat) (l : List Oper) (ts : List Value) (l' : List Oper) (ts' : List Value), mU l0 n l ts = some (l', ts') -> wpQuiet prog l0.toArray C Q l' ⟨ts'.toArray, ds⟩ -> wpQuiet prog l0.toArray C Q l ⟨ts.toArray, ds⟩
 |0, l, ts, l', ts', h, hk => by cases h; exact hk
 |n + 1, [], ts, l', ts', h, hk => by cases h
 |n + 1, o :: l, ts, l', ts', h, hk => by
  unfold mU at h
  split at h
  ·rename_i hw
   split at h
   ·rename_i v hv
    exact bH (mp hw) (fun w hC => wZ hv) (by rw [mj]; exact i4 n l _ l' ts' h hk)
   ·cases h
  ·rename_i hw
   refine wpQuiet_step fun K hK => ?_
   rw [if_neg (by rw [show Region.wanted o (yielded l0.toArray (Act.mk ts.toArray ds).tmps) = false from mp hw]; exact Bool.false_ne_true)];refine hK _ ?_;rw [mj];exact i4 n l _ l' ts' h hk
  ·cases h
theorem runs {l0 l l' : List Oper} {ts t1 t2 : List Value} {Q : Exit -> Act -> World -> Prop} {ds : List Deferred} {w : World} (n : Nat) (hk : wpList prog l0.toArray Q l' ⟨t2.toArray, ds⟩ w) (h : mU l0 n l ts = some (l', t1) := by exact rfl) (hn : t1 = t2 := by simp only [qj, List.set_cons_succ, List.set_cons_zero] <;> rfl) : wpList prog l0.toArray Q l ⟨ts.toArray, ds⟩ w :=
 fA n l ts l' t1 h (by rw [hn]; exact hk)
theorem eA {l0 l l' : List Oper} {ts t1 t2 : List Value} {C : World -> Prop} {Q : Act -> Prop} {ds : List Deferred} (n : Nat) (hk : wpQuiet prog l0.toArray C Q l' ⟨t2.toArray, ds⟩) (h : mU l0 n l ts = some (l', t1) := by exact rfl) (hn : t1 = t2 := by simp only [qj, List.set_cons_succ, List.set_cons_zero] <;> rfl) : wpQuiet prog l0.toArray C Q l ⟨ts.toArray, ds⟩ :=
 i4 n l ts l' t1 h (by rw [hn]; exact hk)
theorem aV {l0 l' : List Oper} {ts t1 t2 : List Value} {Q : Exit -> Act -> World -> Prop} {ds : List Deferred} {w : World} {id : Nat} (n : Nat) (hk : wpList prog l0.toArray Q l' ⟨t2.toArray, ds⟩ w) (h : mU l0 n l0 ts = some (l', t1) := by exact rfl) (hn : t1 = t2 := by simp only [qj, List.set_cons_succ, List.set_cons_zero] <;> rfl) : (Code.region id l0.toArray false).wp prog Q ⟨ts.toArray, ds⟩ w :=
 wp_region_lit (fA n l0 ts l' t1 h (by rw [hn]; exact hk))
theorem aK {l0 l : List Oper} {ts t1 t2 : List Value} {Q : Exit -> Act -> World -> Prop} {ds : List Deferred} {w : World} (n : Nat) (hk : Q .normal ⟨t2.toArray, ds⟩ w) (h : mU l0 n l ts = some ([], t1) := by exact rfl) (hn : t1 = t2 := by simp only [qj, List.set_cons_succ, List.set_cons_zero] <;> rfl) : wpList prog l0.toArray Q l ⟨ts.toArray, ds⟩ w :=
 fA n l ts [] t1 h (by rw [hn]; exact wpList_nil hk)
theorem cy {l0 : List Oper} {ts t1 t2 : List Value} {Q : Exit -> Act -> World -> Prop} {ds : List Deferred} {w : World} {id : Nat} (n : Nat) (hk : Q .normal ⟨t2.toArray, ds⟩ w) (h : mU l0 n l0 ts = some ([], t1) := by exact rfl) (hn : t1 = t2 := by simp only [qj, List.set_cons_succ, List.set_cons_zero] <;> rfl) : (Code.region id l0.toArray false).wp prog Q ⟨ts.toArray, ds⟩ w :=
 wp_region_lit (fA n l0 ts [] t1 h (by rw [hn]; exact wpList_nil hk))
theorem bm {ops : Array Oper} {l0 l1 : List Value} {ds0 : List Deferred} {i0 : Nat} {rest : List Oper} {o : Oper} {Q : Exit -> Act -> World -> Prop} {w : World} {v : Value} (hk : wpList prog ops Q rest ⟨l1.toArray, ds0⟩ w) (hd : o.dst = some i0 := by exact rfl) (hl : l0.set i0 v = l1 := by simp only [List.set_cons_succ, List.set_cons_zero] <;> rfl) : ∃ v', Ending.returned v = .returned v' /\ wpList prog ops Q rest (Act.put ⟨l0.toArray, ds0⟩ o.dst v') w := by
 have e : Act.put (Act.mk l0.toArray ds0) o.dst v = ⟨l1.toArray, ds0⟩ := (by rw [hd, <- hl]; show Act.mk (l0.toArray.setIfInBounds i0 v) ds0 = _; rw [List.setIfInBounds_toArray]);exact ⟨v, rfl, by rw [e]; exact hk⟩
structure Elt (α : Type) where
 s : TypeId
 t : TypeId
 n : Nat
 by_ : Nat
 cel : α -> List Value
 d : α
 z : Value
 pos : 0 < n
 small : by_ <= 4096
 len : ∀ a, (cel a).length = n
 one : ∀ a, ∀ v ∈ cel a, v.oneCell' = true
 und : prog.underlying s = some (.slice t)
 info : (prog.info? t).map (fun i => (i.zero, i.size, i.bytes)) = some (some z, n, by_)
 zc : z.cells.size = n
section
variable {α : Type} (E : Elt α)
def cF (l : List α) : List Value := l.flatMap E.cel
theorem ex (x : α) (l : List α) : cF E (x :: l) = E.cel x ++ cF E l := rfl
theorem ik (a b : List α) : cF E (a ++ b) = cF E a ++ cF E b := by simp [cF]
theorem cz (l : List α) : (cF E l).length = l.length * E.n := by
 induction l with
 |nil => simp [cF]
 |cons x l ih => rw [ex, List.length_append, E.len, ih, List.length_cons, Nat.add_mul]; omega
theorem qY (l : List α) {k j : Nat} (hk : k < l.length) (hj : j < E.n) : (cF E l)[k * E.n + j]? = (E.cel (l.getD k E.d))[j]? := by
 induction l generalizing k with
 |nil => simp at hk
 |cons x l ih =>
  rw [ex];cases k with
  |zero => rw [Nat.zero_mul, Nat.zero_add, List.getElem?_append_left (by rw [E.len]; exact hj)]; rfl
  |succ k =>
   have e : (k + 1) * E.n + j - E.n = k * E.n + j := by rw [Nat.add_mul]; omega
   rw [List.getElem?_append_right (by rw [E.len, Nat.add_mul]; omega), E.len, e, ih (by simpa using hk)]
   rfl
theorem oa (l : List α) : ∀ v ∈ cF E l, v.oneCell' = true := by
 intro v hv;simp only [cF, List.mem_flatMap] at hv;obtain ⟨b, _, hb⟩ := hv;exact E.one b v hb
def RdE (w : World) (B : Nat) (A : Option Addr) (n : Nat) (l : List α) : Prop :=
 l.length = n /\ ∀ k, k < n -> ∃ b off, A = some ⟨b, off, none⟩ /\ b < B /\ w.rangeAt b (off + k * E.n) (E.cel (l.getD k E.d))
def bF (w : World) (base : Nat) (v : Value) (l : List α) : Prop := w.ownsRow base E.t E.n v l.length (cF E l)
end
section
variable {w w' : World} {b o B : Nat} {cs : List Value}
theorem vy (h : w.rangeAt b o cs) (hb : b < B) (hw : Below B w w') : w'.rangeAt b o cs := fun j v hj => by
 rw [hw.cell (p := ⟨b, o + j, none⟩) hb]; exact h j v hj
end
section
variable {α : Type} {E : Elt α} {w w' : World} {B B' n : Nat} {A : Option Addr} {l : List α} {v : Value}
theorem RdE.nil (w : World) (B : Nat) (A : Option Addr) : RdE E w B A 0 [] := ⟨rfl, fun k hk => absurd hk (by omega)⟩
theorem RdE.more (h : RdE E w B A n l) (hB : B <= B') : RdE E w B' A n l :=
 ⟨h.1, fun k hn => by
  obtain ⟨b, off, e, hb, hc⟩ := h.2 k hn;exact ⟨b, off, e, by omega, hc⟩⟩
theorem RdE.below (h : RdE E w B A n l) (hb : Below B w w') : RdE E w' B A n l :=
 ⟨h.1, fun k hn => by
  obtain ⟨b, off, e, hlt, hc⟩ := h.2 k hn;exact ⟨b, off, e, hlt, vy hc hlt hb⟩⟩
theorem RdE.step (h : RdE E w w.heap.size A n l) (hb : Below w.heap.size w w') : RdE E w' w'.heap.size A n l := (h.below hb).more hb.size
theorem yG {g o : Nat} (hg : g < B) (h : ∀ j v, (cF E l)[j]? = some v -> w.cell? ⟨g, o + j, none⟩ = some v) : RdE E w B (some ⟨g, o, none⟩) l.length l :=
 ⟨rfl, fun k hk => ⟨g, o, rfl, hg, fun j v hj => by
  have hlt : j < E.n := by have := (List.getElem?_eq_some_iff.1 hj).1; rwa [E.len] at this
  rw [show o + k * E.n + j = o + (k * E.n + j) from by omega];exact h _ v (by rw [qY E l hk hlt]; exact hj)⟩⟩
theorem wP {g : Nat} {cs : Array Value} {t : TypeId} (hg : w.heap[g]? = some (.cells cs t (0, 0))) (h : cs.toList = cF E l) (hB : g < B) : RdE E w B (some ⟨g, 0, none⟩) l.length l :=
 yG hB fun j v hj => by
  rw [cell_of_row _ _ (0 + j) cs t (0, 0) hg, Nat.zero_add, <- Array.getElem?_toList, h];exact hj
theorem iJ (w : World) (cs : Array Value) (t : TypeId) (h : cs.toList = cF E l) : RdE E (w.alloc (.cells cs t)) (w.heap.size + 1) (some ⟨w.heap.size, 0, none⟩) l.length l :=
 wP (heap_alloc_new w _) h (by omega)
theorem iI {N : Nat} {ad : Addr} (h : RdE E w N (some ad) n l) : ∀ (j : Nat) (u : Value), (cF E l)[j]? = some u -> w.cell? (ad.add j) = some u := by
 intro j u hu;have hj : j < l.length * E.n := by have := (List.getElem?_eq_some_iff.1 hu).1; rwa [cz] at this
 have hk : j / E.n < l.length := Nat.div_lt_of_lt_mul (by rw [Nat.mul_comm]; exact hj);have hr : j % E.n < E.n := Nat.mod_lt _ E.pos;have hd : j / E.n * E.n + j % E.n = j := Nat.div_add_mod' j E.n;obtain ⟨b, off, e, _, hc⟩ := h.2 (j / E.n) (by have := h.1; omega);injection e with e;subst e;have hadd : (⟨b, off, none⟩ : Addr).add j = ⟨b, off + j, none⟩ := by unfold Addr.add; split <;> simp_all
 rw [hadd];have h2 := qY E l hk (j := j % E.n) hr;rw [hd, hu] at h2;have h3 := hc (j % E.n) u h2.symm;rwa [Nat.add_assoc, hd] at h3
theorem bF.nil (w : World) (B : Nat) : bF E w B (.slice none 0 0) [] := ⟨by simp [cF], .inl ⟨rfl, rfl⟩⟩
theorem bF.form (h : bF E w B v l) : ∃ A c, v = .slice A l.length c /\ l.length <= c /\ c <= maxLen := by
 rcases h.2 with ⟨rfl, h0⟩ | ⟨g, cap, cur, rfl, _, _, h1, h2, _⟩
 ·exact ⟨none, 0, by rw [h0], by omega, by simp [maxLen]⟩
 ·exact ⟨_, cap, rfl, h1, h2⟩
theorem bF.rd {c : Nat} (h : bF E w B (.slice A n c) l) : RdE E w w.heap.size A n l := by
 rcases h.2 with ⟨hv, h0⟩ | ⟨g, cap, cur, hv, _, hg, _, _, _, ht⟩
 ·have hl : l = [] := List.eq_nil_of_length_eq_zero h0;subst hl;injection hv with h1 h2 h3;subst h2;exact RdE.nil _ _ _
 ·injection hv with h1 h2 h3;subst h1 h2 h3;refine yG (Array.getElem?_eq_some_iff.1 hg).1 fun j u hu => ?_
  rw [cell_of_row w g (0 + j) cur E.t (0, 0) hg, Nat.zero_add];have hj : j < l.length * E.n := by have := (List.getElem?_eq_some_iff.1 hu).1; rwa [cz] at this
  rw [<- ht, List.getElem?_take_of_lt hj] at hu
  simpa using hu
theorem bF.below (h : bF E w B v l) (hb : Below w.heap.size w w') : bF E w' B v l := by
 refine ⟨h.1, ?_⟩;rcases h.2 with hn | ⟨g, cap, cur, rfl, hbg, hg, rest⟩
 ·exact .inl hn
 ·exact .inr ⟨g, cap, cur, rfl, hbg, by rw [hb.block g (Array.getElem?_eq_some_iff.1 hg).1]; exact hg, rest⟩
theorem bF.base (h : bF E w B v l) (hb : B' <= B) : bF E w B' v l := by
 refine ⟨h.1, ?_⟩;rcases h.2 with hn | ⟨g, cap, cur, rfl, hbg, rest⟩
 ·exact .inl hn
 ·exact .inr ⟨g, cap, cur, rfl, ap hb hbg, rest⟩
theorem bF.open_ (h : bF E w B v l) (hn : l.length = n) : ∃ A c, v = .slice A n c /\ RdE E w w.heap.size A n l /\ n <= c /\ c <= maxLen := by
 subst hn;obtain ⟨A, c, rfl, h1, h2⟩ := h.form;exact ⟨A, c, rfl, h.rd, h1, h2⟩
theorem bF.lG (h : bF E w B v l) : ∀ k, v.ownBlock = some k -> B <= k := by
 intro k hk;rcases h.2 with ⟨rfl, _⟩ | ⟨g, cap, cur, rfl, hbg, _⟩
 ·simp [Value.ownBlock] at hk
 ·simp [Value.ownBlock] at hk; omega
theorem bF.of_block {g : Nat} {cs : Array Value} (hg : w.heap[g]? = some (.cells cs E.t (0, 0))) (h : cs.toList = cF E l) (hB : B <= g) (hl : l.length = n) (hm : n <= maxLen) : bF E w B (.slice (some ⟨g, 0, none⟩) n n) l := by
 subst hl;have hsz : cs.size = l.length * E.n := by rw [<- Array.length_toList, h, cz]
 refine ⟨cz E l, .inr ⟨g, l.length, cs, rfl, hB, hg, ai, hm, hsz, ?_⟩⟩;rw [h, List.take_of_length_le (by rw [cz]; exact ai)]
end
theorem bF.other {α β : Type} {E : Elt α} {E' : Elt β} {w : World} {B B' : Nat} {v v' : Value} {l : List α} {l' : List β} (h : bF E w B v l) (h' : bF E' w B' v' l') (hne : E.t ≠ E'.t) : v.ownBlock = none \/ v.ownBlock ≠ v'.ownBlock := by
 rcases h.2 with ⟨rfl, _⟩ | ⟨g, cap, cur, rfl, _, hg, _⟩
 ·exact .inl rfl
 ·rcases h'.2 with ⟨rfl, _⟩ | ⟨g', cap', cur', rfl, _, hg', _⟩
  ·exact .inr (by simp [Value.ownBlock])
  ·refine .inr fun e => ?_
   simp [Value.ownBlock] at e;subst e;rw [hg] at hg';simp at hg';exact hne hg'.2
theorem bF.kept {α : Type} {E : Elt α} {w w' : World} {B : Nat} {v : Value} {l : List α} {row : Option Nat} (h : bF E w B v l) (hg : w.grownBy w' row) (hne : v.ownBlock = none \/ v.ownBlock ≠ row) : bF E w' B v l := World.ownsRow.kept h hg hne
theorem vT {α : Type} (E : Elt α) (w : World) (ty B N m c : Nat) (v : Value) (l l' : List α) (A : Option Addr) (hm : bF E w B v l) (hr : RdE E w N A m l') (hB : B <= w.heap.size) (hml : l.length + m <= maxLen) (hby : (l.length + m) * E.by_ <= 140737488355328) :
  ∃ v' w', (Builtin.append_ #[E.s, E.s] ty #[v, .slice A m c]).run prog w = .ok v' w' /\ bF E w' B v' (l ++ l') /\ w.grownBy w' v.ownBlock := by
 obtain ⟨i0, hi, hz0, hz1, hz2⟩ := info_parts E.info;rcases A with _ | ad
 ·have h0 : m = 0 := by
   rcases Nat.eq_zero_or_pos m with h | h
   ·exact h
   ·obtain ⟨b, off, e, _⟩ := hr.2 0 h;cases e
  subst h0;have hn : l' = [] := List.eq_nil_of_length_eq_zero hr.1;subst hn;refine ⟨v, w, ?_, by rw [List.append_nil]; exact hm, World.grownBy.refl w _⟩;rcases hm.2 with ⟨rfl, _⟩ | ⟨g, cap, cur, rfl, _, _, hnc, _⟩
  ·simp [Builtin.append_, run_underlying E.und, sizeOf, typeInfo, hi, Builtin.lenOf, Builtin.firstCells]
  ·simp [Builtin.append_, run_underlying E.und, sizeOf, typeInfo, hi, Builtin.lenOf, Builtin.firstCells, hnc, storeCells]
 ·obtain ⟨v', w', h1, h2, h3, _⟩ := run_append_own (P := prog) w B E.s ty E.t i0 E.z E.n E.by_ E.und hi hz0 hz1 hz2 E.zc E.pos v l.length _ hm ad m c (cF E l')
   (by rw [cz, hr.1]) (iI hr) (oa E l') hml hby hB
  refine ⟨v', w', h1, ?_, h3⟩;unfold bF;rw [ik, List.length_append, hr.1];exact h2
theorem jf {α : Type} (E : Elt α) (w : World) (ty B N m c : Nat) (v : Value) (l l' : List α) (A : Option Addr) (hm : bF E w B v l) (hr : RdE E w N A m l') (hB : B <= w.heap.size) (hsum : l.length + m <= 34359738368) :
  ∃ v' w', (Builtin.append_ #[E.s, E.s] ty #[v, .slice A m c]).run prog w = .ok v' w' /\ bF E w' B v' (l ++ l') /\ w.grownBy w' v.ownBlock :=
 vT E w ty B N m c v l l' A hm hr hB (by unfold maxLen; omega) (ap (Nat.mul_le_mul hsum E.small) (by omega))
theorem qD {α : Type} (E : Elt α) {w : World} {ops : Array Oper} {rest : List Oper} {o : Oper} {a : Act} {Q : Exit -> Act -> World -> Prop} (hgd : o.guard = none) (s x : Operand)
  (ho : o.op = .call { callee := .builtin .append, args := #[s, x], argTypes := #[E.s, E.s] })
  (B N m c : Nat) (v : Value) (l l' : List α) (A : Option Addr) (hs : a.eval s = v) (hx : a.eval x = .slice A m c) (hm : bF E w B v l) (hr : RdE E w N A m l') (hB : B <= w.heap.size) (hsum : l.length + m <= 34359738368)
  (h : ∀ v' w', bF E w' B v' (l ++ l') -> w.grownBy w' v.ownBlock -> wpList prog ops Q rest (a.put o.dst v') w') : wpList prog ops Q (o :: rest) a w := by
 refine wpList_plain hgd fun K hK => ?_
 obtain ⟨v', w', hrun, h1, h2⟩ := jf E w o.type B N m c v l l' A hm hr hB hsum;unfold Oper.wp;simp [execOp, ho, resolve, invoke, builtin, hs, hx, hrun, Result.andThen];exact hK _ _ (h v' w' h1 h2)
theorem ym (pre post : List Value) : ∀ (vs mid done : List Value), mid.length = vs.length ->
  (vs.zipIdx done.length).foldl (fun cs (p : Value × Nat) => cs.setIfInBounds (pre.length + p.2) p.1) (pre ++ done ++ mid ++ post).toArray = (pre ++ done ++ vs ++ post).toArray
 |[], mid, done, h => by
  have : mid = [] := List.eq_nil_of_length_eq_zero h;subst this;simp
 |v :: vs, mid, done, h => by
  match mid, h with
  |m :: ms, h =>
   rw [List.zipIdx_cons, List.foldl_cons];have hset : (pre ++ done ++ m :: ms ++ post).toArray.setIfInBounds (pre.length + done.length) v = (pre ++ (done ++ [v]) ++ ms ++ post).toArray := by
    rw [List.setIfInBounds_toArray]
    congr 1
    rw [List.append_assoc (pre ++ done), List.set_append_right _ _ (by simp), List.length_append, Nat.sub_self];simp
   have := ym pre post vs ms (done ++ [v]) (by simpa using h);rw [List.length_append, List.length_singleton] at this
   show (vs.zipIdx (done.length + 1)).foldl (fun cs (p : Value × Nat) => cs.setIfInBounds (pre.length + p.2) p.1) ((pre ++ done ++ m :: ms ++ post).toArray.setIfInBounds (pre.length + done.length) v) = _
   rw [hset, this];simp
theorem da {place : Nat -> Option (Nat × Nat)} {i off size : Nat} {v : Value} {pre mid post vs : List Value} {rest : List (Nat × Value)} (hp : place i = some (off, size)) (hv : v.cells = vs.toArray) (hs : vs.length = size) (ho : pre.length = off) (hm : mid.length = size) :
  Instr.fill place (pre ++ mid ++ post).toArray ((i, v) :: rest) = Instr.fill place (pre ++ vs ++ post).toArray rest := by
 subst hs ho;have hw := ym pre post vs mid [] hm;simp only [List.append_nil, List.length_nil] at hw;rw [Instr.fill, hp];have hc : (decide (v.cells.size ≠ vs.length) || decide (pre.length + v.cells.size > (pre ++ mid ++ post).toArray.size)) = false := by
  rw [hv];simp [hm]
 show (if (decide (v.cells.size ≠ vs.length) || decide (pre.length + v.cells.size > (pre ++ mid ++ post).toArray.size)) = true then none else _) = _
 rw [hc, if_neg (by simp), hv, <- Array.foldl_toList, Array.toList_zipIdx]
 show Instr.fill place (vs.zipIdx.foldl (fun cs (p : Value × Nat) => cs.setIfInBounds (pre.length + p.2) p.1) (pre ++ mid ++ post).toArray) rest = _
 rw [hw]
section
variable {α : Type} (E : Elt α)
theorem oH (w : World) : (sizeOf E.t).run prog w = .ok E.n w := by
 obtain ⟨i0, hi, hz0, hz1, hz2⟩ := info_parts E.info;simp [sizeOf, typeInfo, hi, hz1]
theorem jG (w : World) : (zeroValue E.t).run prog w = .ok E.z w := by
 obtain ⟨i0, hi, hz0, hz1, hz2⟩ := info_parts E.info;simp [zeroValue, typeInfo, hi, hz0]
end
section
variable {α : Type} {E : Elt α} {ρ : Operand -> Value} {o : Oper} {x y : Operand} {w : World} {b off n c j : Nat} {v : Value} {a : α}
theorem add_mid (b off j : Nat) : (⟨b, off, none⟩ : Addr).add j = ⟨b, off + j, none⟩ := by unfold Addr.add; split <;> simp_all
theorem tC (hj : j < n) : (Instr.indexAt E.s (.slice (some ⟨b, off, none⟩) n c) (.int .i64 (j : Int))).run prog w = .ok (.pointer (some ⟨b, off + j * E.n, none⟩)) w := by
 have h := oH E w;simp [Instr.indexAt, asIntOf, run_underlying E.und, add_mid, h, hj]
theorem cK (ho : o.op = .indexAddr E.s x y) (hx : ρ x = .slice (some ⟨b, off, none⟩) n c) (hy : ρ y = .int .i64 (j : Int)) (hj : j < n) : (execOp ρ o).run prog w = .ok (.value (.pointer (some ⟨b, off + j * E.n, none⟩))) w :=
 cD ho hx hy (tC (E := E) hj)
theorem ft (ho : o.op = .buildSlice E.s 1 #[(0, x)]) (hx : ρ x = v) (hv : v.cells = (E.cel a).toArray) (hn : E.n <= 16777216) :
  (execOp ρ o).run prog w = .ok (.value (.slice (some ⟨w.heap.size, 0, none⟩) 1 1)) (w.alloc (.cells (E.cel a).toArray E.t)) := by
 have hz := jG E w;have hs := oH E w;have hp := E.pos;obtain ⟨zs, hzs⟩ : ∃ zs : List Value, (Array.range (1 * E.n)).map (E.z.cells[· % E.z.cells.size]!) = zs.toArray := ⟨_, (Array.toArray_toList).symm⟩;have hzl : zs.length = E.n := by
  have := congrArg Array.size hzs
  simpa using this.symm
 have hf := da (place := fun i => some (i * E.n, E.n)) (i := 0) (off := 0) (v := v) (pre := []) (mid := zs) (post := []) (vs := E.cel a) (rest := []) (by simp) hv (E.len a) rfl hzl;simp only [List.nil_append, List.append_nil] at hf;unfold execOp;simp only [ho, Instr.buildSlice, Sem.run_bind, run_underlying E.und, Result.andThen_ok, hs];rw [if_neg (by omega), if_neg (by omega)];simp only [Sem.run_bind, hz, Result.andThen_ok, Sem.run_pure, hzs];simp [hx, hf, Instr.fill, newRow]
end
theorem jK {α : Type} {E : Elt α} {o : Oper} {a : Act} {w w' : World} {s x : Operand} {A : Option Addr} {m c : Nat} {v v' : Value} (ho : o.op = .call { callee := .builtin .append, args := #[s, x], argTypes := #[E.s, E.s] }) (hs : a.eval s = v) (hx : a.eval x = .slice A m c)
  (hrun : (Builtin.append_ #[E.s, E.s] o.type #[v, .slice A m c]).run prog w = .ok v' w') : (execOp a.eval o).run prog w = .ok (.value v') w' := by
 simp [execOp, ho, resolve, invoke, builtin, hs, hx, hrun, Result.andThen]
theorem iE {α : Type} (E : Elt α) (w : World) (ty B N m c : Nat) (v : Value) (l l' : List α) (A : Option Addr) (hm : bF E w B v l) (hr : RdE E w N A m l') (hB : B <= w.heap.size) (hsum : l.length + m <= 34359738368) :
  ∃ v' w', (Builtin.append_ #[E.s, E.s] ty #[v, .slice A m c]).run prog w = .ok v' w' /\ bF E w' B v' (l ++ l') /\ w.grownBy w' v.ownBlock /\ ∀ x, v'.ownBlock = some x -> v.ownBlock = some x \/ w.heap.size <= x := by
 obtain ⟨v', w', h1, h2, h3⟩ := jf E w ty B N m c v l l' A hm hr hB hsum;refine ⟨v', w', h1, h2, h3, ?_⟩;have sure : ∀ v'' w'', (Builtin.append_ #[E.s, E.s] ty #[v, .slice A m c]).run prog w = .ok v'' w'' -> v' = v'' := fun v'' w'' e => by rw [h1] at e; injection e
 obtain ⟨i0, hi, hz0, hz1, hz2⟩ := info_parts E.info;rcases hm.2 with ⟨rfl, h0⟩ | ⟨g, cap, cur, rfl, hbg, hg, hnc, hcm, hcs, htake⟩
 ·have hm' : bF E w w.heap.size (.slice none 0 0) l := ⟨hm.1, .inl ⟨rfl, h0⟩⟩;obtain ⟨v2, w2, g1, g2, g3⟩ := jf E w ty w.heap.size N m c _ l l' A hm' hr ai hsum;have e := sure _ _ g1;subst e;exact fun x hx => .inr (g2.lG x hx)
 ·rcases A with _ | ad
  ·have h0 : m = 0 := by
    rcases Nat.eq_zero_or_pos m with h | h
    ·exact h
    ·obtain ⟨b, off, e, _⟩ := hr.2 0 h;cases e
   subst h0;have e := sure (.slice (some ⟨g, 0, none⟩) l.length cap) w (by simp [Builtin.append_, run_underlying E.und, sizeOf, typeInfo, hi, Builtin.lenOf, Builtin.firstCells, hnc, storeCells]);subst e;exact fun x hx => .inl hx
  ·by_cases hroom : l.length + m <= cap
   ·have hfit : l.length * i0.size + (cF E l').length <= cur.size := by rw [cz, hr.1, hz1, hcs, <- Nat.add_mul]; exact Nat.mul_le_mul_right _ hroom
    have h := run_append_room (P := prog) w E.s ty E.t i0 E.und hi g l.length cap cur hg ad m c (cF E l') (by rw [cz, hr.1, hz1]) (iI hr) (oa E l') hroom hfit;have e := sure _ _ h;subst e;exact fun x hx => .inl hx
   ·have holds : ∀ j u, (cF E l)[j]? = some u -> w.cell? ((⟨g, 0, none⟩ : Addr).add j) = some u := World.ownsRow.cells hm (g := g) rfl;have hby : (l.length + m) * E.by_ <= 140737488355328 := ap (Nat.mul_le_mul hsum E.small) (by omega);have h := run_append_grow (P := prog) w E.s ty E.t i0 E.z E.und hi hz0 ⟨g, 0, none⟩ l.length cap (cF E l) (by rw [hz1]; exact hm.1) holds ad m c (cF E l') (by rw [cz, hr.1, hz1]) (iI hr) (by omega) (by omega) (growslice_fits (by omega) (by rw [hz2]; exact hby));have e := sure _ _ h;subst e;exact fun x hx => .inr (by simp [Value.ownBlock] at hx; omega)
theorem iK {α : Type} (E : Elt α) {w : World} {ops : Array Oper} {rest : List Oper} {o : Oper} {a : Act} {Q : Exit -> Act -> World -> Prop} (hgd : o.guard = none) (s x : Operand)
  (ho : o.op = .call { callee := .builtin .append, args := #[s, x], argTypes := #[E.s, E.s] })
  (B N m c : Nat) (v : Value) (l l' : List α) (A : Option Addr) (hs : a.eval s = v) (hx : a.eval x = .slice A m c) (hm : bF E w B v l) (hr : RdE E w N A m l') (hB : B <= w.heap.size) (hsum : l.length + m <= 34359738368)
  (h : ∀ v' w', bF E w' B v' (l ++ l') -> w.grownBy w' v.ownBlock -> (∀ x, v'.ownBlock = some x -> v.ownBlock = some x \/ w.heap.size <= x) -> wpList prog ops Q rest (a.put o.dst v') w') : wpList prog ops Q (o :: rest) a w := by
 refine wpList_plain hgd fun K hK => ?_
 obtain ⟨v', w', hrun, h1, h2, h3⟩ := iE E w o.type B N m c v l l' A hm hr hB hsum;unfold Oper.wp;simp [execOp, ho, resolve, invoke, builtin, hs, hx, hrun, Result.andThen];exact hK _ _ (h v' w' h1 h2 h3)
section
variable {α : Type} {E : Elt α} {w : World} {B g n cc k : Nat} {l : List α} {a : α}
theorem qf {l : List α} {k : Nat} (hk : k < l.length) : cF E l = cF E (l.take k) ++ (E.cel (l.getD k E.d) ++ cF E (l.drop (k + 1))) := by
 have h1 : l = l.take k ++ (l.getD k E.d :: l.drop (k + 1)) := by
  rw [List.getD, List.getElem?_eq_getElem hk, Option.getD_some, List.getElem_cons_drop, List.take_append_drop]
 conv => lhs; rw [h1]
 rw [ik, ex]
theorem vD {l : List α} {k : Nat} (hk : k < l.length) (a : α) : cF E (l.set k a) = cF E (l.take k) ++ (E.cel a ++ cF E (l.drop (k + 1))) := by
 have h2 : l.set k a = l.take k ++ (a :: l.drop (k + 1)) := List.set_eq_take_append_cons_drop.trans (by rw [if_pos hk]);rw [h2, ik, ex]
theorem heap_put (g : Nat) (t : TypeId) (post : List Value) : ∀ (vs mid pre : List Value) (w : World), mid.length = vs.length -> w.heap[g]? = some (.cells (pre ++ mid ++ post).toArray t (0, 0)) ->
  (w.setCells g pre.length vs).heap[g]? = some (.cells (pre ++ vs ++ post).toArray t (0, 0))
 |[], mid, pre, w, h, hg => by
  have : mid = [] := List.eq_nil_of_length_eq_zero h;subst this;exact hg
 |v :: vs, mid, pre, w, h, hg => by
  match mid, h with
  |m :: ms, h =>
   rw [World.setCells];have h1 := heap_setCell_same w g pre.length _ t v hg;have hset : (pre ++ m :: ms ++ post).toArray.setIfInBounds pre.length v = ((pre ++ [v]) ++ ms ++ post).toArray := by
    rw [List.setIfInBounds_toArray]
    congr 1
    rw [List.append_assoc, List.set_append_right _ _ (by simp), Nat.sub_self];simp
   rw [hset] at h1;have := heap_put g t post vs ms (pre ++ [v]) _ (by simpa using h) h1;rw [List.length_append, List.length_singleton] at this;rw [this];simp
theorem bF.parts (h : bF E w B (.slice (some ⟨g, 0, none⟩) n cc) l) : l.length = n /\ B <= g /\ ∃ post, w.heap[g]? = some (.cells (cF E l ++ post).toArray E.t (0, 0)) /\ n <= cc /\ cc <= maxLen /\ (cF E l ++ post).length = cc * E.n := by
 rcases h.2 with ⟨hv, _⟩ | ⟨g', cap, cur, hv, hbg, hg, h1, h2, h3, ht⟩
 ·cases hv
 ·injection hv with e1 e2 e3;injection e1 with e1;injection e1 with e1;subst e1 e2 e3;refine ⟨rfl, hbg, cur.toList.drop (l.length * E.n), ?_, h1, h2, ?_⟩
  ·rw [<- ht, List.take_append_drop, Array.toArray_toList]; exact hg
  ·rw [<- ht, List.take_append_drop, Array.length_toList, h3]
theorem bF.y9 {post : List Value} (hl : l.length = n) (hB : B <= g) (hg : w.heap[g]? = some (.cells (cF E l ++ post).toArray E.t (0, 0))) (h1 : n <= cc) (h2 : cc <= maxLen) (h3 : (cF E l ++ post).length = cc * E.n) : bF E w B (.slice (some ⟨g, 0, none⟩) n cc) l := by
 subst hl;refine ⟨cz E l, .inr ⟨g, cc, _, rfl, hB, hg, h1, h2, by simpa using h3, ?_⟩⟩;rw [List.take_left' (cz E l)]
theorem bF.there (h : bF E w B (.slice (some ⟨g, 0, none⟩) n cc) l) (hk : k < n) {j m : Nat} (hj : j + m <= E.n) : w.there g (k * E.n + j) m := by
 obtain ⟨hl, _, post, hg, hn, _, h3⟩ := h.parts;intro i hi;refine ⟨?_, frozen_of_row w g _ _ _ hg⟩;rw [cell_of_row w g _ _ _ (0, 0) hg];have : k * E.n + j + i < (cF E l ++ post).length := by
  have h4 := Nat.mul_le_mul_right E.n (ap hk hn);rw [Nat.succ_mul] at h4;rw [h3];omega
 simp only [List.getElem?_toArray, List.getElem?_eq_getElem this, Option.isSome_some]
theorem bF.put (h : bF E w B (.slice (some ⟨g, 0, none⟩) n cc) l) (hk : k < n) {j : Nat} {vs : List Value} (a : α) (ha : E.cel a = (E.cel (l.getD k E.d)).take j ++ vs ++ (E.cel (l.getD k E.d)).drop (j + vs.length)) (hj : j + vs.length <= E.n) :
  bF E (w.setCells g (k * E.n + j) vs) B (.slice (some ⟨g, 0, none⟩) n cc) (l.set k a) := by
 obtain ⟨hl, hB, post, hg, h1, h2, h3⟩ := h.parts;have hkl : k < l.length := by omega
 have hc : E.cel (l.getD k E.d) = (E.cel (l.getD k E.d)).take j ++ ((E.cel (l.getD k E.d)).drop j).take vs.length ++ (E.cel (l.getD k E.d)).drop (j + vs.length) := by
  rw [List.append_assoc, <- List.drop_drop, List.take_append_drop, List.take_append_drop]
 have hsp : cF E l ++ post = (cF E (l.take k) ++ (E.cel (l.getD k E.d)).take j) ++ ((E.cel (l.getD k E.d)).drop j).take vs.length ++ ((E.cel (l.getD k E.d)).drop (j + vs.length) ++ (cF E (l.drop (k + 1)) ++ post)) := by
  rw [qf hkl]
  conv => lhs; rw [hc]
  simp only [List.append_assoc]
 rw [hsp] at hg;have hmid : (((E.cel (l.getD k E.d)).drop j).take vs.length).length = vs.length := by rw [List.length_take, List.length_drop, E.len]; omega
 have := heap_put g E.t _ vs _ _ w hmid hg;have hpl : (cF E (l.take k) ++ (E.cel (l.getD k E.d)).take j).length = k * E.n + j := by
  rw [List.length_append, cz, List.length_take, List.length_take, E.len, Nat.min_eq_left (by omega), Nat.min_eq_left (by omega)]
 rw [hpl] at this;have hsp2 : cF E (l.set k a) ++ post = (cF E (l.take k) ++ (E.cel (l.getD k E.d)).take j) ++ vs ++ ((E.cel (l.getD k E.d)).drop (j + vs.length) ++ (cF E (l.drop (k + 1)) ++ post)) := by
  rw [vD hkl, ha];simp only [List.append_assoc]
 rw [<- hsp2] at this;exact bF.y9 (by rw [List.length_set, hl]) hB this h1 h2 (by rw [List.length_append, cz, List.length_set, <- cz E l, <- List.length_append, h3])
theorem bF.store (h : bF E w B (.slice (some ⟨g, 0, none⟩) n cc) l) (hk : k < n) (a : α) : bF E (w.setCells g (k * E.n) (E.cel a)) B (.slice (some ⟨g, 0, none⟩) n cc) (l.set k a) := by
 have := h.put hk (j := 0) (vs := E.cel a) a (by rw [List.take_zero, Nat.zero_add, List.drop_eq_nil_of_le (by rw [E.len, E.len]; exact ai)]; simp) (by rw [E.len]; omega)
 simpa using this
end
abbrev Blk := Vector UInt8 64
def aF : Blk := Vector.replicate 64 0
def cel (b : Blk) : List Value := b.toList.map fun u => .int .u8 (u.toNat : Int)
def blk (b : Blk) : Value := .agg (cel b).toArray
def byt (b : Blk) (j : Nat) : Int := bt b.toList j
theorem kF (b : Blk) {j : Nat} (h : j < 64) : byt b j = (b[j].toNat : Int) := by
 unfold byt;rw [cZ (by simpa using h)];simp
theorem aL (b : Blk) : (cel b).length = 64 := by simp [cel]
theorem kg (b : Blk) {j : Nat} (h : j < 64) : (cel b)[j]? = some (.int .u8 (byt b j)) := by
 rw [kF b h];simp [cel, h]
theorem kA (b : Blk) : ∀ v ∈ cel b, v.oneCell' = true := by
 intro v hv;simp only [cel, List.mem_map] at hv;obtain ⟨u, _, rfl⟩ := hv
 rfl
theorem uf {a b : Blk} (h : ∀ j, j < 64 -> byt a j = byt b j) : a = b := by
 apply Vector.ext;intro i hi;have := h i hi;rw [kF a hi, kF b hi] at this;exact UInt8.toNat_inj.1 (by omega)
theorem gT (b : Blk) : (blk b).cells = (cel b).toArray := rfl
theorem yj : (prog.info? 29).map (fun i => (i.zero, i.size, i.bytes)) = some (some (blk aF), 64, 64) := by kernel_rfl
theorem pi : prog.underlying 29 = some (.array 64 5) := underlying29
theorem oU : (prog.info? 29).map (·.size) = some 64 := by kernel_rfl
theorem abZ : prog.eqGuardType prog.depth 29 = false := by kernel_rfl
section
variable {w : World} {b off : Nat} {c : Blk}
theorem run_load (hc : w.rangeAt b off (cel c)) : (Instr.loadAt 29 (.pointer (some ⟨b, off, none⟩))).run prog w = .ok (blk c) w :=
 run_loadAt_mid w b off 29 (cel c) _ hc pi rfl (by rw [aL]; exact oU)
theorem run_store (ht : w.there b off 64) : (Instr.storeAt 29 (.pointer (some ⟨b, off, none⟩)) (blk c)).run prog w = .ok () (w.setCells b off (cel c)) := by
 have := run_storeAt_mid (P := prog) w b off 29 (cel c).toArray (by simpa [aL] using ht) (by simpa [aL] using oU) (all_oneCell_toArray (kA c))
 simpa [blk] using this
theorem ol (w : World) : (zeroValue 29).run prog w = .ok (blk aF) w := by
 have h := yj;cases hq : prog.info? 29 with
 |none => rw [hq] at h; cases h
 |some i =>
  rw [hq] at h;simp only [Option.map_some, Option.some.injEq, Prod.mk.injEq] at h;simp [zeroValue, typeInfo, hq, h.1]
theorem mH (w : World) (v : Value) : (newVar 29 v).run prog w = .ok ⟨w.heap.size, 0, none⟩ (w.alloc (.cells v.cells 29)) := by
 simp [newVar, newRow]
theorem aam (w : World) (c : Blk) : (Instr.box 29 (blk c)).run prog w = .ok (.pointer (some ⟨w.heap.size, 0, none⟩)) (w.alloc (.cells (cel c).toArray 29)) := by
 simp [Instr.box, mH, gT]
theorem vh (w : World) : (Instr.alloc 29 true (.tuple #[])).run prog w = .ok (.pointer (some ⟨w.heap.size, 0, none⟩)) (w.alloc (.cells (cel aF).toArray 29)) := by
 simp only [Instr.alloc, Sem.run_bind, ol, Result.andThen_ok, mH, Sem.run_pure, gT]
end
theorem oG (w : World) (c : Blk) (i : Nat) (hi : i < 64) : (part 5 (cel c).toArray (i * 1)).run prog w = .ok (.int .u8 (byt c i)) w := by
 have := kg c hi;simp [part, this]
theorem aa2 (w : World) (a b : Blk) (d : Nat) : (Op.equalIn (d + 2) 29 (blk a) (blk b)).run prog w = .ok (decide (a = b)) w := by
 have he : ∀ x y : Int, (Op.equalIn (d + 1) 5 (.int .u8 x) (.int .u8 y)).run prog w = .ok (x == y) w := fun x y => run_equalIn_int w d 5 .u8 .u8 x y underlying5
 show (Op.equalIn ((d + 1) + 1) 29 (blk a) (blk b)).run prog w = .ok (decide (a = b)) w
 generalize d + 1 = e at *;have key : ∀ (l : List Nat), (∀ i ∈ l, i < 64) ->
   ((forIn l ((none : Option Bool), ()) fun i r => do
    let x <- part 5 (cel a).toArray (i * 1)
    let y <- part 5 (cel b).toArray (i * 1)
    let z <- Op.equalIn e 5 x y
    if (!z) = true then pure (ForInStep.done (some false, ())) else pure (ForInStep.yield (none, ())) : Sem _)).run prog w =
   .ok (if l.all (fun i => byt a i == byt b i) then (none, ()) else (some false, ())) w := by
  intro l
  induction l with
  |nil => intro _; simp
  |cons i l ih =>
   intro hl;have hi := hl i (by simp);simp only [List.forIn_cons, Sem.run_bind, oG w a i hi, oG w b i hi, Result.andThen_ok, he];by_cases h : byt a i = byt b i
   ·have hb : (byt a i == byt b i) = true := by simpa using h
    simp only [hb, Bool.not_true, Bool.false_eq_true, if_false, Sem.run_pure, Result.andThen_ok, List.all_cons, Bool.true_and];exact ih fun j hj => hl j (by simp [hj])
   ·have hb : (byt a i == byt b i) = false := by simpa using h
    simp [hb]
 have hall : ((List.range' 0 64).all fun i => byt a i == byt b i) = decide (a = b) := by
  rw [Bool.eq_iff_iff, List.all_eq_true, decide_eq_true_iff]
  constructor
  ·intro h;exact uf fun j hj => by simpa using h j (by simp [List.mem_range']; omega)
  ·rintro rfl i _;simp
 have hk := key (List.range' 0 64) (fun i hi => by simp [List.mem_range'] at hi; omega);rw [hall] at hk;simp only [Op.equalIn, blk, Sem.run_bind, run_underlying pi, Result.andThen_ok, Tryz.sizeOf5, Std.Legacy.Range.forIn_eq_forIn_range'];simp only [Std.Legacy.Range.size, Nat.sub_zero, Nat.add_sub_cancel, Nat.div_one];rw [hk];by_cases h : a = b
 ·simp [h]
 ·simp [h]
def vals (l : List UInt8) : List Value := l.map fun u => .int .u8 (u.toNat : Int)
theorem bk (l : List UInt8) : (vals l).length = l.length := by simp [vals]
theorem gY (l : List UInt8) : ∀ v ∈ vals l, v.oneCell' = true := by
 intro v hv;simp only [vals, List.mem_map] at hv;obtain ⟨u, _, rfl⟩ := hv
 rfl
theorem fT {l : List UInt8} {j : Nat} (h : j < l.length) : (vals l)[j]? = some (.int .u8 (bt l j)) := by
 rw [cZ h];simp [vals, h]
section
variable {w w' : World} {B b o n : Nat} {cs : List Value}
theorem ce (h : w.rangeAt b o cs) (hb : b < B) (hw : Below B w w') : w'.rangeAt b o cs := fun j v hj => by
 rw [hw.cell (p := ⟨b, o + j, none⟩) hb]; exact h j v hj
theorem bg (h : w.there b o n) (hb : b < B) (hw : Below B w w') : w'.there b o n := fun j hj => by
 rw [hw.cell (p := ⟨b, o + j, none⟩) hb, hw.frozen (p := ⟨b, o + j, none⟩) hb]; exact h j hj
theorem cR (w : World) (cs : List Value) (t : TypeId) : (w.alloc (.cells cs.toArray t)).rangeAt w.heap.size 0 cs := fun j v hj => by
 rw [cell_of_row _ _ (0 + j) cs.toArray t (0, 0) (heap_alloc_new w _)]
 simpa using hj
theorem ch (b : Nat) : ∀ (vs : List Value) (o : Nat) (w : World) (k : Nat), k ≠ b -> (w.setCells b o vs).heap[k]? = w.heap[k]?
 |[], _, _, _, _ => rfl
 |v :: r, o, w, k, h => by
  rw [World.setCells, ch b r (o + 1) _ k h];exact heap_setCell_other w ⟨b, o, none⟩ k v h
theorem fB (b : Nat) : ∀ (vs : List Value) (o : Nat) (w : World), (w.setCells b o vs).heap.size = w.heap.size /\ (w.setCells b o vs).os = w.os /\ (w.setCells b o vs).tape = w.tape /\ (w.setCells b o vs).output = w.output
 |[], _, _ => ⟨rfl, rfl, rfl, rfl⟩
 |v :: r, o, w => by
  have h := fB b r (o + 1) (w.setCell ⟨b, o, none⟩ v);rw [World.setCells];refine ⟨h.1.trans ?_, h.2.1.trans rfl, h.2.2.1.trans rfl, h.2.2.2.trans rfl⟩;simp [World.setCell]
theorem below_setCells {a : World} (h : Below B a w) {b o : Nat} (hb : B <= b) (vs : List Value) : Below B a (w.setCells b o vs) := by
 obtain ⟨h1, h2, h3, h4⟩ := fB b vs o w;exact ⟨h2.trans h.os, h3.trans h.tape, h4.trans h.output, by rw [h1]; exact h.size, fun k hk => (ch b vs o w k (by omega)).trans (h.block k hk)⟩
end
section
variable {ρ : Operand -> Value} {o : Oper} {x y : Operand} {w : World} {b off : Nat} {c d : Blk}
theorem bf (ho : o.op = .load 29 x) (hx : ρ x = .pointer (some ⟨b, off, none⟩)) (hc : w.rangeAt b off (cel c)) : (execOp ρ o).run prog w = .ok (.value (blk c)) w := by
 unfold execOp;simp only [ho, hx, Sem.run_bind, run_load hc, Result.andThen_ok, Sem.run_pure]
theorem bD (ho : o.op = .store 29 x y) (hx : ρ x = .pointer (some ⟨b, off, none⟩)) (hy : ρ y = blk c) (ht : w.there b off 64) : (execOp ρ o).run prog w = .ok .skip (w.setCells b off (cel c)) := by
 unfold execOp;simp only [ho, hx, hy, Sem.run_bind, run_store ht, Result.andThen_ok, Sem.run_pure]
theorem fY (ho : o.op = .store 29 x y) (hx : ρ x = .pointer (some ⟨w.heap.size, 0, none⟩)) (hy : ρ y = blk c) : (execOp ρ o).run prog (w.alloc (.cells (cel d).toArray 29)) = .ok .skip (w.alloc (.cells (cel c).toArray 29)) := by
 have h := run_storeAt_new (P := prog) w 29 (cel d).toArray (cel c).toArray (by simpa [aL] using oU) (by simp [aL]) (all_oneCell_toArray (kA c));unfold execOp;simp only [ho, hx, hy, Sem.run_bind];unfold blk;rw [h];simp
theorem bZ (ho : o.op = .box 29 x) (hx : ρ x = blk c) : (execOp ρ o).run prog w = .ok (.value (.pointer (some ⟨w.heap.size, 0, none⟩))) (w.alloc (.cells (cel c).toArray 29)) := by
 unfold execOp;simp only [ho, hx, Sem.run_bind, aam, Result.andThen_ok, Sem.run_pure]
theorem bw (ho : o.op = .alloc 29) : (execOp ρ o).run prog w = .ok (.value (.pointer (some ⟨w.heap.size, 0, none⟩))) (w.alloc (.cells (cel aF).toArray 29)) := by
 unfold execOp;simp only [ho, Sem.run_bind, vh, Result.andThen_ok, Sem.run_pure]
theorem tf (op : BinOp) (x y : Operand) (c d : Blk) (w : World) : (eqGuard op 29 x y (blk c) (blk d)).run prog w = .ok () w := run_eqGuard_agg w op _ x y _ _ abZ
theorem yS {t : TypeId} (ho : o.op = .binOp .neq 29 x y t) (hx : ρ x = blk c) (hy : ρ y = blk d) : (execOp ρ o).run prog w = .ok (.value (.bool (!decide (c = d)))) w := by
 have h := run_neq_struct (P := prog) w 29 (cel c).toArray (cel d).toArray;have he := aa2 w c d 9998;unfold blk at he;rw [he] at h;unfold execOp;simp only [ho, hx, hy, Sem.run_bind, tf, Result.andThen_ok];unfold blk;rw [h];simp
theorem run_build {parts : List (Nat × Value)} (h : Instr.fill (fun i => some (i * 1, 1)) (cel aF).toArray parts = some (cel c).toArray) (w : World) : (Instr.build 29 parts.toArray).run prog w = .ok (blk c) w := by
 simp only [Instr.build, Sem.run_bind, ol, run_underlying pi, Result.andThen_ok, Tryz.sizeOf5, gT, h, Sem.run_pure]
 rfl
theorem cQ {parts : List (Nat × Operand)} (ho : o.op = .build 29 parts.toArray) (h : Instr.fill (fun i => some (i * 1, 1)) (cel aF).toArray (parts.map fun (i, x) => (i, ρ x)) = some (cel c).toArray) : (execOp ρ o).run prog w = .ok (.value (blk c)) w := by
 unfold execOp;simp only [ho, List.map_toArray, Sem.run_bind, run_build h, Result.andThen_ok, Sem.run_pure]
end
theorem e9 {ρ : Operand -> Value} {o : Oper} {x y : Operand} {w : World} {c : Blk} (ho : o.op = .store 29 x y) (hx : ρ x = .pointer (some ⟨w.heap.size, 0, none⟩)) (hy : ρ y = blk c) : (execOp ρ o).run prog (w.alloc (.cells (cel aF).toArray 29)) = .ok .skip (w.alloc (.cells (cel c).toArray 29)) := fY ho hx hy
theorem uH {fn : Func} {p : Tmp} {c : Blk} (h : fn.results = #[.cell p 29]) (tmps : Array Value) (w : World) (b : Nat) (hp : tmps.getD p undef = .pointer (some ⟨b, 0, none⟩)) (hc : w.rangeAt b 0 (cel c)) :
  (results fn tmps).run prog w = .ok (blk c) w := by
 have hl : (loadVar 29 ⟨b, 0, none⟩).run prog w = .ok (blk c) w := run_loadVar_mid w b 0 29 (cel c) _ hc pi rfl (by rw [aL]; exact oU);have hp' : tmps[p]?.getD undef = .pointer (some ⟨b, 0, none⟩) := by simpa using hp
 simp [results, h, hp', asAddr, hl]
theorem cI {fn : Func} {p u : Tmp} {c : Blk} (h : fn.results = #[.cell p 29, .tmp u]) (tmps : Array Value) (w : World) (b : Nat) (hp : tmps.getD p undef = .pointer (some ⟨b, 0, none⟩)) (hc : w.rangeAt b 0 (cel c)) :
  (results fn tmps).run prog w = .ok (.tuple #[blk c, tmps.getD u undef]) w := by
 have hl : (loadVar 29 ⟨b, 0, none⟩).run prog w = .ok (blk c) w := run_loadVar_mid w b 0 29 (cel c) _ hc pi rfl (by rw [aL]; exact oU);have hp' : tmps[p]?.getD undef = .pointer (some ⟨b, 0, none⟩) := by simpa using hp
 simp [results, h, hp', asAddr, hl]
section
variable {w w' : World} {B b o n : Nat} {cs : List Value} {c : Blk}
theorem ec (w : World) (c : Blk) (t : TypeId) : (w.alloc (.cells (cel c).toArray t)).there w.heap.size 0 64 := fun j hj => by
 rw [cell_of_row _ _ (0 + j) _ t (0, 0) (heap_alloc_new w _), frozen_of_row _ _ (0 + j) _ t (heap_alloc_new w _)];exact ⟨by simp [aL]; omega, rfl⟩
theorem oF {g m : Nat} {t : TypeId} {f : Nat -> Value} (h : w.rowIs g t m f) (ho : o + n <= m) : w.there g o n := fun j hj => by
 rw [h.cell (i := o + j) (by omega), h.frozen (o + j)];exact ⟨rfl, rfl⟩
theorem vV {g m : Nat} {t : TypeId} {f : Nat -> Int} (h : w.rowIs g t m (fun j => .int .u8 (f j))) (ho : o + 64 <= m) (hf : ∀ j, j < 64 -> f (o + j) = byt c j) : w.rangeAt g o (cel c) := fun j v hj => by
 have hlt : j < 64 := by have := (List.getElem?_eq_some_iff.1 hj).1; rwa [aL] at this
 rw [h.cell (i := o + j) (by omega), <- hj, kg c hlt]
 show some (Value.int .u8 (f (o + j))) = _
 rw [hf j hlt]
theorem aat (w : World) (c : Blk) (t : TypeId) : (w.alloc (.cells (cel c).toArray t)).rowIs w.heap.size t 64 (fun j => .int .u8 (byt c j)) := by
 have h := World.rowIs_alloc w (cel c).toArray t (fun j => .int .u8 (byt c j)) (fun i hi => by
  have : i < 64 := by simpa [aL] using hi
  simpa using kg c this)
 simpa [aL] using h
end
theorem aaI (c : Blk) {r : Nat} (hr : r < 64) (u : UInt8) : (cel c).set r (.int .u8 (u.toNat : Int)) = cel (c.set r u) := by
 unfold cel;rw [<- List.map_set, Vector.toList_set]
structure Only (F : Nat -> Prop) (w w' : World) : Prop where
 os : w'.os = w.os
 tape : w'.tape = w.tape
 output : w'.output = w.output
 size : w.heap.size <= w'.heap.size
 block : ∀ k, k < w.heap.size -> ¬ F k -> w'.heap[k]? = w.heap[k]?
section
variable {F G : Nat -> Prop} {w w1 w2 a : World} {B : Nat}
theorem Only.refl (F : Nat -> Prop) (w : World) : Only F w w := ⟨rfl, rfl, rfl, ai, fun _ _ _ => rfl⟩
theorem Only.trans (h : Only F w w1) (k : Only G w1 w2) (hG : ∀ b, G b -> F b \/ w.heap.size <= b) : Only F w w2 :=
 ⟨k.os.trans h.os, k.tape.trans h.tape, k.output.trans h.output, ap h.size k.size, fun b hb hn =>
  (k.block b (aq hb h.size) (fun hg => by rcases hG b hg with e | e; exact hn e; omega)).trans (h.block b hb hn)⟩
theorem Only.widen (h : Only F w w1) (hG : ∀ b, F b -> G b) : Only G w w1 := ⟨h.os, h.tape, h.output, h.size, fun b hb hn => h.block b hb fun e => hn (hG b e)⟩
theorem Only.of_below (F : Nat -> Prop) (h : Below w.heap.size w w1) : Only F w w1 := ⟨h.os, h.tape, h.output, h.size, fun b hb _ => h.block b hb⟩
theorem Only.below (h : Only F w w1) (hF : ∀ b, F b -> B <= b) (hB : B <= w.heap.size) : Below B w w1 := ⟨h.os, h.tape, h.output, h.size, fun b hb => h.block b (by omega) fun e => by have := hF b e; omega⟩
theorem Only.mY (h : Only F w w1) (k : Below w1.heap.size w1 w2) : Only F w w2 := h.trans (Only.of_below F k) fun _ hb => .inl hb
theorem Only.drew (h : Only F w w1) : Only F w w1.drew := ⟨h.os, h.tape, h.output, h.size, h.block⟩
theorem Only.alloc (h : Only F w w1) (o : Obj) : Only F w (w1.alloc o) := h.mY (aj.alloc ai o)
theorem Only.setCell (h : Only F w w1) {p : Addr} (hp : F p.block \/ w.heap.size <= p.block) (u : Value) : Only F w (w1.setCell p u) :=
 ⟨h.os, h.tape, h.output, by have := h.size; simpa [World.setCell] using this, fun b hb hn => (Below.heap_setCell w1 p u b (fun e => by subst e; rcases hp with e | e; exact hn e; omega)).trans (h.block b hb hn)⟩
theorem Only.grown {row : Option Nat} (h : Only F w w1) (hg : w1.grownBy w2 row) (hr : ∀ k, row = some k -> F k \/ w.heap.size <= k) : Only F w w2 :=
 ⟨hg.os.trans h.os, hg.tape.trans h.tape, hg.output.trans h.output, ap h.size hg.size, fun b hb hn =>
  (hg.block b (aq hb h.size) (fun e => by rcases hr b e.symm with e | e; exact hn e; omega)).trans (h.block b hb hn)⟩
theorem Only.keep {o : Obj} {b : Nat} (h : Only F w w1) (hb : w.heap[b]? = some o) (hn : ¬ F b) : w1.heap[b]? = some o := (h.block b (Array.getElem?_eq_some_iff.1 hb).1 hn).trans hb
theorem Only.cell (h : Only F w w1) {p : Addr} (hp : p.block < w.heap.size) (hn : ¬ F p.block) : w1.cell? p = w.cell? p := World.cell?_of_block (w := w) (h.block _ hp hn)
end
theorem aB {w w' : World} {b : Nat} {o : Obj} (h : w.heap[b]? = some o) (hb : Below w.heap.size w w') : w'.heap[b]? = some o := (hb.block b (Array.getElem?_eq_some_iff.1 h).1).trans h
theorem lM {w w' : World} {B b : Nat} {o : Obj} (h : w.heap[b]? = some o) (hB : b < B) (hb : Below B w w') : w'.heap[b]? = some o := (hb.block b hB).trans h
theorem bO {w : World} {b : Nat} {o : Obj} (h : w.heap[b]? = some o) (o' : Obj) : (w.alloc o').heap[b]? = some o := (Below.heap_alloc w o' b (Array.getElem?_eq_some_iff.1 h).1).trans h
theorem aY {w : World} {b : Nat} {o : Obj} (h : w.heap[b]? = some o) : b < w.heap.size := (Array.getElem?_eq_some_iff.1 h).1
section
variable {w : World} {b : Nat} {t : TypeId} {x y z : Value}
theorem cells3 (h : w.heap[b]? = some (.cells #[x, y, z] t (0, 0))) : w.cell? ⟨b, 0, none⟩ = some x /\ w.cell? ⟨b, 1, none⟩ = some y /\ w.cell? ⟨b, 2, none⟩ = some z := by
 refine ⟨?_, ?_, ?_⟩
 ·rw [cell_of_row w b 0 _ t (0, 0) h]; rfl
 ·rw [cell_of_row w b 1 _ t (0, 0) h]; rfl
 ·rw [cell_of_row w b 2 _ t (0, 0) h]; rfl
end
theorem l9 (w : World) (cs : Array Value) (t : TypeId) : (w.alloc (.cells cs t)).heap[w.heap.size]? = some (.cells cs t) := heap_alloc_new w _
def lw : Elt Blk where
 s := 95
 t := 29
 n := 64
 by_ := 64
 cel := cel
 d := aF
 z := blk aF
 pos := by omega
 small := by omega
 len := aL
 one := kA
 und := underlying95
 info := yj
 zc := by rw [gT]; simp [aL]
def eM (p : Int × Blk) : List Value := .int .i64 p.1 :: cel p.2
def gD (n : Int) (b : Blk) : Value := .agg (.int .i64 n :: cel b).toArray
theorem pf (p : Int × Blk) : (eM p).length = 65 := by simp [eM, aL]
theorem uX (p : Int × Blk) : ∀ v ∈ eM p, v.oneCell' = true := by
 intro v hv;simp only [eM, List.mem_cons] at hv;rcases hv with rfl | hv
 ·rfl
 ·exact kA p.2 v hv
def qZ (s t : TypeId) (und : prog.underlying s = some (.slice t)) (info : (prog.info? t).map (fun i => (i.zero, i.size, i.bytes)) = some (some (gD 0 aF), 65, 72)) : Elt (Int × Blk) where
 s := s
 t := t
 n := 65
 by_ := 72
 cel := eM
 d := (0, aF)
 z := gD 0 aF
 pos := by omega
 small := by omega
 len := pf
 one := uX
 und := und
 info := info
 zc := by show (Value.cells (.agg _)).size = 65; simp [Value.cells, aL]
section
variable {s t : TypeId} {und : prog.underlying s = some (.slice t)} {info : (prog.info? t).map (fun i => (i.zero, i.size, i.bytes)) = some (some (gD 0 aF), 65, 72)} {w : World} {B n k : Nat} {A : Option Addr} {l : List (Int × Blk)}
theorem RdE.pair (h : RdE (qZ s t und info) w B A n l) (hk : k < n) : ∃ b off, A = some ⟨b, off, none⟩ /\ b < B /\ w.cell? ⟨b, off + k * 65, none⟩ = some (.int .i64 (l.getD k (0, aF)).1) /\ w.rangeAt b (off + k * 65 + 1) (cel (l.getD k (0, aF)).2) := by
 obtain ⟨b, off, e, hb, hc⟩ := h.2 k hk;refine ⟨b, off, e, hb, hc 0 _ rfl, fun j v hj => ?_⟩;have := hc (j + 1) v hj;rwa [show off + k * (qZ s t und info).n + (j + 1) = off + k * 65 + 1 + j from by show off + k * 65 + (j + 1) = _; omega] at this
end
theorem RdE.blk {w : World} {B n k : Nat} {A : Option Addr} {l : List Blk} (h : RdE lw w B A n l) (hk : k < n) : ∃ b off, A = some ⟨b, off, none⟩ /\ b < B /\ w.rangeAt b (off + k * 64) (cel (l.getD k aF)) := h.2 k hk
theorem Only.setCells {F : Nat -> Prop} {w w1 : World} {b : Nat} (h : Only F w w1) (hb : F b \/ w.heap.size <= b) : ∀ (vs : List Value) (o : Nat), Only F w (w1.setCells b o vs) := by
 intro vs
 induction vs generalizing w1 with
 |nil => intro o; exact h
 |cons v r ih => intro o; exact ih (h.setCell (p := ⟨b, o, none⟩) hb v) (o + 1)
theorem q8 {w : World} {b : Nat} {t : TypeId} {c d : Blk} (h : w.heap[b]? = some (.cells (cel c).toArray t (0, 0))) : (w.setCells b 0 (cel d)).heap[b]? = some (.cells (cel d).toArray t (0, 0)) := by
 have := heap_put b t [] (cel d) (cel c) [] w (by rw [aL, aL]) (by simpa using h)
 simpa using this
theorem ib {w : World} {b : Nat} {t : TypeId} {c : Blk} (h : w.heap[b]? = some (.cells (cel c).toArray t (0, 0))) : w.rangeAt b 0 (cel c) := fun j v hj => by
 rw [cell_of_row _ _ (0 + j) (cel c).toArray t (0, 0) h]
 simpa using hj
theorem eF {w : World} {b : Nat} {t : TypeId} {c : Blk} (h : w.heap[b]? = some (.cells (cel c).toArray t (0, 0))) : w.there b 0 64 := fun j hj => by
 rw [cell_of_row _ _ (0 + j) _ t (0, 0) h, frozen_of_row _ _ (0 + j) _ t h];exact ⟨by simp [aL]; omega, rfl⟩
end Go.Proofs.YtehefifamaofkaaGreatDoor
