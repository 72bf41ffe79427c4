import Derived.Laws.OwnMore
import Derived.Deep.Draws
import Derived.Laws.Rows
import Derived.OwnWalk
import Derived.Deep.OwnRows
import Derived.Test.YtehefifamaofkaaGreatDoorRows
import Derived.WalkKit
import Derived.ProofKit
import Derived.OpenShut
import Derived.ShutString
import Derived.ChangeOld
import Derived.SizedLaws
import Derived.JoinedCond
import Derived.Test.YtehefifamaofkaaGreatDoorProg
import Derived.RegionTactic
import Derived.ChangeAlike
import Derived.Deep.QuietTactic
import Derived.BigQuiet
import Derived.WalkLawsBesides
import Derived.WalkSpells
import Derived.Laws.BitsAllLaws
import Derived.Deep.DeepHandedRow
import Derived.Lib.LaidTab
import Derived.Lib.SmallJoins
import Derived.LaidSub
import Derived.Deep.MidRow
import Derived.StillTailTactics
import Derived.Deep.WholeRow
import Derived.Deep.Quiet
import Derived.Laws.StructEq
import Derived.Laws.NewBlocks
import Derived.OrdersHeld
import Derived.Laws.AppendOwn
import Derived.Laws.IdiomCopy
import Derived.Test.YtehefifamaofkaaGreatDoorGsZ
namespace Go.Proofs.YtehefifamaofkaaGreatDoor
set_option maxHeartbeats 8000000
open Go.Proofs.Tryz
open Go.RowKit
set_option maxRecDepth 100000
def bt (l : List UInt8) (k : Nat) : Int := ((l.getD k 0).toNat : Int)
theorem iY (l : List UInt8) (k : Nat) : 0 <= bt l k := by unfold bt; omega
theorem kh (l : List UInt8) (k : Nat) : bt l k <= 255 := by
 unfold bt;have := UInt8.toNat_lt (l.getD k 0);omega
theorem dJ {l : List UInt8} {k : Nat} (h : k < l.length) : bt l k = (l[k].toNat : Int) := by
 unfold bt;simp [List.getD, List.getElem?_eq_getElem h]
theorem fE {a b : List UInt8} (hl : a.length = b.length) (h : ∀ k, k < a.length -> bt a k = bt b k) : a = b := by
 apply List.ext_getElem hl;intro k h1 h2;have := h k h1;rw [dJ h1, dJ h2] at this;exact UInt8.toNat_inj.1 (by omega)
def Rd (w : World) (B : Nat) (A : Option Addr) (n : Nat) (l : List UInt8) : Prop :=
 l.length = n /\ ∀ k, k < n -> ∃ b off, A = some ⟨b, off, none⟩ /\ b < B /\ w.cell? ⟨b, off + k, none⟩ = some (.int .u8 (bt l k))
section
variable {w w' : World} {B B' n : Nat} {A : Option Addr} {l : List UInt8}
theorem Rd.nil (w : World) (B : Nat) (A : Option Addr) : Rd w B A 0 [] := ⟨rfl, fun k hk => absurd hk (by omega)⟩
theorem Rd.keep (h : Rd w B A n l) (hk : ∀ p : Addr, p.block < B -> w'.cell? p = w.cell? p) : Rd w' B A n l :=
 ⟨h.1, fun k hn => by
  obtain ⟨b, off, e, hb, hc⟩ := h.2 k hn;exact ⟨b, off, e, hb, (hk _ hb).trans hc⟩⟩
theorem Rd.below (h : Rd w B A n l) (hb : Below B w w') : Rd w' B A n l := h.keep fun _ hp => hb.cell hp
end
theorem bdn {B : Nat} {a w : World} (h : Below B a w) (k : Nat) : Below B a (w.drewN k) := ⟨h.os, h.tape, h.output, h.size, h.block⟩
theorem bd {B : Nat} {a w : World} (h : Below B a w) : Below B a w.drew := ⟨h.os, h.tape, h.output, h.size, h.block⟩
theorem two {a b c : World} (h1 : Below a.heap.size a b) (h2 : Below b.heap.size b c) : Below a.heap.size a c := h1.trans (h2.mono h1.size)
theorem bg {a b : Bool} (h : a = b) : Ending.returned (.bool a) = .returned (.bool b) := by rw [h]
theorem pl {k k' : IntKind} {a b a' b' : Int} (h : a = b) (h' : a' = b') : Ending.returned (.tuple #[.int k a, .int k' a']) = .returned (.tuple #[.int k b, .int k' b']) := by rw [h, h']
theorem bH {k : IntKind} {a b : Int} (h : a = b) : Ending.returned (.int k a) = .returned (.int k b) := by rw [h]
def Made (w : World) (base : Nat) (v : Value) (l : List UInt8) : Prop :=
 w.ownsRow base 5 1 v l.length (l.map fun u => .int .u8 (u.toNat : Int))
theorem Made.form {w : World} {base : Nat} {v : Value} {l : List UInt8} (h : Made w base v l) : ∃ A c, v = .slice A l.length c /\ l.length <= c /\ c <= maxLen := by
 rcases h.2 with ⟨rfl, h0⟩ | ⟨g, cap, cur, rfl, _, _, h1, h2, _⟩
 ·exact ⟨none, 0, by rw [h0], by omega, by simp [maxLen]⟩
 ·exact ⟨_, cap, rfl, h1, h2⟩
theorem Made.rd {w : World} {base n c : Nat} {A : Option Addr} {l : List UInt8} (h : Made w base (.slice A n c) l) : Rd w w.heap.size A n l := by
 rcases h.2 with ⟨hv, h0⟩ | ⟨g, cap, cur, hv, _, hg, _, _, _, ht⟩
 ·have hl : l = [] := List.eq_nil_of_length_eq_zero h0;subst hl;injection hv with h1 h2 h3;subst h2;exact Rd.nil _ _ _
 ·injection hv with h1 h2 h3;subst h1 h2 h3;refine ⟨rfl, fun k hk => ⟨g, 0, rfl, (Array.getElem?_eq_some_iff.1 hg).1, ?_⟩⟩;rw [cell_of_row w g (0 + k) cur 5 (0, 0) hg];have h2 : (cur.toList.take (l.length * 1))[k]? = (l.map fun u => Value.int .u8 (u.toNat : Int))[k]? := by rw [ht]
  rw [List.getElem?_take_of_lt (by omega), List.getElem?_map, List.getElem?_eq_getElem hk] at h2;rw [dJ hk, Nat.zero_add]
  simpa using h2
theorem Made.open_ {w : World} {base n : Nat} {v : Value} {l : List UInt8} (h : Made w base v l) (hn : l.length = n) : ∃ A c, v = .slice A n c /\ Rd w w.heap.size A n l /\ n <= c /\ c <= maxLen := by
 subst hn;obtain ⟨A, c, rfl, h1, h2⟩ := h.form;exact ⟨A, c, rfl, h.rd, h1, h2⟩
def upd (f : Nat -> Int) (i : Nat) (x : Int) : Nat -> Int := fun j => if j = i then x else f j
theorem nG (f : Nat -> Int) (i : Nat) (x : Int) : upd f i x i = x := by unfold upd; rw [if_pos rfl]
theorem kI (f : Nat -> Int) {i j : Nat} (x : Int) (h : j ≠ i) : upd f i x j = f j := by unfold upd; rw [if_neg h]
theorem sw {w : World} {g c i : Nat} {f : Nat -> Int} {e : TypeId} (h : w.rowIs g e c (fun j => .int .u8 (f j))) (x : Int) : (w.setCell ⟨g, i, none⟩ (.int .u8 x)).rowIs g e c (fun j => .int .u8 (upd f i x j)) :=
 (h.set i _).congr fun j _ => by
  unfold upd
  split
  ·rfl
  ·rfl
def Own (w : World) (base : Nat) (v : Value) (l : List UInt8) : Prop :=
 ∃ (g c : Nat) (f : Nat -> Int), v = .slice (some ⟨g, 0, none⟩) l.length c /\ base <= g /\ w.rowIs g 5 c (fun j => .int .u8 (f j)) /\ l.length <= c /\ c <= maxLen /\ (∀ j, j < l.length -> f j = bt l j) /\ ∀ j, 0 <= f j /\ f j <= 255
theorem Own.made {w : World} {base : Nat} {v : Value} {l : List UInt8} (h : Own w base v l) : Made w base v l := by
 obtain ⟨g, c, f, rfl, hb, ⟨cur, hg, hn, hc⟩, h1, h2, hf, _⟩ := h;refine ⟨by simp, .inr ⟨g, c, cur, rfl, hb, hg, h1, h2, by simpa using hn, ?_⟩⟩;apply List.ext_getElem?;intro k;by_cases hk : k < l.length
 ·rw [List.getElem?_take_of_lt (by omega), List.getElem?_map, List.getElem?_eq_getElem hk, Array.getElem?_toList, hc k (by omega)]
  show some (Value.int .u8 (f k)) = _
  rw [hf k hk, dJ hk]
  rfl
 ·rw [List.getElem?_eq_none (by simp; omega), List.getElem?_eq_none (by simp; omega)]
theorem Own.pX {w : World} {base g c : Nat} {f : Nat -> Int} {l : List UInt8} {n : Nat} (hn : l.length = n) (hb : base <= g) (h : w.rowIs g 5 c (fun j => .int .u8 (f j))) (h1 : n <= c) (h2 : c <= maxLen)
  (hf : ∀ j, j < n -> f j = bt l j) (hr : ∀ j, 0 <= f j /\ f j <= 255) : Own w base (.slice (some ⟨g, 0, none⟩) n c) l := by
 subst hn;exact ⟨g, c, f, rfl, hb, h, h1, h2, hf, hr⟩
open Go.RowKit Go.ChangeShapes Go.WideShapes Go.ChangeAt
theorem aaw : ownKnob prog.godebug = none := by kernel_rfl
def val (w : Nat) : List UInt8 -> Nat
 |[] => 0
 |u :: r => u.toNat + 2 ^ w * val w r
def bf (w n V : Nat) : List UInt8 := (List.range n).map fun j => UInt8.ofNat (V / 2 ^ (w * j) % 2 ^ w)
theorem aF (w n V : Nat) : (bf w n V).length = n := by simp [bf]
theorem lU {w : Nat} (hw : w <= 8) (x : Nat) : x % 2 ^ w < 256 := by
 have h1 : x % 2 ^ w < 2 ^ w := Nat.mod_lt _ (Nat.pow_pos (by omega));have h2 : 2 ^ w <= 2 ^ 8 := Nat.pow_le_pow_right (by omega) hw;omega
theorem gx {w n V j : Nat} (hw : w <= 8) (h : j < (bf w n V).length) : ((bf w n V)[j]).toNat = V / 2 ^ (w * j) % 2 ^ w := by
 simp only [bf, List.getElem_map, List.getElem_range, UInt8.toNat_ofNat'];exact Nat.mod_eq_of_lt (lU hw _)
theorem sN (w n V : Nat) : bf w (n + 1) V = UInt8.ofNat (V % 2 ^ w) :: bf w n (V / 2 ^ w) := by
 simp only [bf, List.range_succ_eq_map, List.map_cons, List.map_map]
 congr 1
 ·simp
 ·apply List.map_congr_left;intro j _;simp only [Function.comp];rw [Nat.div_div_eq_div_mul, <- Nat.pow_add]
  congr 3
  rw [Nat.mul_succ, Nat.add_comm]
theorem jB {w : Nat} (hw : w <= 8) (n V : Nat) : val w (bf w n V) = V % 2 ^ (w * n) := by
 induction n generalizing V with
 |zero => simp [bf, val, Nat.mod_one]
 |succ n ih =>
  rw [sN, val, ih, UInt8.toNat_ofNat', Nat.mod_eq_of_lt (lU hw _), Nat.mul_succ, Nat.add_comm (w * n) w, Nat.pow_add, Nat.mod_mul]
theorem pY {w : Nat} {l : List UInt8} (h : ∀ u ∈ l, u.toNat < 2 ^ w) : val w l < 2 ^ (w * l.length) := by
 induction l with
 |nil => simp [val]
 |cons u r ih =>
  have h1 := ih fun x hx => h x (List.mem_cons_of_mem _ hx)
  have h2 := h u List.mem_cons_self;rw [val, List.length_cons, Nat.mul_succ, Nat.add_comm (w * r.length) w, Nat.pow_add];have h3 : 2 ^ w * (val w r + 1) <= 2 ^ w * 2 ^ (w * r.length) := Nat.mul_le_mul_left _ h1;rw [Nat.mul_succ] at h3;omega
theorem sy (w : Nat) (u : UInt8) : val w [u] = u.toNat := by rw [val, val, Nat.mul_zero, Nat.add_zero]
theorem val_append (w : Nat) (a b : List UInt8) : val w (a ++ b) = val w a + 2 ^ (w * a.length) * val w b := by
 induction a with
 |nil => simp [val]
 |cons u r ih =>
  rw [List.cons_append, val, val, ih, List.length_cons, Nat.mul_succ, Nat.add_comm (w * r.length) w, Nat.pow_add, Nat.mul_add, Nat.mul_assoc, Nat.add_assoc]
theorem mD {w : Nat} {l : List UInt8} (h : ∀ u ∈ l, u.toNat < 2 ^ w) (j : Nat) : val w l / 2 ^ (w * j) % 2 ^ w = (l.getD j 0).toNat := by
 induction l generalizing j with
 |nil => simp [val]
 |cons u r ih =>
  have h2 := h u List.mem_cons_self;have h0 : 0 < 2 ^ w := Nat.pow_pos (by omega);cases j with
  |zero =>
   rw [val, Nat.mul_zero, Nat.pow_zero, Nat.div_one, Nat.add_mul_mod_self_left, Nat.mod_eq_of_lt h2]
   rfl
  |succ j =>
   rw [val, Nat.mul_succ, Nat.add_comm (w * j) w, Nat.pow_add, <- Nat.div_div_eq_div_mul, Nat.add_mul_div_left _ _ h0, Nat.div_eq_of_lt h2, Nat.zero_add, ih fun x hx => h x (List.mem_cons_of_mem _ hx)];simp
theorem ox {w : Nat} {l : List UInt8} (h : ∀ u ∈ l, u.toNat < 2 ^ w) : bf w l.length (val w l) = l := by
 apply List.ext_getElem (aF _ _ _);intro j h1 h2;simp only [bf, List.getElem_map, List.getElem_range];rw [mD h];simp [List.getD, List.getElem?_eq_getElem h2]
theorem nr (l : List UInt8) : ∀ u ∈ l, u.toNat < 2 ^ 8 := fun u _ => UInt8.toNat_lt u
def dg (V j : Nat) : Nat := V / 2 ^ (8 * j) % 2 ^ 8
theorem i1 (V j : Nat) : dg V j < 256 := Nat.mod_lt _ (by decide)
theorem gD (V j t : Nat) : (dg V j).testBit t = (decide (t < 8) && V.testBit (8 * j + t)) := by
 unfold dg;rw [Nat.testBit_mod_two_pow, Nat.testBit_div_two_pow, Nat.add_comm]
theorem kM {V s : Nat} (x : Nat) (hV : V < 2 ^ s) (t : Nat) : (V + 2 ^ s * x).testBit t = if t < s then V.testBit t else x.testBit (t - s) := by
 rw [Nat.add_comm, Nat.testBit_two_pow_mul_add x hV]
theorem iz {V s t : Nat} (hV : V < 2 ^ s) (h : s <= t) : V.testBit t = false :=
 Nat.testBit_lt_two_pow (aq hV (Nat.pow_le_pow_right (by omega) h))
theorem oN {V s x : Nat} (hV : V < 2 ^ s) : dg V (s / 8) ||| (x * 2 ^ (s % 8) % 2 ^ 8) = dg (V + 2 ^ s * x) (s / 8) := by
 apply Nat.eq_of_testBit_eq;intro t;rw [Nat.testBit_or, gD, gD, Nat.testBit_mod_two_pow, kM x hV, Nat.testBit_mul_two_pow];by_cases ht : t < 8
 ·by_cases h2 : t < s % 8
  ·have h3 : 8 * (s / 8) + t < s := by omega
   simp [ht, h3];omega
  ·have h3 : ¬ 8 * (s / 8) + t < s := by omega
   have h4 : 8 * (s / 8) + t - s = t - s % 8 := by omega
   rw [iz hV (by omega)];simp [ht, h3, h4];omega
 ·simp [ht]
theorem wk {V s x : Nat} (hV : V < 2 ^ s) (hx : x < 2 ^ 8) : dg V (s / 8 + 1) ||| (x * 2 ^ (s % 8) / 2 ^ 8) = dg (V + 2 ^ s * x) (s / 8 + 1) := by
 apply Nat.eq_of_testBit_eq;intro t;rw [Nat.testBit_or, gD, gD, Nat.testBit_div_two_pow, kM x hV, Nat.testBit_mul_two_pow];have h3 : ¬ 8 * (s / 8 + 1) + t < s := by omega
 have h4 : 8 * (s / 8 + 1) + t - s = t + 8 - s % 8 := by omega
 have h5 : s % 8 <= t + 8 := by omega
 rw [iz hV (by omega)];by_cases ht : t < 8
 ·simp [ht, h3, h4, h5]
 ·rw [iz hx (by omega)];simp [ht]
theorem mJ {V s x d j : Nat} (hV : V < 2 ^ s) (hx : x < 2 ^ d) (hj : j < s / 8 \/ s + d <= 8 * j) : dg (V + 2 ^ s * x) j = dg V j := by
 apply Nat.eq_of_testBit_eq;intro t;rw [gD, gD, kM x hV];by_cases ht : t < 8
 ·rcases hj with hj | hj
  ·have : 8 * j + t < s := by omega
   simp [this]
  ·have h3 : ¬ 8 * j + t < s := by omega
   rw [iz hV (by omega), if_neg h3, iz hx (by omega)]
 ·simp [ht]
theorem wU {V s X d q ab : Nat} (hV : V < 2 ^ s) (hX : X < 2 ^ d) (hd : d <= 8) (hq : s / 8 = q) (hab : s % 8 = ab) (k : Nat) :
  dg (V + 2 ^ s * X) k = if k = q + 1 then dg V (q + 1) ||| (X * 2 ^ ab / 2 ^ 8) else if k = q then dg V q ||| (X * 2 ^ ab % 2 ^ 8) else dg V k := by
 subst hq hab
 split
 ·rename_i h
  rw [h, wk hV (aq hX (Nat.pow_le_pow_right (by omega) hd))]
 ·split
  ·rename_i h
   rw [h, oN hV]
  ·exact mJ hV hX (by omega)
theorem qI {V s X d q ab : Nat} (hV : V < 2 ^ s) (hX : X < 2 ^ d) (hs : ab + d <= 8) (hq : s / 8 = q) (hab : s % 8 = ab) (k : Nat) :
  dg (V + 2 ^ s * X) k = if k = q then dg V q ||| (X * 2 ^ ab % 2 ^ 8) else dg V k := by
 subst hq hab
 split
 ·rename_i h
  rw [h, oN hV]
 ·exact mJ hV hX (by omega)
theorem iZ {d i : Nat} {l : List UInt8} (h : i < l.length) : val d (l.take (i + 1)) = val d (l.take i) + 2 ^ (i * d) * l[i].toNat := by
 rw [List.take_succ_eq_append_getElem h, val_append, sy, List.length_take, Nat.min_eq_left (by omega), Nat.mul_comm d i]
theorem kg {d : Nat} {l : List UInt8} (hall : ∀ u ∈ l, u.toNat < 2 ^ d) {i : Nat} (h : i <= l.length) : val d (l.take i) < 2 ^ (i * d) := by
 have := pY (l := l.take i) (w := d) fun u hu => hall u (List.mem_of_mem_take hu)
 rwa [List.length_take, Nat.min_eq_left h, Nat.mul_comm] at this
theorem qp {V s d : Nat} (hd : d <= 8) : (dg V (s / 8) + 2 ^ 8 * dg V (s / 8 + 1)) / 2 ^ (s % 8) % 2 ^ d = V / 2 ^ s % 2 ^ d := by
 apply Nat.eq_of_testBit_eq;intro t;rw [Nat.testBit_mod_two_pow, Nat.testBit_mod_two_pow, Nat.testBit_div_two_pow, Nat.testBit_div_two_pow, kM _ (i1 V _), gD, gD];by_cases ht : t < d
 ·by_cases h2 : t + s % 8 < 8
  ·have h3 : 8 * (s / 8) + (t + s % 8) = t + s := by omega
   simp [ht, h2, h3]
  ·have h3 : 8 * (s / 8 + 1) + (t + s % 8 - 8) = t + s := by omega
   have h4 : t + s % 8 - 8 < 8 := by omega
   simp [ht, h2, h3, h4]
 ·simp [ht]
theorem qk {V s d : Nat} (hd : s % 8 + d <= 8) : dg V (s / 8) / 2 ^ (s % 8) % 2 ^ d = V / 2 ^ s % 2 ^ d := by
 apply Nat.eq_of_testBit_eq;intro t;rw [Nat.testBit_mod_two_pow, Nat.testBit_mod_two_pow, Nat.testBit_div_two_pow, Nat.testBit_div_two_pow, gD];by_cases ht : t < d
 ·have h2 : t + s % 8 < 8 := by omega
  have h3 : 8 * (s / 8) + (t + s % 8) = t + s := by omega
  simp [ht, h2, h3]
 ·simp [ht]
theorem qt : (prog.info? 5).map (fun i => (i.zero, i.size, i.bytes)) = some (some (.int .u8 0), 1, 1) := by kernel_rfl
def stp (r : Nat) : Nat := if r % 2 = 1 then r / 2 ^^^ 2197175160 else r / 2
def steps : Nat -> Nat -> Nat
 |0, r => r
 |n + 1, r => steps n (stp r)
def tak (r c : Nat) : Nat := steps 8 (r ^^^ c)
def run (r : Nat) (l : List UInt8) : Nat := l.foldl (fun r u => tak r u.toNat) r
def abz (m r : Nat) : Nat := m ^^^ r
def neg (r : Nat) : Nat := abz 4294967295 r
def more (s : Nat) (l : List UInt8) : Nat := neg (run (neg s) l)
def tab (i : Nat) : Nat := [0, 274646895, 549293790, 820201905, 1098587580, 1361435347, 1640403810, 1905808397, 2197175160, 2460548119, 2722870694, 2987750089, 3280807620, 3553878443, 3811616794, 4084100981].getD i 0
def hlf (r : Nat) : Nat := r / 16 ^^^ tab (r % 16)
theorem nl {a b : Nat} (ha : a < 4294967296) (hb : b < 4294967296) : a ^^^ b < 4294967296 := Nat.xor_lt_two_pow (n := 32) ha hb
theorem zg {r : Nat} (h : r < 4294967296) : stp r < 4294967296 := by
 unfold stp
 split
 ·exact nl (by omega) (by omega)
 ·omega
theorem pz (n : Nat) {r : Nat} (h : r < 4294967296) : steps n r < 4294967296 := by
 induction n generalizing r with
 |zero => exact h
 |succ n ih => exact ih (zg h)
theorem zw {r c : Nat} (h : r < 4294967296) (hc : c < 256) : tak r c < 4294967296 := pz 8 (nl h (by omega))
theorem pR {r : Nat} (h : r < 4294967296) (l : List UInt8) : run r l < 4294967296 := by
 induction l generalizing r with
 |nil => exact h
 |cons u l ih => exact ih (zw h (UInt8.toNat_lt u))
theorem qF {r : Nat} (h : r < 4294967296) : neg r < 4294967296 := nl (by omega) h
theorem nR {s : Nat} (h : s < 4294967296) (l : List UInt8) : more s l < 4294967296 := qF (pR (qF h) l)
theorem qG (r : Nat) (a b : List UInt8) : run r (a ++ b) = run (run r a) b := by unfold run; rw [List.foldl_append]
theorem wE (a b : Nat) : (a ^^^ b) / 2 = a / 2 ^^^ b / 2 := by
 have h : (a ^^^ b) >>> 1 = a >>> 1 ^^^ b >>> 1 := Nat.shiftRight_xor_distrib
 simpa [Nat.shiftRight_succ] using h
theorem xD (a b : Nat) : (a ^^^ b) % 2 = 1 ↔ ¬ (a % 2 = 1 ↔ b % 2 = 1) := by
 have h : ((a ^^^ b) % 2 ^ 1) = (a % 2 ^ 1) ^^^ (b % 2 ^ 1) := Nat.xor_mod_two_pow;rw [show (2 : Nat) ^ 1 = 2 from rfl] at h;rw [h];rcases Nat.mod_two_eq_zero_or_one a with ha | ha <;> rcases Nat.mod_two_eq_zero_or_one b with hb | hb <;> rw [ha, hb] <;> decide
theorem abd (a b c d : Nat) : (a ^^^ b) ^^^ (c ^^^ d) = (a ^^^ c) ^^^ (b ^^^ d) := by
 rw [Nat.xor_assoc, <- Nat.xor_assoc b c d, Nat.xor_comm b c, Nat.xor_assoc c b d, <- Nat.xor_assoc]
theorem xj (a b : Nat) : stp (a ^^^ b) = stp a ^^^ stp b := by
 unfold stp;rw [wE];have hl := xD a b;by_cases ha : a % 2 = 1 <;> by_cases hb : b % 2 = 1
 ·rw [if_neg (by rw [hl]; simp [ha, hb]), if_pos ha, if_pos hb, abd, Nat.xor_self, Nat.xor_zero]
 ·rw [if_pos (by rw [hl]; simp [ha, hb]), if_pos ha, if_neg hb, Nat.xor_assoc, Nat.xor_comm (b / 2), <- Nat.xor_assoc]
 ·rw [if_pos (by rw [hl]; simp [ha, hb]), if_neg ha, if_pos hb, Nat.xor_assoc]
 ·rw [if_neg (by rw [hl]; simp [ha, hb]), if_neg ha, if_neg hb]
theorem ue (n a b : Nat) : steps n (a ^^^ b) = steps n a ^^^ steps n b := by
 induction n generalizing a b with
 |zero => rfl
 |succ n ih => rw [steps, xj, ih]; rfl
theorem t8 (m n r : Nat) : steps (m + n) r = steps n (steps m r) := by
 induction m generalizing r with
 |zero => rw [Nat.zero_add]; rfl
 |succ m ih => rw [Nat.succ_add, steps, ih]; rfl
theorem qD (x : Nat) : stp (2 * x) = x := by
 unfold stp;rw [if_neg (by omega)];omega
theorem ph (n x : Nat) : steps n (2 ^ n * x) = x := by
 induction n with
 |zero => simp [steps]
 |succ n ih => rw [steps, Nat.pow_succ, Nat.mul_comm (2 ^ n) 2, Nat.mul_assoc, qD, ih]
theorem tI {n t : Nat} (q : Nat) (h : t < 2 ^ n) : 2 ^ n * q ^^^ t = 2 ^ n * q + t := by
 apply Nat.eq_of_testBit_eq;intro i;rw [Nat.testBit_xor, Nat.testBit_two_pow_mul_add q h, Nat.testBit_two_pow_mul];by_cases hi : i < n
 ·simp [hi, Nat.not_le.2 hi]
 ·have : t.testBit i = false := Nat.testBit_lt_two_pow (aq h (Nat.pow_le_pow_right (by omega) (by omega)));simp [hi, this, Nat.le_of_not_lt hi]
theorem jT (r : Nat) : hlf r = steps 4 r := by
 have e : r = 2 ^ 4 * (r / 16) ^^^ r % 16 := by
  rw [tI (n := 4) _ (by omega)];omega
 have h : ∀ t, t < 16 -> tab t = steps 4 t := by decide
 conv => rhs; rw [e, ue, ph]
 unfold hlf;rw [h _ (by omega)]
theorem xK (r c : Nat) : hlf (hlf (r ^^^ c)) = tak r c := by
 rw [jT, jT, <- t8]
 rfl
set_option linter.unusedVariables false
def Tab (w : World) : Prop := ∀ i, i < 16 -> w.cell? ⟨0, i, none⟩ = some (.int .u32 (tab i : Int))
theorem Tab.below {w w' : World} (h : Tab w) (hb : Below w.heap.size w w') : Tab w' := fun i hi => by
 rw [hb.cell (p := ⟨0, i, none⟩) (World.block_lt_of_cell? w _ (h i hi))];exact h i hi
theorem zI (i : Nat) : tab i < 4294967296 := by
 by_cases h : i < 16
 ·have : ∀ i, i < 16 -> tab i < 4294967296 := by decide
  exact this i h
 ·unfold tab;rw [List.getD, List.getElem?_eq_none (by simp; omega)];simp
theorem zH {r : Nat} (h : r < 4294967296) : hlf r < 4294967296 := by
 rw [jT];exact pz 4 h
theorem x6 (r : Nat) (h : r < 4294967296) : bits .and .u32 (r : Int) 15 = ((r % 16 : Nat) : Int) := by
 have h2 := u32_and_nat r 15 h (by omega);have h3 : r &&& 15 = r % 16 := Nat.and_two_pow_sub_one_eq_mod r 4;rw [h3] at h2;exact h2
theorem n7 (r : Nat) (w : World) (T : Tab w) (hr : r < 4294967296) :
  Calls prog 151 #[.int .u32 r] w fun e w' => e = .returned (.int .u32 (hlf r)) /\ w = w' := by
 have hl := x6 r hr;have ht := T (r % 16) (by omega);have hlo : r % 16 < 16 := by omega
 go_enter func151, ntmps151;go_wp2;go_ret;have e : ((r : Int) / 16) = ((r / 16 : Nat) : Int) := by omega
 refine ⟨bH ?_, rfl⟩;rw [e, u32_xor_nat _ _ (by omega) (zI _)]
 rfl
theorem wi (r c : Nat) (w : World) (T : Tab w) (hr : r < 4294967296) (hc : c < 256) :
  Calls prog 150 #[.int .u32 r, .int .u8 c] w fun e w' => e = .returned (.int .u32 (tak r c)) /\ w = w' := by
 have hx := u32_xor_nat r c hr (by omega);have hlt : r ^^^ c < 4294967296 := nl hr (by omega);have hlt2 : hlf (r ^^^ c) < 4294967296 := zH hlt;have HT : Hid (hlf (hlf (r ^^^ c)) = tak r c) := ae (xK r c);go_enter func150, ntmps150;go_wp2_with fail;refine (n7 (r ^^^ c) _ T hlt).mono ?_;rintro e w' ⟨rfl, rfl⟩;go_wp2_with fail;refine (n7 (hlf (r ^^^ c)) _ T hlt2).mono ?_;rintro e w' ⟨rfl, rfl⟩;go_wp2;go_ret;exact ⟨bH (by rw [HT.out]), rfl⟩
theorem aaT : prog.globalNamed "ashlar/crc.halves" = some 0 := by kernel_rfl
theorem vT : (prog.globals[0]?).map (·.type) = some 183 := by kernel_rfl
theorem vr : prog.cellsOf 183 = 16 := by kernel_rfl
theorem uy : prog.cellsOf 59 = 1 := by kernel_rfl
def kR : List Int := [0, 274646895, 549293790, 820201905, 1098587580, 1361435347, 1640403810, 1905808397, 2197175160, 2460548119, 2722870694, 2987750089, 3280807620, 3553878443, 3811616794, 4084100981]
theorem yN {W : World} {l : List (String × DataW Unit)} (hl : laidMetH prog l W) (hf : l.filter (fun x => x.1 == "ashlar/crc.halves") = [("ashlar/crc.halves", Rows.laid_ashlar_crc_halves)] := by kernel_rfl) : Tab W := by
 have h := laidMetH.filter (fun x => x.1 == "ashlar/crc.halves") hl;rw [hf] at h;have h1 : Lib.TabIs prog W "ashlar/crc.halves" .u32 kR :=
  Lib.tabIs_of_head (rest := []) aaT vT underlying183 underlying59 uy vr h
 intro i hi;rw [h1.cell aaT i (by simpa [kR] using hi)];have : ∀ i, i < 16 -> kR.getD i 0 = (tab i : Int) := by decide
 rw [this i hi]
def zM (w : World) (g : Nat) (cs : Array Value) : World :=
 { w with heap := w.heap.modify g fun
   |.cells _ t frozen => .cells cs t frozen
   |o => o }
noncomputable def aaE (w : World) : World := w
noncomputable def aaZ (w : World) : World := w
noncomputable def aan (os : Os) : World :=
 aaZ (aaE (zM (World.holding prog os ⟨#[], #[], []⟩) 0 (kR.map fun z => Value.int .u32 z).toArray))
section
variable {ρ : Operand -> Value} {o : Oper} {x y : Operand} {w : World} {t r : TypeId} {i : Nat} {p q : Value}
theorem tJ (ho : o.op = .move x) : (execOp ρ o).run prog w = .ok (.value (ρ x)) w := by
 unfold execOp;simp only [ho, Sem.run_pure]
theorem oY (ho : o.op = .assign x) : (execOp ρ o).run prog w = .ok (.value (ρ x)) w := by
 unfold execOp;simp only [ho, Sem.run_pure]
theorem tX {f : FuncId} {args : List Operand} {ats : Array TypeId} {a : Act} (hf : ∀ args w, (callFunc f args).run prog w = .ok (.enter f args) w) (ho : o.op = .call { callee := .value (.func f), args := args.toArray, argTypes := ats }) :
  (execOp a.eval o).run prog w = .ok (.enter f (args.map a.eval).toArray) w := by
 unfold execOp;simp [ho, resolve, Deferred.ofValue, Act.eval, invoke, hf]
theorem ax (ho : o.op = .fieldAddr t x i) (hx : ρ x = p) (h : (Instr.fieldAt t p i).run prog w = .ok q w) : (execOp ρ o).run prog w = .ok (.value q) w := by
 unfold execOp;simp only [ho, hx, Sem.run_bind, h, Result.andThen_ok, Sem.run_pure]
theorem aE (ho : o.op = .load t x) (hx : ρ x = p) (h : (Instr.loadAt t p).run prog w = .ok q w) : (execOp ρ o).run prog w = .ok (.value q) w := by
 unfold execOp;simp only [ho, hx, Sem.run_bind, h, Result.andThen_ok, Sem.run_pure]
theorem cr (ho : o.op = .indexAddr t x y) {u : Value} (hx : ρ x = p) (hy : ρ y = u) (h : (Instr.indexAt t p u).run prog w = .ok q w) : (execOp ρ o).run prog w = .ok (.value q) w := by
 unfold execOp;simp only [ho, hx, hy, Sem.run_bind, h, Result.andThen_ok, Sem.run_pure]
theorem ch {b off : Nat} (ho : o.op = .nilCheck x) (hx : ρ x = .pointer (some ⟨b, off, none⟩)) : (execOp ρ o).run prog w = .ok (.value (.pointer (some ⟨b, off, none⟩))) w := by
 unfold execOp;simp only [ho, hx, Sem.run_pure]
theorem gB {u : Value} {w' : World} (ho : o.op = .store t x y) (hx : ρ x = p) (hy : ρ y = u) (h : (Instr.storeAt t p u).run prog w = .ok () w') : (execOp ρ o).run prog w = .ok .skip w' := by
 unfold execOp;simp only [ho, hx, hy, Sem.run_bind, h, Result.andThen_ok, Sem.run_pure]
theorem cq {a b c : Int} (ho : o.op = .binOp .add t x y r) (hx : ρ x = .int .i64 a) (hy : ρ y = .int .i64 b) (h : IntKind.i64.wrap (a + b) = c) : (execOp ρ o).run prog w = .ok (.value (.int .i64 c)) w := by
 unfold execOp;simp [ho, hx, hy, eqGuard, binOp, Op.intArith, h]
theorem lZ {a b c : Int} (ho : o.op = .binOp .sub t x y r) (hx : ρ x = .int .i64 a) (hy : ρ y = .int .i64 b) (h : IntKind.i64.wrap (a - b) = c) : (execOp ρ o).run prog w = .ok (.value (.int .i64 c)) w := by
 unfold execOp;simp [ho, hx, hy, eqGuard, binOp, Op.intArith, h]
end
section
variable {P : Program} {ops : Array Oper} {rest : List Oper} {o : Oper} {a : Act} {w w' : World} {Q : Exit -> Act -> World -> Prop} {v : Value}
theorem av (hw : Region.wanted o (yielded ops a.tmps) = true) (h : (execOp a.eval o).run P w = .ok (.value v) w') (hr : wpList P ops Q rest (a.put o.dst v) w') : wpList P ops Q (o :: rest) a w := by
 refine wpList_step fun K hK => ?_
 rw [if_pos hw];unfold Oper.wp;rw [h];exact hK _ _ hr
theorem abN {l0 l1 : List Value} {ds0 : List Deferred} {i0 : Nat} (h : (execOp (Act.mk l0.toArray ds0).eval o).run P w = .ok (.value v) w') (hk : wpList P ops Q rest ⟨l1.toArray, ds0⟩ w') (hd : o.dst = some i0 := by exact rfl) (hl : l0.set i0 v = l1 := by simp only [ah] <;> rfl) (hw : Region.wanted o (yielded ops l0.toArray) = true := by exact abB) : wpList P ops Q (o :: rest) ⟨l0.toArray, ds0⟩ w := av hw h (by have e : Act.put (Act.mk l0.toArray ds0) o.dst v = ⟨l1.toArray, ds0⟩ := (by rw [hd, <- hl]; show Act.mk (l0.toArray.setIfInBounds i0 v) ds0 = _; rw [List.setIfInBounds_toArray]); rw [e]; exact hk)
theorem abH {l0 l1 : List Value} {ds0 : List Deferred} {i0 : Nat} (hw : Region.wanted o (yielded ops l0.toArray) = true) (h : (execOp (Act.mk l0.toArray ds0).eval o).run P w = .ok (.value v) w') (hk : wpList P ops Q rest ⟨l1.toArray, ds0⟩ w') (hd : o.dst = some i0 := by exact rfl) (hl : l0.set i0 v = l1 := by simp only [ah] <;> rfl) : wpList P ops Q (o :: rest) ⟨l0.toArray, ds0⟩ w := av hw h (by have e : Act.put (Act.mk l0.toArray ds0) o.dst v = ⟨l1.toArray, ds0⟩ := (by rw [hd, <- hl]; show Act.mk (l0.toArray.setIfInBounds i0 v) ds0 = _; rw [List.setIfInBounds_toArray]); rw [e]; exact hk)
theorem bi (hw : Region.wanted o (yielded ops a.tmps) = true) (h : (execOp a.eval o).run P w = .ok .skip w') (hr : wpList P ops Q rest (a.put o.dst undef) w') : wpList P ops Q (o :: rest) a w := by
 refine wpList_step fun K hK => ?_
 rw [if_pos hw];unfold Oper.wp;rw [h];exact hK _ _ hr
end
section
variable {P : Program} {ops : Array Oper} {rest : List Oper} {o : Oper} {a : Act} {w w' : World} {Q : Exit -> Act -> World -> Prop} {v : Value}
theorem au (hg : o.guard = none) (h : (execOp a.eval o).run P w = .ok (.value v) w') (hr : wpList P ops Q rest (a.put o.dst v) w') : wpList P ops Q (o :: rest) a w := av (by unfold Region.wanted; rw [hg]) h hr
theorem abG {l0 l1 : List Value} {ds0 : List Deferred} {i0 : Nat} (h : (execOp (Act.mk l0.toArray ds0).eval o).run P w = .ok (.value v) w') (hk : wpList P ops Q rest ⟨l1.toArray, ds0⟩ w') (hd : o.dst = some i0 := by exact rfl) (hl : l0.set i0 v = l1 := by simp only [ah] <;> rfl) (hg : o.guard = none := by exact rfl) : wpList P ops Q (o :: rest) ⟨l0.toArray, ds0⟩ w := au hg h (by have e : Act.put (Act.mk l0.toArray ds0) o.dst v = ⟨l1.toArray, ds0⟩ := (by rw [hd, <- hl]; show Act.mk (l0.toArray.setIfInBounds i0 v) ds0 = _; rw [List.setIfInBounds_toArray]); rw [e]; exact hk)
theorem az (hg : o.guard = none) (h : (execOp a.eval o).run P w = .ok .skip w') (hr : wpList P ops Q rest (a.put o.dst undef) w') : wpList P ops Q (o :: rest) a w := bi (by unfold Region.wanted; rw [hg]) h hr
theorem ay {f : FuncId} {vs : Array Value} (hw : Region.wanted o (yielded ops a.tmps) = true) (h : (execOp a.eval o).run P w = .ok (.enter f vs) w) (hc : Calls P f vs w fun e w' => ∃ v, e = .returned v /\ wpList P ops Q rest (a.put o.dst v) w') : wpList P ops Q (o :: rest) a w := by
 refine wpList_step fun K hK => ?_
 rw [if_pos hw];unfold Oper.wp;rw [h];exact hc.mono fun e w'' ⟨v, he, hk⟩ => by subst he; exact hK _ _ hk
end
theorem bQ {B : Nat} {id : Nat} {Q : Exit -> Act -> World -> Prop} {a : Act} {w : World} {l : List Oper} (hB : Region.lexB .any l.toArray = true)
  (h : wpQuiet prog l.toArray (Below B w) (fun a' => ∀ w', Below B w w' -> Q .normal a' w') l a) : (Code.region id l.toArray true).wp prog Q a w :=
 wp_region_quiet (C := Below B w) (by kernel_rfl) hB (bd (Below.refl B w)) (by simpa using h)
section
variable {P : Program} {ops : Array Oper} {C : World -> Prop} {Q : Act -> Prop} {a : Act} {o : Oper} {rest : List Oper} {v : Value}
theorem xc (hw : Region.wanted o (yielded ops a.tmps) = false) (h : wpQuiet P ops C Q rest (a.put o.dst undef)) : wpQuiet P ops C Q (o :: rest) a :=
 wpQuiet_step fun K hK => by rw [if_neg (by rw [hw]; exact Bool.false_ne_true)]; exact hK _ h
theorem bv (hw : Region.wanted o (yielded ops a.tmps) = true) (h : ∀ w, C w -> (execOp a.eval o).run P w = .ok (.value v) w) (hr : wpQuiet P ops C Q rest (a.put o.dst v)) : wpQuiet P ops C Q (o :: rest) a :=
 wpQuiet_step fun K hK => by
  rw [if_pos hw];exact ⟨v, fun w hC => by unfold Oper.quietAt; rw [h w hC]; exact ⟨rfl, rfl⟩, hK _ hr⟩
theorem abP {l0 l1 : List Value} {ds0 : List Deferred} {i0 : Nat} (h : ∀ w, C w -> (execOp (Act.mk l0.toArray ds0).eval o).run P w = .ok (.value v) w) (hk : wpQuiet P ops C Q rest ⟨l1.toArray, ds0⟩) (hd : o.dst = some i0 := by exact rfl) (hl : l0.set i0 v = l1 := by simp only [ah] <;> rfl) (hw : Region.wanted o (yielded ops l0.toArray) = true := by exact abB) : wpQuiet P ops C Q (o :: rest) ⟨l0.toArray, ds0⟩ := bv hw h (by have e : Act.put (Act.mk l0.toArray ds0) o.dst v = ⟨l1.toArray, ds0⟩ := (by rw [hd, <- hl]; show Act.mk (l0.toArray.setIfInBounds i0 v) ds0 = _; rw [List.setIfInBounds_toArray]); rw [e]; exact hk)
theorem abO {l0 l1 : List Value} {ds0 : List Deferred} {i0 : Nat} (h : ∀ w, C w -> (execOp (Act.mk l0.toArray ds0).eval o).run P w = .ok (.value v) w) (hk : wpQuiet P ops C Q rest ⟨l1.toArray, ds0⟩) (hd : o.dst = some i0 := by exact rfl) (hl : l0.set i0 v = l1 := by simp only [ah] <;> rfl) (hw : Region.wanted o (yielded ops l0.toArray) = true := by exact rfl) : wpQuiet P ops C Q (o :: rest) ⟨l0.toArray, ds0⟩ := bv hw h (by have e : Act.put (Act.mk l0.toArray ds0) o.dst v = ⟨l1.toArray, ds0⟩ := (by rw [hd, <- hl]; show Act.mk (l0.toArray.setIfInBounds i0 v) ds0 = _; rw [List.setIfInBounds_toArray]); rw [e]; exact hk)
theorem cD {f : FuncId} {vs : Array Value} (hw : Region.wanted o (yielded ops a.tmps) = true) (h : ∀ w, (execOp a.eval o).run P w = .ok (.enter f vs) w) (hc : ∀ w, C w -> Calls P f vs w fun e w'' => e = .returned v /\ C w'') (hr : wpQuiet P ops C Q rest (a.put o.dst v)) : wpQuiet P ops C Q (o :: rest) a :=
 wpQuiet_step fun K hK => by
  rw [if_pos hw];exact ⟨v, fun w hC => by unfold Oper.quietAt; rw [h w]; exact ⟨rfl, hc w hC⟩, hK _ hr⟩
end
section
variable {P : Program} {ops : Array Oper} {w : World} {Q : Act -> Prop} {a : Act} {o : Oper} {rest : List Oper} {v : Value}
theorem aQ (hw : Region.wanted o (yielded ops a.tmps) = true) (h : (execOp a.eval o).run P w = .ok (.value v) w) (hr : wpStill P ops w Q rest (a.put o.dst v)) : wpStill P ops w Q (o :: rest) a :=
 wpStill_step fun K hK => by
  rw [if_pos hw];unfold Oper.still;rw [h, Oper.stillUpon_value];exact hK _ hr
end
section
variable {P : Program} {md : Region.Mode} {l : List Oper} {Q : Exit -> Act -> World -> Prop} {S : World -> Prop} {fuel : Nat} {listed : Array Bool} {a : Act} {w : World} {o : Oper} {v : Value}
theorem aX (i : Nat) (hi : l[i]? = some o) (hs : Region.noSelect l.toArray = true) (hf : Region.free md l.toArray listed i = true) (hr : (Region.ready md l.toArray listed).contains i = true)
  (hw : Region.wanted o (yielded l.toArray a.tmps) = true) (h : ∀ w, S w -> (execOp a.eval o).run P w = .ok (.value v) w) (hQ : ∀ c a w, Q (.panic c) (a.put o.dst v) w -> Q (.panic c) a w) (hS : S w)
  (hk : wpAnyH P md l.toArray Q S fuel (listed.setIfInBounds i true) (a.put o.dst v) w) : wpAnyH P md l.toArray Q S (fuel + 1) listed a w :=
 wpAnyH_take (by simpa using hi) hs hf hr hQ (.inl ⟨hw, h⟩) hS hk
theorem abC (i : Nat) (hi : l[i]? = some o) (h : ∀ w, S w -> (execOp a.eval o).run P w = .ok (.value v) w) (hS : S w) (hk : wpAnyH P md l.toArray Q S fuel (listed.setIfInBounds i true) (a.put o.dst v) w) (hs : Region.noSelect l.toArray = true := by kernel_rfl) (hf : Region.free md l.toArray listed i = true := by kernel_rfl) (hr : (Region.ready md l.toArray listed).contains i = true := by kernel_rfl) (hw : Region.wanted o (yielded l.toArray a.tmps) = true := by exact rfl) (hQ : ∀ c a w, Q (.panic c) (a.put o.dst v) w -> Q (.panic c) a w := by exact fun _ _ _ h => h) : wpAnyH P md l.toArray Q S (fuel + 1) listed a w := aX i hi hs hf hr hw h hQ hS hk
theorem abJ {l0 l1 : List Value} {ds0 : List Deferred} {i0 : Nat} (i : Nat) (hi : l[i]? = some o) (h : ∀ w, S w -> (execOp (Act.mk l0.toArray ds0).eval o).run P w = .ok (.value v) w) (hS : S w) (hk : wpAnyH P md l.toArray Q S fuel (listed.setIfInBounds i true) ⟨l1.toArray, ds0⟩ w) (hd : o.dst = some i0 := by exact rfl) (hl : l0.set i0 v = l1 := by simp only [ah] <;> rfl) (hs : Region.noSelect l.toArray = true := by kernel_rfl) (hf : Region.free md l.toArray listed i = true := by kernel_rfl) (hr : (Region.ready md l.toArray listed).contains i = true := by kernel_rfl) (hw : Region.wanted o (yielded l.toArray l0.toArray) = true := by exact rfl) (hQ : ∀ c a w, Q (.panic c) (a.put o.dst v) w -> Q (.panic c) a w := by exact fun _ _ _ h => h) : wpAnyH P md l.toArray Q S (fuel + 1) listed ⟨l0.toArray, ds0⟩ w := abC i hi h hS (by have e : Act.put (Act.mk l0.toArray ds0) o.dst v = ⟨l1.toArray, ds0⟩ := (by rw [hd, <- hl]; show Act.mk (l0.toArray.setIfInBounds i0 v) ds0 = _; rw [List.setIfInBounds_toArray]); rw [e]; exact hk) hs hf hr hw hQ
theorem fZ (i : Nat) {f : FuncId} {vs : Array Value} (hi : l[i]? = some o) (hr : Region.ready md l.toArray listed = [i]) (hw : Region.wanted o (yielded l.toArray a.tmps) = true) (h : (execOp a.eval o).run P w = .ok (.enter f vs) w)
  (hc : Calls P f vs w fun e w' => ∃ v, e = .returned v /\ S w' /\ wpAnyH P md l.toArray Q S fuel (listed.setIfInBounds i true) (a.put o.dst v) w') : wpAnyH P md l.toArray Q S (fuel + 1) listed a w :=
 wpAnyH_all hr (by simp) fun j hj => by
  obtain rfl : j = i := by simpa using hj
  unfold wpOp;simp only [List.getElem?_toArray, hi, hw, if_true];refine .inl ?_;unfold Oper.wp;rw [h];exact hc.mono fun e w' ⟨v, he, hk⟩ => by subst he; exact hk
theorem gd (i : Nat) {w' : World} (hi : l[i]? = some o) (hr : Region.ready md l.toArray listed = [i]) (hw : Region.wanted o (yielded l.toArray a.tmps) = true) (h : (execOp a.eval o).run P w = .ok .skip w')
  (hS : S w') (hk : wpAnyH P md l.toArray Q S fuel (listed.setIfInBounds i true) (a.put o.dst undef) w') : wpAnyH P md l.toArray Q S (fuel + 1) listed a w :=
 wpAnyH_all hr (by simp) fun j hj => by
  obtain rfl : j = i := by simpa using hj
  unfold wpOp;simp only [List.getElem?_toArray, hi, hw, if_true];refine .inl ?_;unfold Oper.wp;rw [h];exact ⟨hS, hk⟩
end
section
variable {ρ : Operand -> Value} {o : Oper} {x y z : Operand} {w : World} {t r : TypeId} {k : IntKind}
theorem oE (ho : o.op = .pick x y z) (hx : ρ x = .bool true) : (execOp ρ o).run prog w = .ok (.value (ρ y)) w := by
 unfold execOp;simp [ho, hx, asBool]
theorem oP (ho : o.op = .pick x y z) (hx : ρ x = .bool false) : (execOp ρ o).run prog w = .ok (.value (ρ z)) w := by
 unfold execOp;simp [ho, hx, asBool]
theorem pr (b : Bool) (ho : o.op = .unOp .not t x) (hx : ρ x = .bool b) : (execOp ρ o).run prog w = .ok (.value (.bool (!b))) w := by
 unfold execOp;simp [ho, hx, Op.unary]
theorem aD {a b : Int} (c : Bool) (ho : o.op = .binOp .eql t x y r) (hx : ρ x = .int k a) (hy : ρ y = .int k b) (h : (a == b) = c) : (execOp ρ o).run prog w = .ok (.value (.bool c)) w := by
 unfold execOp;simp [ho, hx, hy, eqGuard, binOp, Op.intCmp, h]
theorem aR {a b : Int} (c : Bool) (ho : o.op = .binOp .neq t x y r) (hx : ρ x = .int k a) (hy : ρ y = .int k b) (h : (a != b) = c) : (execOp ρ o).run prog w = .ok (.value (.bool c)) w := by
 unfold execOp;simp [ho, hx, hy, eqGuard, binOp, Op.intCmp, h]
end
theorem ev {ts : List Value} {ds : List Deferred} {d : Nat} {v : Value} (h : ts[d]? = some v) : (Act.mk ts.toArray ds).eval (.tmp d) = v := by
 simp [Act.eval, h]
theorem abQ {ts : List Value} {ds : List Deferred} {d : Nat} {v : Value} (h : ts[d]? = some v := by exact rfl) : (Act.mk ts.toArray ds).eval (.tmp d) = v := ev h
theorem evk {a : Act} {v : Value} : a.eval (.const v) = v := rfl
theorem evc {ρ : Operand -> Value} {x : Operand} {xs : List Operand} {v : Value} {vs : List Value} (h : ρ x = v) (hs : xs.map ρ = vs) : (x :: xs).map ρ = v :: vs := by
 rw [List.map_cons, h, hs]
theorem evn {ρ : Operand -> Value} : ([] : List Operand).map ρ = [] := rfl
theorem aw {l : List Oper} {ts : List Value} {o oj : Oper} {j d : Nat} {b : Bool} (hg : o.guard = some (j, b)) (hj : l[j]? = some oj) (hd : oj.dst = some d) (hv : ts[d]? = some (.bool b)) : Region.wanted o (yielded l.toArray ts.toArray) = true := by
 unfold Region.wanted yielded;simp [hg, hj, hd, hv]
theorem abB {l : List Oper} {ts : List Value} {o oj : Oper} {j d : Nat} {b : Bool} (hg : o.guard = some (j, b) := by exact rfl) (hj : l[j]? = some oj := by exact rfl) (hd : oj.dst = some d := by exact rfl) (hv : ts[d]? = some (.bool b) := by exact rfl) : Region.wanted o (yielded l.toArray ts.toArray) = true := aw hg hj hd hv
section
variable {ρ : Operand -> Value} {o : Oper} {x y z : Operand} {w : World} {v : Value}
theorem aK (ho : o.op = .move x) (hx : ρ x = v) : (execOp ρ o).run prog w = .ok (.value v) w := by rw [tJ ho, hx]
theorem ef (ho : o.op = .assign x) (hx : ρ x = v) : (execOp ρ o).run prog w = .ok (.value v) w := by rw [oY ho, hx]
theorem xu (ho : o.op = .pick x y z) (hx : ρ x = .bool true) (hy : ρ y = v) : (execOp ρ o).run prog w = .ok (.value v) w := by rw [oE ho hx, hy]
theorem wL (ho : o.op = .pick x y z) (hx : ρ x = .bool false) (hz : ρ z = v) : (execOp ρ o).run prog w = .ok (.value v) w := by rw [oP ho hx, hz]
theorem aA {f : FuncId} {args : List Operand} {vs : List Value} {ats : Array TypeId} {a : Act} (hf : ∀ args w, (callFunc f args).run prog w = .ok (.enter f args) w) (ho : o.op = .call { callee := .value (.func f), args := args.toArray, argTypes := ats }) (hv : args.map a.eval = vs) :
  (execOp a.eval o).run prog w = .ok (.enter f vs.toArray) w := by rw [tX hf ho, hv]
end
theorem cn {f : FuncId} {vs : Array Value} {w0 : World} {B : Nat} {v : Value} (hB : B <= w0.heap.size) (h : ∀ w', Below B w0 w' -> Calls prog f vs w' fun e w'' => e = .returned v /\ Below w'.heap.size w' w'') :
  ∀ w', Below B w0 w' -> Calls prog f vs w' fun e w'' => e = .returned v /\ Below B w0 w'' :=
 fun w' hw => (h w' hw).mono fun _ _ hh => ⟨hh.1, hw.trans (hh.2.mono (ap hB hw.size))⟩
section
variable {ρ : Operand -> Value} {o : Oper} {x : Operand} {w : World}
theorem ii {i : Nat} {vs : List Value} {v : Value} (ho : o.op = .extract x i) (hx : ρ x = .tuple vs.toArray) (hv : vs[i]? = some v) : (execOp ρ o).run prog w = .ok (.value v) w := by
 have h : (Instr.extract (.tuple vs.toArray) i).run prog w = .ok v w := by simp [Instr.extract, hv]
 unfold execOp;simp only [ho, hx, Sem.run_bind, h, Result.andThen_ok, Sem.run_pure]
theorem ab3 {l0 l1 : List Value} {ds0 : List Deferred} {i0 : Nat} {md : Region.Mode} {l : List Oper} {Q : Exit -> Act -> World -> Prop} {S : World -> Prop} {fuel : Nat} {listed : Array Bool} {o : Oper} {w : World} {x : Operand} {v : Value} (i' : Nat) (hi : l[i']? = some o) (hS : S w) (hk : wpAnyH prog md l.toArray Q S fuel (listed.setIfInBounds i' true) ⟨l1.toArray, ds0⟩ w) (ho : o.op = .move x := by exact rfl) (hx : (Act.mk l0.toArray ds0).eval x = v := by exact ev rfl) (hd : o.dst = some i0 := by exact rfl) (hl : l0.set i0 v = l1 := by simp only [ah] <;> rfl) (hs : Region.noSelect l.toArray = true := by kernel_rfl) (hf : Region.free md l.toArray listed i' = true := by kernel_rfl) (hr : (Region.ready md l.toArray listed).contains i' = true := by kernel_rfl) (hw : Region.wanted o (yielded l.toArray l0.toArray) = true := by exact rfl) (hQ : ∀ c a w, Q (.panic c) (a.put o.dst v) w -> Q (.panic c) a w := by exact fun _ _ _ h => h) : wpAnyH prog md l.toArray Q S (fuel + 1) listed ⟨l0.toArray, ds0⟩ w := abJ i' hi (fun w hw => aK ho hx) hS hk hd hl hs hf hr hw hQ
theorem ab4 {l0 l1 : List Value} {ds0 : List Deferred} {i0 : Nat} {md : Region.Mode} {l : List Oper} {Q : Exit -> Act -> World -> Prop} {S : World -> Prop} {fuel : Nat} {listed : Array Bool} {o : Oper} {w : World} {x : Operand} {v : Value} (i' : Nat) (hi : l[i']? = some o) (hS : S w) (hk : wpAnyH prog md l.toArray Q S fuel (listed.setIfInBounds i' true) ⟨l1.toArray, ds0⟩ w) (ho : o.op = .assign x := by exact rfl) (hx : (Act.mk l0.toArray ds0).eval x = v := by exact ev rfl) (hd : o.dst = some i0 := by exact rfl) (hl : l0.set i0 v = l1 := by simp only [ah] <;> rfl) (hs : Region.noSelect l.toArray = true := by kernel_rfl) (hf : Region.free md l.toArray listed i' = true := by kernel_rfl) (hr : (Region.ready md l.toArray listed).contains i' = true := by kernel_rfl) (hw : Region.wanted o (yielded l.toArray l0.toArray) = true := by exact rfl) (hQ : ∀ c a w, Q (.panic c) (a.put o.dst v) w -> Q (.panic c) a w := by exact fun _ _ _ h => h) : wpAnyH prog md l.toArray Q S (fuel + 1) listed ⟨l0.toArray, ds0⟩ w := abJ i' hi (fun w hw => ef ho hx) hS hk hd hl hs hf hr hw hQ
theorem ab5 {l0 l1 : List Value} {ds0 : List Deferred} {i0 : Nat} {md : Region.Mode} {l : List Oper} {Q : Exit -> Act -> World -> Prop} {S : World -> Prop} {fuel : Nat} {listed : Array Bool} {o : Oper} {w : World} {x : Operand} {b off : Nat} (i' : Nat) (hi : l[i']? = some o) (hS : S w) (hk : wpAnyH prog md l.toArray Q S fuel (listed.setIfInBounds i' true) ⟨l1.toArray, ds0⟩ w) (ho : o.op = .nilCheck x := by exact rfl) (hx : (Act.mk l0.toArray ds0).eval x = .pointer (some ⟨b, off, none⟩) := by exact ev rfl) (hd : o.dst = some i0 := by exact rfl) (hl : l0.set i0 (.pointer (some ⟨b, off, none⟩)) = l1 := by simp only [ah] <;> rfl) (hs : Region.noSelect l.toArray = true := by kernel_rfl) (hf : Region.free md l.toArray listed i' = true := by kernel_rfl) (hr : (Region.ready md l.toArray listed).contains i' = true := by kernel_rfl) (hw : Region.wanted o (yielded l.toArray l0.toArray) = true := by exact rfl) (hQ : ∀ c a w, Q (.panic c) (a.put o.dst (.pointer (some ⟨b, off, none⟩))) w -> Q (.panic c) a w := by exact fun _ _ _ h => h) : wpAnyH prog md l.toArray Q S (fuel + 1) listed ⟨l0.toArray, ds0⟩ w := abJ i' hi (fun w hw => ch ho hx) hS hk hd hl hs hf hr hw hQ
theorem ab6 {l0 l1 : List Value} {ds0 : List Deferred} {i0 : Nat} {md : Region.Mode} {l : List Oper} {Q : Exit -> Act -> World -> Prop} {S : World -> Prop} {fuel : Nat} {listed : Array Bool} {o : Oper} {w : World} {x : Operand} {i : Nat} {vs : List Value} {v : Value} (i' : Nat) (hi : l[i']? = some o) (hS : S w) (hk : wpAnyH prog md l.toArray Q S fuel (listed.setIfInBounds i' true) ⟨l1.toArray, ds0⟩ w) (ho : o.op = .extract x i := by exact rfl) (hx : (Act.mk l0.toArray ds0).eval x = .tuple vs.toArray := by exact ev rfl) (hv : vs[i]? = some v := by exact rfl) (hd : o.dst = some i0 := by exact rfl) (hl : l0.set i0 v = l1 := by simp only [ah] <;> rfl) (hs : Region.noSelect l.toArray = true := by kernel_rfl) (hf : Region.free md l.toArray listed i' = true := by kernel_rfl) (hr : (Region.ready md l.toArray listed).contains i' = true := by kernel_rfl) (hw : Region.wanted o (yielded l.toArray l0.toArray) = true := by exact rfl) (hQ : ∀ c a w, Q (.panic c) (a.put o.dst v) w -> Q (.panic c) a w := by exact fun _ _ _ h => h) : wpAnyH prog md l.toArray Q S (fuel + 1) listed ⟨l0.toArray, ds0⟩ w := abJ i' hi (fun w hw => ii ho hx hv) hS hk hd hl hs hf hr hw hQ
end
set_option linter.unusedSimpArgs false
def evL (ts : List Value) : Operand -> Option Value
 |.tmp d => ts[d]?
 |.const v => some v
 |_ => none
def aaf (l : List Oper) (ts : List Value) (o : Oper) : Option Bool :=
 match o.guard with
 |none => some true
 |some (j, b) => match l[j]? with
  |some oj => match oj.dst with
   |some d => match ts[d]? with
    |some (.bool c) => match c, b with
     |true, true => some true
     |false, false => some true
     |true, false => some false
     |false, true => some false
    |some (.tuple _) => some false
    |_ => none
   |none => none
  |none => none
def evO (ts : List Value) : Op -> Option Value
 |.move x => evL ts x
 |.assign x => evL ts x
 |.nilCheck x => match evL ts x with
  |some (.pointer (some ⟨b, off, none⟩)) => some (.pointer (some ⟨b, off, none⟩))
  |_ => none
 |.extract x i => match evL ts x with
  |some (.tuple vs) => vs.toList[i]?
  |_ => none
 |.pick c x y => match evL ts c with
  |some (.bool true) => evL ts x
  |some (.bool false) => evL ts y
  |_ => none
 |.unOp .not _ x => match evL ts x with
  |some (.bool true) => some (.bool false)
  |some (.bool false) => some (.bool true)
  |_ => none
 |_ => none
def oh (d : Option Tmp) (v : Value) (ts : List Value) : List Value := match d with
 |some i => ts.set i v
 |none => ts
def lp (l0 : List Oper) : Nat -> List Oper -> List Value -> Option (List Oper × List Value)
 |0, l, ts => some (l, ts)
 |n + 1, o :: l, ts => match aaf l0 ts o with
  |some true => match evO ts o.op with
   |some v => lp l0 n l (oh o.dst v ts)
   |none => none
  |some false => lp l0 n l (oh o.dst undef ts)
  |none => none
 |_ + 1, [], _ => none
theorem fS {ts : List Value} {ds : List Deferred} {x : Operand} {v : Value} (h : evL ts x = some v) : (Act.mk ts.toArray ds).eval x = v := by
 cases x with
 |tmp d => exact ev h
 |const u => exact Option.some.inj h
 |global g => cases h
 |func f => cases h
theorem kL {l : List Oper} {ts : List Value} {o : Oper} {b : Bool} (h : aaf l ts o = some b) : Region.wanted o (yielded l.toArray ts.toArray) = b := by
 unfold aaf at h;unfold Region.wanted yielded
 split at h
 ·rename_i hg
  rw [hg];exact Option.some.inj h
 ·rename_i j b' hg
  rw [hg]
  split at h
  ·rename_i oj hj
   split at h
   ·rename_i d hd
    split at h
    ·rename_i c hv
     have e : ((l.toArray[j]?).bind (·.dst)).bind (ts.toArray[·]?) = some (.bool c) := by simp [hj, hd, hv]
     simp only [e];cases c <;> cases b' <;> simp at h <;> subst h <;> rfl
    ·rename_i vs hv
     have e : ((l.toArray[j]?).bind (·.dst)).bind (ts.toArray[·]?) = some (.tuple vs) := by simp [hj, hd, hv]
     simp only [e];cases b' <;> simp at h <;> subst h <;> rfl
    ·cases h
   ·cases h
  ·cases h
theorem uh {ts : List Value} {ds : List Deferred} {o : Oper} {v : Value} {w : World} (h : evO ts o.op = some v) : (execOp (Act.mk ts.toArray ds).eval o).run prog w = .ok (.value v) w := by
 unfold evO at h
 split at h
 ·rename_i x ho; exact aK ho (fS h)
 ·rename_i x ho; exact ef ho (fS h)
 ·rename_i x ho
  split at h
  ·rename_i b off hx
   obtain rfl := Option.some.inj h;exact ch ho (fS hx)
  ·cases h
 ·rename_i x i ho
  split at h
  ·rename_i vs hx
   exact ii (ρ := (Act.mk ts.toArray ds).eval) (vs := vs.toList) ho (by rw [fS hx]) h
  ·cases h
 ·rename_i c x y ho
  split at h
  ·rename_i hx; exact xu ho (fS hx) (fS h)
  ·rename_i hx; exact wL ho (fS hx) (fS h)
  ·cases h
 ·rename_i t x ho
  split at h
  ·rename_i hx; obtain rfl := Option.some.inj h; exact pr true ho (fS hx)
  ·rename_i hx; obtain rfl := Option.some.inj h; exact pr false ho (fS hx)
  ·cases h
 ·cases h
theorem kG {d : Option Tmp} {v : Value} {ts : List Value} {ds : List Deferred} : (Act.mk ts.toArray ds).put d v = ⟨(oh d v ts).toArray, ds⟩ := by
 cases d with
 |none => rfl
 |some i => show Act.mk (ts.toArray.setIfInBounds i v) ds = _; rw [List.setIfInBounds_toArray]; rfl
theorem eR {l0 : List Oper} {Q : Exit -> Act -> World -> Prop} {ds : List Deferred} {w : World} : ∀ (n : Nat) (l : List Oper) (ts : List Value) (l' : List Oper) (ts' : List Value), lp l0 n l ts = some (l', ts') -> wpList prog l0.toArray Q l' ⟨ts'.toArray, ds⟩ w -> wpList prog l0.toArray Q l ⟨ts.toArray, ds⟩ w
 |0, l, ts, l', ts', h, hk => by cases h; exact hk
 |n + 1, [], ts, l', ts', h, hk => by cases h
 |n + 1, o :: l, ts, l', ts', h, hk => by
  unfold lp at h
  split at h
  ·rename_i hw
   split at h
   ·rename_i v hv
    exact av (kL hw) (uh hv) (by rw [kG]; exact eR n l _ l' ts' h hk)
   ·cases h
  ·rename_i hw
   refine wpList_step fun K hK => ?_
   rw [if_neg (by rw [show Region.wanted o (yielded l0.toArray (Act.mk ts.toArray ds).tmps) = false from kL hw]; exact Bool.false_ne_true)];refine hK _ _ ?_;rw [kG];exact eR n l _ l' ts' h hk
  ·cases h
theorem ig {l0 : List Oper} {C : World -> Prop} {Q : Act -> Prop} {ds : List Deferred} : ∀ (n : Nat) (l : List Oper) (ts : List Value) (l' : List Oper) (ts' : List Value), lp l0 n l ts = some (l', ts') -> wpQuiet prog l0.toArray C Q l' ⟨ts'.toArray, ds⟩ -> wpQuiet prog l0.toArray C Q l ⟨ts.toArray, ds⟩
 |0, l, ts, l', ts', h, hk => by cases h; exact hk
 |n + 1, [], ts, l', ts', h, hk => by cases h
 |n + 1, o :: l, ts, l', ts', h, hk => by
  unfold lp at h
  split at h
  ·rename_i hw
   split at h
   ·rename_i v hv
    exact bv (kL hw) (fun w hC => uh hv) (by rw [kG]; exact ig n l _ l' ts' h hk)
   ·cases h
  ·rename_i hw
   refine wpQuiet_step fun K hK => ?_
   rw [if_neg (by rw [show Region.wanted o (yielded l0.toArray (Act.mk ts.toArray ds).tmps) = false from kL hw]; exact Bool.false_ne_true)];refine hK _ ?_;rw [kG];exact ig n l _ l' ts' h hk
  ·cases h
theorem runs {l0 l l' : List Oper} {ts t1 t2 : List Value} {Q : Exit -> Act -> World -> Prop} {ds : List Deferred} {w : World} (n : Nat) (hk : wpList prog l0.toArray Q l' ⟨t2.toArray, ds⟩ w) (h : lp l0 n l ts = some (l', t1) := by exact rfl) (hn : t1 = t2 := by simp only [oh, List.set_cons_succ, List.set_cons_zero] <;> rfl) : wpList prog l0.toArray Q l ⟨ts.toArray, ds⟩ w :=
 eR n l ts l' t1 h (by rw [hn]; exact hk)
theorem ec {l0 l l' : List Oper} {ts t1 t2 : List Value} {C : World -> Prop} {Q : Act -> Prop} {ds : List Deferred} (n : Nat) (hk : wpQuiet prog l0.toArray C Q l' ⟨t2.toArray, ds⟩) (h : lp l0 n l ts = some (l', t1) := by exact rfl) (hn : t1 = t2 := by simp only [oh, List.set_cons_succ, List.set_cons_zero] <;> rfl) : wpQuiet prog l0.toArray C Q l ⟨ts.toArray, ds⟩ :=
 ig n l ts l' t1 h (by rw [hn]; exact hk)
theorem aZ {l0 l' : List Oper} {ts t1 t2 : List Value} {Q : Exit -> Act -> World -> Prop} {ds : List Deferred} {w : World} {id : Nat} (n : Nat) (hk : wpList prog l0.toArray Q l' ⟨t2.toArray, ds⟩ w) (h : lp l0 n l0 ts = some (l', t1) := by exact rfl) (hn : t1 = t2 := by simp only [oh, List.set_cons_succ, List.set_cons_zero] <;> rfl) : (Code.region id l0.toArray false).wp prog Q ⟨ts.toArray, ds⟩ w :=
 wp_region_lit (eR n l0 ts l' t1 h (by rw [hn]; exact hk))
theorem aL {l0 l : List Oper} {ts t1 t2 : List Value} {Q : Exit -> Act -> World -> Prop} {ds : List Deferred} {w : World} (n : Nat) (hk : Q .normal ⟨t2.toArray, ds⟩ w) (h : lp l0 n l ts = some ([], t1) := by exact rfl) (hn : t1 = t2 := by simp only [oh, List.set_cons_succ, List.set_cons_zero] <;> rfl) : wpList prog l0.toArray Q l ⟨ts.toArray, ds⟩ w :=
 eR n l ts [] t1 h (by rw [hn]; exact wpList_nil hk)
theorem cC {l0 : List Oper} {ts t1 t2 : List Value} {Q : Exit -> Act -> World -> Prop} {ds : List Deferred} {w : World} {id : Nat} (n : Nat) (hk : Q .normal ⟨t2.toArray, ds⟩ w) (h : lp l0 n l0 ts = some ([], t1) := by exact rfl) (hn : t1 = t2 := by simp only [oh, List.set_cons_succ, List.set_cons_zero] <;> rfl) : (Code.region id l0.toArray false).wp prog Q ⟨ts.toArray, ds⟩ w :=
 wp_region_lit (eR n l0 ts [] t1 h (by rw [hn]; exact wpList_nil hk))
theorem bp {ops : Array Oper} {l0 l1 : List Value} {ds0 : List Deferred} {i0 : Nat} {rest : List Oper} {o : Oper} {Q : Exit -> Act -> World -> Prop} {w : World} {v : Value} (hk : wpList prog ops Q rest ⟨l1.toArray, ds0⟩ w) (hd : o.dst = some i0 := by exact rfl) (hl : l0.set i0 v = l1 := by simp only [List.set_cons_succ, List.set_cons_zero] <;> rfl) : ∃ v', Ending.returned v = .returned v' /\ wpList prog ops Q rest (Act.put ⟨l0.toArray, ds0⟩ o.dst v') w := by
 have e : Act.put (Act.mk l0.toArray ds0) o.dst v = ⟨l1.toArray, ds0⟩ := (by rw [hd, <- hl]; show Act.mk (l0.toArray.setIfInBounds i0 v) ds0 = _; rw [List.setIfInBounds_toArray]);exact ⟨v, rfl, by rw [e]; exact hk⟩
structure Elt (α : Type) where
 s : TypeId
 t : TypeId
 n : Nat
 by_ : Nat
 cel : α -> List Value
 d : α
 z : Value
 pos : 0 < n
 small : by_ <= 4096
 len : ∀ a, (cel a).length = n
 one : ∀ a, ∀ v ∈ cel a, v.oneCell' = true
 und : prog.underlying s = some (.slice t)
 info : (prog.info? t).map (fun i => (i.zero, i.size, i.bytes)) = some (some z, n, by_)
 zc : z.cells.size = n
section
variable {α : Type} (E : Elt α)
def cl (l : List α) : List Value := l.flatMap E.cel
theorem dH (x : α) (l : List α) : cl E (x :: l) = E.cel x ++ cl E l := rfl
theorem gt (a b : List α) : cl E (a ++ b) = cl E a ++ cl E b := by simp [cl]
theorem cf (l : List α) : (cl E l).length = l.length * E.n := by
 induction l with
 |nil => simp [cl]
 |cons x l ih => rw [dH, List.length_append, E.len, ih, List.length_cons, Nat.add_mul]; omega
theorem o5 (l : List α) {k j : Nat} (hk : k < l.length) (hj : j < E.n) : (cl E l)[k * E.n + j]? = (E.cel (l.getD k E.d))[j]? := by
 induction l generalizing k with
 |nil => simp at hk
 |cons x l ih =>
  rw [dH];cases k with
  |zero => rw [Nat.zero_mul, Nat.zero_add, List.getElem?_append_left (by rw [E.len]; exact hj)]; rfl
  |succ k =>
   have e : (k + 1) * E.n + j - E.n = k * E.n + j := by rw [Nat.add_mul]; omega
   rw [List.getElem?_append_right (by rw [E.len, Nat.add_mul]; omega), E.len, e, ih (by simpa using hk)]
   rfl
theorem mv (l : List α) : ∀ v ∈ cl E l, v.oneCell' = true := by
 intro v hv;simp only [cl, List.mem_flatMap] at hv;obtain ⟨b, _, hb⟩ := hv;exact E.one b v hb
def RdE (w : World) (B : Nat) (A : Option Addr) (n : Nat) (l : List α) : Prop :=
 l.length = n /\ ∀ k, k < n -> ∃ b off, A = some ⟨b, off, none⟩ /\ b < B /\ w.rangeAt b (off + k * E.n) (E.cel (l.getD k E.d))
def bc (w : World) (base : Nat) (v : Value) (l : List α) : Prop := w.ownsRow base E.t E.n v l.length (cl E l)
end
section
variable {w w' : World} {b o B : Nat} {cs : List Value}
theorem ti (h : w.rangeAt b o cs) (hb : b < B) (hw : Below B w w') : w'.rangeAt b o cs := fun j v hj => by
 rw [hw.cell (p := ⟨b, o + j, none⟩) hb]; exact h j v hj
end
section
variable {α : Type} {E : Elt α} {w w' : World} {B B' n : Nat} {A : Option Addr} {l : List α} {v : Value}
theorem RdE.nil (w : World) (B : Nat) (A : Option Addr) : RdE E w B A 0 [] := ⟨rfl, fun k hk => absurd hk (by omega)⟩
theorem RdE.more (h : RdE E w B A n l) (hB : B <= B') : RdE E w B' A n l :=
 ⟨h.1, fun k hn => by
  obtain ⟨b, off, e, hb, hc⟩ := h.2 k hn;exact ⟨b, off, e, by omega, hc⟩⟩
theorem RdE.below (h : RdE E w B A n l) (hb : Below B w w') : RdE E w' B A n l :=
 ⟨h.1, fun k hn => by
  obtain ⟨b, off, e, hlt, hc⟩ := h.2 k hn;exact ⟨b, off, e, hlt, ti hc hlt hb⟩⟩
theorem RdE.step (h : RdE E w w.heap.size A n l) (hb : Below w.heap.size w w') : RdE E w' w'.heap.size A n l := (h.below hb).more hb.size
theorem vO {g o : Nat} (hg : g < B) (h : ∀ j v, (cl E l)[j]? = some v -> w.cell? ⟨g, o + j, none⟩ = some v) : RdE E w B (some ⟨g, o, none⟩) l.length l :=
 ⟨rfl, fun k hk => ⟨g, o, rfl, hg, fun j v hj => by
  have hlt : j < E.n := by have := (List.getElem?_eq_some_iff.1 hj).1; rwa [E.len] at this
  rw [show o + k * E.n + j = o + (k * E.n + j) from by omega];exact h _ v (by rw [o5 E l hk hlt]; exact hj)⟩⟩
theorem t9 {g : Nat} {cs : Array Value} {t : TypeId} (hg : w.heap[g]? = some (.cells cs t (0, 0))) (h : cs.toList = cl E l) (hB : g < B) : RdE E w B (some ⟨g, 0, none⟩) l.length l :=
 vO hB fun j v hj => by
  rw [cell_of_row _ _ (0 + j) cs t (0, 0) hg, Nat.zero_add, <- Array.getElem?_toList, h];exact hj
theorem gP (w : World) (cs : Array Value) (t : TypeId) (h : cs.toList = cl E l) : RdE E (w.alloc (.cells cs t)) (w.heap.size + 1) (some ⟨w.heap.size, 0, none⟩) l.length l :=
 t9 (heap_alloc_new w _) h (by omega)
theorem gO {N : Nat} {ad : Addr} (h : RdE E w N (some ad) n l) : ∀ (j : Nat) (u : Value), (cl E l)[j]? = some u -> w.cell? (ad.add j) = some u := by
 intro j u hu;have hj : j < l.length * E.n := by have := (List.getElem?_eq_some_iff.1 hu).1; rwa [cf] at this
 have hk : j / E.n < l.length := Nat.div_lt_of_lt_mul (by rw [Nat.mul_comm]; exact hj);have hr : j % E.n < E.n := Nat.mod_lt _ E.pos;have hd : j / E.n * E.n + j % E.n = j := Nat.div_add_mod' j E.n;obtain ⟨b, off, e, _, hc⟩ := h.2 (j / E.n) (by have := h.1; omega);injection e with e;subst e;have hadd : (⟨b, off, none⟩ : Addr).add j = ⟨b, off + j, none⟩ := by unfold Addr.add; split <;> simp_all
 rw [hadd];have h2 := o5 E l hk (j := j % E.n) hr;rw [hd, hu] at h2;have h3 := hc (j % E.n) u h2.symm;rwa [Nat.add_assoc, hd] at h3
theorem bc.nil (w : World) (B : Nat) : bc E w B (.slice none 0 0) [] := ⟨by simp [cl], .inl ⟨rfl, rfl⟩⟩
theorem bc.form (h : bc E w B v l) : ∃ A c, v = .slice A l.length c /\ l.length <= c /\ c <= maxLen := by
 rcases h.2 with ⟨rfl, h0⟩ | ⟨g, cap, cur, rfl, _, _, h1, h2, _⟩
 ·exact ⟨none, 0, by rw [h0], by omega, by simp [maxLen]⟩
 ·exact ⟨_, cap, rfl, h1, h2⟩
theorem bc.rd {c : Nat} (h : bc E w B (.slice A n c) l) : RdE E w w.heap.size A n l := by
 rcases h.2 with ⟨hv, h0⟩ | ⟨g, cap, cur, hv, _, hg, _, _, _, ht⟩
 ·have hl : l = [] := List.eq_nil_of_length_eq_zero h0;subst hl;injection hv with h1 h2 h3;subst h2;exact RdE.nil _ _ _
 ·injection hv with h1 h2 h3;subst h1 h2 h3;refine vO (Array.getElem?_eq_some_iff.1 hg).1 fun j u hu => ?_
  rw [cell_of_row w g (0 + j) cur E.t (0, 0) hg, Nat.zero_add];have hj : j < l.length * E.n := by have := (List.getElem?_eq_some_iff.1 hu).1; rwa [cf] at this
  rw [<- ht, List.getElem?_take_of_lt hj] at hu
  simpa using hu
theorem bc.below (h : bc E w B v l) (hb : Below w.heap.size w w') : bc E w' B v l := by
 refine ⟨h.1, ?_⟩;rcases h.2 with hn | ⟨g, cap, cur, rfl, hbg, hg, rest⟩
 ·exact .inl hn
 ·exact .inr ⟨g, cap, cur, rfl, hbg, by rw [hb.block g (Array.getElem?_eq_some_iff.1 hg).1]; exact hg, rest⟩
theorem bc.base (h : bc E w B v l) (hb : B' <= B) : bc E w B' v l := by
 refine ⟨h.1, ?_⟩;rcases h.2 with hn | ⟨g, cap, cur, rfl, hbg, rest⟩
 ·exact .inl hn
 ·exact .inr ⟨g, cap, cur, rfl, ap hb hbg, rest⟩
theorem bc.open_ (h : bc E w B v l) (hn : l.length = n) : ∃ A c, v = .slice A n c /\ RdE E w w.heap.size A n l /\ n <= c /\ c <= maxLen := by
 subst hn;obtain ⟨A, c, rfl, h1, h2⟩ := h.form;exact ⟨A, c, rfl, h.rd, h1, h2⟩
theorem bc.jX (h : bc E w B v l) : ∀ k, v.ownBlock = some k -> B <= k := by
 intro k hk;rcases h.2 with ⟨rfl, _⟩ | ⟨g, cap, cur, rfl, hbg, _⟩
 ·simp [Value.ownBlock] at hk
 ·simp [Value.ownBlock] at hk; omega
theorem bc.of_block {g : Nat} {cs : Array Value} (hg : w.heap[g]? = some (.cells cs E.t (0, 0))) (h : cs.toList = cl E l) (hB : B <= g) (hl : l.length = n) (hm : n <= maxLen) : bc E w B (.slice (some ⟨g, 0, none⟩) n n) l := by
 subst hl;have hsz : cs.size = l.length * E.n := by rw [<- Array.length_toList, h, cf]
 refine ⟨cf E l, .inr ⟨g, l.length, cs, rfl, hB, hg, ai, hm, hsz, ?_⟩⟩;rw [h, List.take_of_length_le (by rw [cf]; exact ai)]
end
theorem bc.other {α β : Type} {E : Elt α} {E' : Elt β} {w : World} {B B' : Nat} {v v' : Value} {l : List α} {l' : List β} (h : bc E w B v l) (h' : bc E' w B' v' l') (hne : E.t ≠ E'.t) : v.ownBlock = none \/ v.ownBlock ≠ v'.ownBlock := by
 rcases h.2 with ⟨rfl, _⟩ | ⟨g, cap, cur, rfl, _, hg, _⟩
 ·exact .inl rfl
 ·rcases h'.2 with ⟨rfl, _⟩ | ⟨g', cap', cur', rfl, _, hg', _⟩
  ·exact .inr (by simp [Value.ownBlock])
  ·refine .inr fun e => ?_
   simp [Value.ownBlock] at e;subst e;rw [hg] at hg';simp at hg';exact hne hg'.2
theorem bc.kept {α : Type} {E : Elt α} {w w' : World} {B : Nat} {v : Value} {l : List α} {row : Option Nat} (h : bc E w B v l) (hg : w.grownBy w' row) (hne : v.ownBlock = none \/ v.ownBlock ≠ row) : bc E w' B v l := World.ownsRow.kept h hg hne
theorem tB {α : Type} (E : Elt α) (w : World) (ty B N m c : Nat) (v : Value) (l l' : List α) (A : Option Addr) (hm : bc E w B v l) (hr : RdE E w N A m l') (hB : B <= w.heap.size) (hml : l.length + m <= maxLen) (hby : (l.length + m) * E.by_ <= 140737488355328) :
  ∃ v' w', (Builtin.append_ #[E.s, E.s] ty #[v, .slice A m c]).run prog w = .ok v' w' /\ bc E w' B v' (l ++ l') /\ w.grownBy w' v.ownBlock := by
 obtain ⟨i0, hi, hz0, hz1, hz2⟩ := info_parts E.info;rcases A with _ | ad
 ·have h0 : m = 0 := by
   rcases Nat.eq_zero_or_pos m with h | h
   ·exact h
   ·obtain ⟨b, off, e, _⟩ := hr.2 0 h;cases e
  subst h0;have hn : l' = [] := List.eq_nil_of_length_eq_zero hr.1;subst hn;refine ⟨v, w, ?_, by rw [List.append_nil]; exact hm, World.grownBy.refl w _⟩;rcases hm.2 with ⟨rfl, _⟩ | ⟨g, cap, cur, rfl, _, _, hnc, _⟩
  ·simp [Builtin.append_, run_underlying E.und, sizeOf, typeInfo, hi, Builtin.lenOf, Builtin.firstCells]
  ·simp [Builtin.append_, run_underlying E.und, sizeOf, typeInfo, hi, Builtin.lenOf, Builtin.firstCells, hnc, storeCells]
 ·obtain ⟨v', w', h1, h2, h3, _⟩ := run_append_own (P := prog) w B E.s ty E.t i0 E.z E.n E.by_ E.und hi hz0 hz1 hz2 E.zc E.pos v l.length _ hm ad m c (cl E l')
   (by rw [cf, hr.1]) (gO hr) (mv E l') hml hby hB
  refine ⟨v', w', h1, ?_, h3⟩;unfold bc;rw [gt, List.length_append, hr.1];exact h2
theorem iu {α : Type} (E : Elt α) (w : World) (ty B N m c : Nat) (v : Value) (l l' : List α) (A : Option Addr) (hm : bc E w B v l) (hr : RdE E w N A m l') (hB : B <= w.heap.size) (hsum : l.length + m <= 34359738368) :
  ∃ v' w', (Builtin.append_ #[E.s, E.s] ty #[v, .slice A m c]).run prog w = .ok v' w' /\ bc E w' B v' (l ++ l') /\ w.grownBy w' v.ownBlock :=
 tB E w ty B N m c v l l' A hm hr hB (by unfold maxLen; omega) (ap (Nat.mul_le_mul hsum E.small) (by omega))
theorem oF {α : Type} (E : Elt α) {w : World} {ops : Array Oper} {rest : List Oper} {o : Oper} {a : Act} {Q : Exit -> Act -> World -> Prop} (hgd : o.guard = none) (s x : Operand)
  (ho : o.op = .call { callee := .builtin .append, args := #[s, x], argTypes := #[E.s, E.s] })
  (B N m c : Nat) (v : Value) (l l' : List α) (A : Option Addr) (hs : a.eval s = v) (hx : a.eval x = .slice A m c) (hm : bc E w B v l) (hr : RdE E w N A m l') (hB : B <= w.heap.size) (hsum : l.length + m <= 34359738368)
  (h : ∀ v' w', bc E w' B v' (l ++ l') -> w.grownBy w' v.ownBlock -> wpList prog ops Q rest (a.put o.dst v') w') : wpList prog ops Q (o :: rest) a w := by
 refine wpList_plain hgd fun K hK => ?_
 obtain ⟨v', w', hrun, h1, h2⟩ := iu E w o.type B N m c v l l' A hm hr hB hsum;unfold Oper.wp;simp [execOp, ho, resolve, invoke, builtin, hs, hx, hrun, Result.andThen];exact hK _ _ (h v' w' h1 h2)
theorem vx (pre post : List Value) : ∀ (vs mid done : List Value), mid.length = vs.length ->
  (vs.zipIdx done.length).foldl (fun cs (p : Value × Nat) => cs.setIfInBounds (pre.length + p.2) p.1) (pre ++ done ++ mid ++ post).toArray = (pre ++ done ++ vs ++ post).toArray
 |[], mid, done, h => by
  have : mid = [] := List.eq_nil_of_length_eq_zero h;subst this;simp
 |v :: vs, mid, done, h => by
  match mid, h with
  |m :: ms, h =>
   rw [List.zipIdx_cons, List.foldl_cons];have hset : (pre ++ done ++ m :: ms ++ post).toArray.setIfInBounds (pre.length + done.length) v = (pre ++ (done ++ [v]) ++ ms ++ post).toArray := by
    rw [List.setIfInBounds_toArray]
    congr 1
    rw [List.append_assoc (pre ++ done), List.set_append_right _ _ (by simp), List.length_append, Nat.sub_self];simp
   have := vx pre post vs ms (done ++ [v]) (by simpa using h);rw [List.length_append, List.length_singleton] at this
   show (vs.zipIdx (done.length + 1)).foldl (fun cs (p : Value × Nat) => cs.setIfInBounds (pre.length + p.2) p.1) ((pre ++ done ++ m :: ms ++ post).toArray.setIfInBounds (pre.length + done.length) v) = _
   rw [hset, this];simp
theorem cv {place : Nat -> Option (Nat × Nat)} {i off size : Nat} {v : Value} {pre mid post vs : List Value} {rest : List (Nat × Value)} (hp : place i = some (off, size)) (hv : v.cells = vs.toArray) (hs : vs.length = size) (ho : pre.length = off) (hm : mid.length = size) :
  Instr.fill place (pre ++ mid ++ post).toArray ((i, v) :: rest) = Instr.fill place (pre ++ vs ++ post).toArray rest := by
 subst hs ho;have hw := vx pre post vs mid [] hm;simp only [List.append_nil, List.length_nil] at hw;rw [Instr.fill, hp];have hc : (decide (v.cells.size ≠ vs.length) || decide (pre.length + v.cells.size > (pre ++ mid ++ post).toArray.size)) = false := by
  rw [hv];simp [hm]
 show (if (decide (v.cells.size ≠ vs.length) || decide (pre.length + v.cells.size > (pre ++ mid ++ post).toArray.size)) = true then none else _) = _
 rw [hc, if_neg (by simp), hv, <- Array.foldl_toList, Array.toList_zipIdx]
 show Instr.fill place (vs.zipIdx.foldl (fun cs (p : Value × Nat) => cs.setIfInBounds (pre.length + p.2) p.1) (pre ++ mid ++ post).toArray) rest = _
 rw [hw]
section
variable {α : Type} (E : Elt α)
theorem mP (w : World) : (sizeOf E.t).run prog w = .ok E.n w := by
 obtain ⟨i0, hi, hz0, hz1, hz2⟩ := info_parts E.info;simp [sizeOf, typeInfo, hi, hz1]
theorem iN (w : World) : (zeroValue E.t).run prog w = .ok E.z w := by
 obtain ⟨i0, hi, hz0, hz1, hz2⟩ := info_parts E.info;simp [zeroValue, typeInfo, hi, hz0]
end
section
variable {α : Type} {E : Elt α} {ρ : Operand -> Value} {o : Oper} {x y : Operand} {w : World} {b off n c j : Nat} {v : Value} {a : α}
theorem add_mid (b off j : Nat) : (⟨b, off, none⟩ : Addr).add j = ⟨b, off + j, none⟩ := by unfold Addr.add; split <;> simp_all
theorem rt (hj : j < n) : (Instr.indexAt E.s (.slice (some ⟨b, off, none⟩) n c) (.int .i64 (j : Int))).run prog w = .ok (.pointer (some ⟨b, off + j * E.n, none⟩)) w := by
 have h := mP E w;simp [Instr.indexAt, asIntOf, run_underlying E.und, add_mid, h, hj]
theorem cZ (ho : o.op = .indexAddr E.s x y) (hx : ρ x = .slice (some ⟨b, off, none⟩) n c) (hy : ρ y = .int .i64 (j : Int)) (hj : j < n) : (execOp ρ o).run prog w = .ok (.value (.pointer (some ⟨b, off + j * E.n, none⟩))) w :=
 cr ho hx hy (rt (E := E) hj)
theorem eM (ho : o.op = .buildSlice E.s 1 #[(0, x)]) (hx : ρ x = v) (hv : v.cells = (E.cel a).toArray) (hn : E.n <= 16777216) :
  (execOp ρ o).run prog w = .ok (.value (.slice (some ⟨w.heap.size, 0, none⟩) 1 1)) (w.alloc (.cells (E.cel a).toArray E.t)) := by
 have hz := iN E w;have hs := mP E w;have hp := E.pos;obtain ⟨zs, hzs⟩ : ∃ zs : List Value, (Array.range (1 * E.n)).map (E.z.cells[· % E.z.cells.size]!) = zs.toArray := ⟨_, (Array.toArray_toList).symm⟩;have hzl : zs.length = E.n := by
  have := congrArg Array.size hzs
  simpa using this.symm
 have hf := cv (place := fun i => some (i * E.n, E.n)) (i := 0) (off := 0) (v := v) (pre := []) (mid := zs) (post := []) (vs := E.cel a) (rest := []) (by simp) hv (E.len a) rfl hzl;simp only [List.nil_append, List.append_nil] at hf;unfold execOp;simp only [ho, Instr.buildSlice, Sem.run_bind, run_underlying E.und, Result.andThen_ok, hs];rw [if_neg (by omega), if_neg (by omega)];simp only [Sem.run_bind, hz, Result.andThen_ok, Sem.run_pure, hzs];simp [hx, hf, Instr.fill, newRow]
end
theorem iR {α : Type} {E : Elt α} {o : Oper} {a : Act} {w w' : World} {s x : Operand} {A : Option Addr} {m c : Nat} {v v' : Value} (ho : o.op = .call { callee := .builtin .append, args := #[s, x], argTypes := #[E.s, E.s] }) (hs : a.eval s = v) (hx : a.eval x = .slice A m c)
  (hrun : (Builtin.append_ #[E.s, E.s] o.type #[v, .slice A m c]).run prog w = .ok v' w') : (execOp a.eval o).run prog w = .ok (.value v') w' := by
 simp [execOp, ho, resolve, invoke, builtin, hs, hx, hrun, Result.andThen]
theorem gH {α : Type} (E : Elt α) (w : World) (ty B N m c : Nat) (v : Value) (l l' : List α) (A : Option Addr) (hm : bc E w B v l) (hr : RdE E w N A m l') (hB : B <= w.heap.size) (hsum : l.length + m <= 34359738368) :
  ∃ v' w', (Builtin.append_ #[E.s, E.s] ty #[v, .slice A m c]).run prog w = .ok v' w' /\ bc E w' B v' (l ++ l') /\ w.grownBy w' v.ownBlock /\ ∀ x, v'.ownBlock = some x -> v.ownBlock = some x \/ w.heap.size <= x := by
 obtain ⟨v', w', h1, h2, h3⟩ := iu E w ty B N m c v l l' A hm hr hB hsum;refine ⟨v', w', h1, h2, h3, ?_⟩;have sure : ∀ v'' w'', (Builtin.append_ #[E.s, E.s] ty #[v, .slice A m c]).run prog w = .ok v'' w'' -> v' = v'' := fun v'' w'' e => by rw [h1] at e; injection e
 obtain ⟨i0, hi, hz0, hz1, hz2⟩ := info_parts E.info;rcases hm.2 with ⟨rfl, h0⟩ | ⟨g, cap, cur, rfl, hbg, hg, hnc, hcm, hcs, htake⟩
 ·have hm' : bc E w w.heap.size (.slice none 0 0) l := ⟨hm.1, .inl ⟨rfl, h0⟩⟩;obtain ⟨v2, w2, g1, g2, g3⟩ := iu E w ty w.heap.size N m c _ l l' A hm' hr ai hsum;have e := sure _ _ g1;subst e;exact fun x hx => .inr (g2.jX x hx)
 ·rcases A with _ | ad
  ·have h0 : m = 0 := by
    rcases Nat.eq_zero_or_pos m with h | h
    ·exact h
    ·obtain ⟨b, off, e, _⟩ := hr.2 0 h;cases e
   subst h0;have e := sure (.slice (some ⟨g, 0, none⟩) l.length cap) w (by simp [Builtin.append_, run_underlying E.und, sizeOf, typeInfo, hi, Builtin.lenOf, Builtin.firstCells, hnc, storeCells]);subst e;exact fun x hx => .inl hx
  ·by_cases hroom : l.length + m <= cap
   ·have hfit : l.length * i0.size + (cl E l').length <= cur.size := by rw [cf, hr.1, hz1, hcs, <- Nat.add_mul]; exact Nat.mul_le_mul_right _ hroom
    have h := run_append_room (P := prog) w E.s ty E.t i0 E.und hi g l.length cap cur hg ad m c (cl E l') (by rw [cf, hr.1, hz1]) (gO hr) (mv E l') hroom hfit;have e := sure _ _ h;subst e;exact fun x hx => .inl hx
   ·have holds : ∀ j u, (cl E l)[j]? = some u -> w.cell? ((⟨g, 0, none⟩ : Addr).add j) = some u := World.ownsRow.cells hm (g := g) rfl;have hby : (l.length + m) * E.by_ <= 140737488355328 := ap (Nat.mul_le_mul hsum E.small) (by omega);have h := run_append_grow (P := prog) w E.s ty E.t i0 E.z E.und hi hz0 ⟨g, 0, none⟩ l.length cap (cl E l) (by rw [hz1]; exact hm.1) holds ad m c (cl E l') (by rw [cf, hr.1, hz1]) (gO hr) (by omega) (by omega) (growslice_fits (by omega) (by rw [hz2]; exact hby));have e := sure _ _ h;subst e;exact fun x hx => .inr (by simp [Value.ownBlock] at hx; omega)
theorem gQ {α : Type} (E : Elt α) {w : World} {ops : Array Oper} {rest : List Oper} {o : Oper} {a : Act} {Q : Exit -> Act -> World -> Prop} (hgd : o.guard = none) (s x : Operand)
  (ho : o.op = .call { callee := .builtin .append, args := #[s, x], argTypes := #[E.s, E.s] })
  (B N m c : Nat) (v : Value) (l l' : List α) (A : Option Addr) (hs : a.eval s = v) (hx : a.eval x = .slice A m c) (hm : bc E w B v l) (hr : RdE E w N A m l') (hB : B <= w.heap.size) (hsum : l.length + m <= 34359738368)
  (h : ∀ v' w', bc E w' B v' (l ++ l') -> w.grownBy w' v.ownBlock -> (∀ x, v'.ownBlock = some x -> v.ownBlock = some x \/ w.heap.size <= x) -> wpList prog ops Q rest (a.put o.dst v') w') : wpList prog ops Q (o :: rest) a w := by
 refine wpList_plain hgd fun K hK => ?_
 obtain ⟨v', w', hrun, h1, h2, h3⟩ := gH E w o.type B N m c v l l' A hm hr hB hsum;unfold Oper.wp;simp [execOp, ho, resolve, invoke, builtin, hs, hx, hrun, Result.andThen];exact hK _ _ (h v' w' h1 h2 h3)
section
variable {α : Type} {E : Elt α} {w : World} {B g n cc k : Nat} {l : List α} {a : α}
theorem oc {l : List α} {k : Nat} (hk : k < l.length) : cl E l = cl E (l.take k) ++ (E.cel (l.getD k E.d) ++ cl E (l.drop (k + 1))) := by
 have h1 : l = l.take k ++ (l.getD k E.d :: l.drop (k + 1)) := by
  rw [List.getD, List.getElem?_eq_getElem hk, Option.getD_some, List.getElem_cons_drop, List.take_append_drop]
 conv => lhs; rw [h1]
 rw [gt, dH]
theorem tn {l : List α} {k : Nat} (hk : k < l.length) (a : α) : cl E (l.set k a) = cl E (l.take k) ++ (E.cel a ++ cl E (l.drop (k + 1))) := by
 have h2 : l.set k a = l.take k ++ (a :: l.drop (k + 1)) := List.set_eq_take_append_cons_drop.trans (by rw [if_pos hk]);rw [h2, gt, dH]
theorem heap_put (g : Nat) (t : TypeId) (post : List Value) : ∀ (vs mid pre : List Value) (w : World), mid.length = vs.length -> w.heap[g]? = some (.cells (pre ++ mid ++ post).toArray t (0, 0)) ->
  (w.setCells g pre.length vs).heap[g]? = some (.cells (pre ++ vs ++ post).toArray t (0, 0))
 |[], mid, pre, w, h, hg => by
  have : mid = [] := List.eq_nil_of_length_eq_zero h;subst this;exact hg
 |v :: vs, mid, pre, w, h, hg => by
  match mid, h with
  |m :: ms, h =>
   rw [World.setCells];have h1 := heap_setCell_same w g pre.length _ t v hg;have hset : (pre ++ m :: ms ++ post).toArray.setIfInBounds pre.length v = ((pre ++ [v]) ++ ms ++ post).toArray := by
    rw [List.setIfInBounds_toArray]
    congr 1
    rw [List.append_assoc, List.set_append_right _ _ (by simp), Nat.sub_self];simp
   rw [hset] at h1;have := heap_put g t post vs ms (pre ++ [v]) _ (by simpa using h) h1;rw [List.length_append, List.length_singleton] at this;rw [this];simp
theorem bc.parts (h : bc E w B (.slice (some ⟨g, 0, none⟩) n cc) l) : l.length = n /\ B <= g /\ ∃ post, w.heap[g]? = some (.cells (cl E l ++ post).toArray E.t (0, 0)) /\ n <= cc /\ cc <= maxLen /\ (cl E l ++ post).length = cc * E.n := by
 rcases h.2 with ⟨hv, _⟩ | ⟨g', cap, cur, hv, hbg, hg, h1, h2, h3, ht⟩
 ·cases hv
 ·injection hv with e1 e2 e3;injection e1 with e1;injection e1 with e1;subst e1 e2 e3;refine ⟨rfl, hbg, cur.toList.drop (l.length * E.n), ?_, h1, h2, ?_⟩
  ·rw [<- ht, List.take_append_drop, Array.toArray_toList]; exact hg
  ·rw [<- ht, List.take_append_drop, Array.length_toList, h3]
theorem bc.wu {post : List Value} (hl : l.length = n) (hB : B <= g) (hg : w.heap[g]? = some (.cells (cl E l ++ post).toArray E.t (0, 0))) (h1 : n <= cc) (h2 : cc <= maxLen) (h3 : (cl E l ++ post).length = cc * E.n) : bc E w B (.slice (some ⟨g, 0, none⟩) n cc) l := by
 subst hl;refine ⟨cf E l, .inr ⟨g, cc, _, rfl, hB, hg, h1, h2, by simpa using h3, ?_⟩⟩;rw [List.take_left' (cf E l)]
theorem bc.there (h : bc E w B (.slice (some ⟨g, 0, none⟩) n cc) l) (hk : k < n) {j m : Nat} (hj : j + m <= E.n) : w.there g (k * E.n + j) m := by
 obtain ⟨hl, _, post, hg, hn, _, h3⟩ := h.parts;intro i hi;refine ⟨?_, frozen_of_row w g _ _ _ hg⟩;rw [cell_of_row w g _ _ _ (0, 0) hg];have : k * E.n + j + i < (cl E l ++ post).length := by
  have h4 := Nat.mul_le_mul_right E.n (ap hk hn);rw [Nat.succ_mul] at h4;rw [h3];omega
 simp only [List.getElem?_toArray, List.getElem?_eq_getElem this, Option.isSome_some]
theorem bc.put (h : bc E w B (.slice (some ⟨g, 0, none⟩) n cc) l) (hk : k < n) {j : Nat} {vs : List Value} (a : α) (ha : E.cel a = (E.cel (l.getD k E.d)).take j ++ vs ++ (E.cel (l.getD k E.d)).drop (j + vs.length)) (hj : j + vs.length <= E.n) :
  bc E (w.setCells g (k * E.n + j) vs) B (.slice (some ⟨g, 0, none⟩) n cc) (l.set k a) := by
 obtain ⟨hl, hB, post, hg, h1, h2, h3⟩ := h.parts;have hkl : k < l.length := by omega
 have hc : E.cel (l.getD k E.d) = (E.cel (l.getD k E.d)).take j ++ ((E.cel (l.getD k E.d)).drop j).take vs.length ++ (E.cel (l.getD k E.d)).drop (j + vs.length) := by
  rw [List.append_assoc, <- List.drop_drop, List.take_append_drop, List.take_append_drop]
 have hsp : cl E l ++ post = (cl E (l.take k) ++ (E.cel (l.getD k E.d)).take j) ++ ((E.cel (l.getD k E.d)).drop j).take vs.length ++ ((E.cel (l.getD k E.d)).drop (j + vs.length) ++ (cl E (l.drop (k + 1)) ++ post)) := by
  rw [oc hkl]
  conv => lhs; rw [hc]
  simp only [List.append_assoc]
 rw [hsp] at hg;have hmid : (((E.cel (l.getD k E.d)).drop j).take vs.length).length = vs.length := by rw [List.length_take, List.length_drop, E.len]; omega
 have := heap_put g E.t _ vs _ _ w hmid hg;have hpl : (cl E (l.take k) ++ (E.cel (l.getD k E.d)).take j).length = k * E.n + j := by
  rw [List.length_append, cf, List.length_take, List.length_take, E.len, Nat.min_eq_left (by omega), Nat.min_eq_left (by omega)]
 rw [hpl] at this;have hsp2 : cl E (l.set k a) ++ post = (cl E (l.take k) ++ (E.cel (l.getD k E.d)).take j) ++ vs ++ ((E.cel (l.getD k E.d)).drop (j + vs.length) ++ (cl E (l.drop (k + 1)) ++ post)) := by
  rw [tn hkl, ha];simp only [List.append_assoc]
 rw [<- hsp2] at this;exact bc.wu (by rw [List.length_set, hl]) hB this h1 h2 (by rw [List.length_append, cf, List.length_set, <- cf E l, <- List.length_append, h3])
theorem bc.store (h : bc E w B (.slice (some ⟨g, 0, none⟩) n cc) l) (hk : k < n) (a : α) : bc E (w.setCells g (k * E.n) (E.cel a)) B (.slice (some ⟨g, 0, none⟩) n cc) (l.set k a) := by
 have := h.put hk (j := 0) (vs := E.cel a) a (by rw [List.take_zero, Nat.zero_add, List.drop_eq_nil_of_le (by rw [E.len, E.len]; exact ai)]; simp) (by rw [E.len]; omega)
 simpa using this
end
abbrev Blk := Vector UInt8 64
def aB : Blk := Vector.replicate 64 0
def cel (b : Blk) : List Value := b.toList.map fun u => .int .u8 (u.toNat : Int)
def blk (b : Blk) : Value := .agg (cel b).toArray
def byt (b : Blk) (j : Nat) : Int := bt b.toList j
theorem kK (b : Blk) {j : Nat} (h : j < 64) : byt b j = (b[j].toNat : Int) := by
 unfold byt;rw [dJ (by simpa using h)];simp
theorem aJ (b : Blk) : (cel b).length = 64 := by simp [cel]
theorem qH (b : Blk) {j : Nat} (h : j < 64) : (cel b)[j]? = some (.int .u8 (byt b j)) := by
 rw [kK b h];simp [cel, h]
theorem kE (b : Blk) : ∀ v ∈ cel b, v.oneCell' = true := by
 intro v hv;simp only [cel, List.mem_map] at hv;obtain ⟨u, _, rfl⟩ := hv
 rfl
theorem xv {a b : Blk} (h : ∀ j, j < 64 -> byt a j = byt b j) : a = b := by
 apply Vector.ext;intro i hi;have := h i hi;rw [kK a hi, kK b hi] at this;exact UInt8.toNat_inj.1 (by omega)
theorem fX (b : Blk) : (blk b).cells = (cel b).toArray := rfl
theorem vu : (prog.info? 29).map (fun i => (i.zero, i.size, i.bytes)) = some (some (blk aB), 64, 64) := by kernel_rfl
theorem uK : prog.underlying 29 = some (.array 64 5) := underlying29
theorem pA : (prog.info? 29).map (·.size) = some 64 := by kernel_rfl
section
variable {w : World} {b off : Nat} {c : Blk}
theorem run_load (hc : w.rangeAt b off (cel c)) : (Instr.loadAt 29 (.pointer (some ⟨b, off, none⟩))).run prog w = .ok (blk c) w :=
 run_loadAt_mid w b off 29 (cel c) _ hc uK rfl (by rw [aJ]; exact pA)
theorem run_store (ht : w.there b off 64) : (Instr.storeAt 29 (.pointer (some ⟨b, off, none⟩)) (blk c)).run prog w = .ok () (w.setCells b off (cel c)) := by
 have := run_storeAt_mid (P := prog) w b off 29 (cel c).toArray (by simpa [aJ] using ht) (by simpa [aJ] using pA) (all_oneCell_toArray (kE c))
 simpa [blk] using this
theorem mC (w : World) : (zeroValue 29).run prog w = .ok (blk aB) w := by
 have h := vu;cases hq : prog.info? 29 with
 |none => rw [hq] at h; cases h
 |some i =>
  rw [hq] at h;simp only [Option.map_some, Option.some.injEq, Prod.mk.injEq] at h;simp [zeroValue, typeInfo, hq, h.1]
theorem la (w : World) (v : Value) : (newVar 29 v).run prog w = .ok ⟨w.heap.size, 0, none⟩ (w.alloc (.cells v.cells 29)) := by
 simp [newVar, newRow]
theorem xP (w : World) (c : Blk) : (Instr.box 29 (blk c)).run prog w = .ok (.pointer (some ⟨w.heap.size, 0, none⟩)) (w.alloc (.cells (cel c).toArray 29)) := by
 simp [Instr.box, la, fX]
theorem sP (w : World) : (Instr.alloc 29 true (.tuple #[])).run prog w = .ok (.pointer (some ⟨w.heap.size, 0, none⟩)) (w.alloc (.cells (cel aB).toArray 29)) := by
 simp only [Instr.alloc, Sem.run_bind, mC, Result.andThen_ok, la, Sem.run_pure, fX]
end
def vals (l : List UInt8) : List Value := l.map fun u => .int .u8 (u.toNat : Int)
theorem bj (l : List UInt8) : (vals l).length = l.length := by simp [vals]
theorem gh (l : List UInt8) : ∀ v ∈ vals l, v.oneCell' = true := by
 intro v hv;simp only [vals, List.mem_map] at hv;obtain ⟨u, _, rfl⟩ := hv
 rfl
theorem fQ {l : List UInt8} {j : Nat} (h : j < l.length) : (vals l)[j]? = some (.int .u8 (bt l j)) := by
 rw [dJ h];simp [vals, h]
section
variable {w w' : World} {B b o n : Nat} {cs : List Value}
theorem fd (h : w.rangeAt b o cs) (hb : b < B) (hw : Below B w w') : w'.rangeAt b o cs := fun j v hj => by
 rw [hw.cell (p := ⟨b, o + j, none⟩) hb]; exact h j v hj
theorem bO (h : w.there b o n) (hb : b < B) (hw : Below B w w') : w'.there b o n := fun j hj => by
 rw [hw.cell (p := ⟨b, o + j, none⟩) hb, hw.frozen (p := ⟨b, o + j, none⟩) hb]; exact h j hj
theorem dx (w : World) (cs : List Value) (t : TypeId) : (w.alloc (.cells cs.toArray t)).rangeAt w.heap.size 0 cs := fun j v hj => by
 rw [cell_of_row _ _ (0 + j) cs.toArray t (0, 0) (heap_alloc_new w _)]
 simpa using hj
theorem du (b : Nat) : ∀ (vs : List Value) (o : Nat) (w : World) (k : Nat), k ≠ b -> (w.setCells b o vs).heap[k]? = w.heap[k]?
 |[], _, _, _, _ => rfl
 |v :: r, o, w, k, h => by
  rw [World.setCells, du b r (o + 1) _ k h];exact heap_setCell_other w ⟨b, o, none⟩ k v h
theorem eS (b : Nat) : ∀ (vs : List Value) (o : Nat) (w : World), (w.setCells b o vs).heap.size = w.heap.size /\ (w.setCells b o vs).os = w.os /\ (w.setCells b o vs).tape = w.tape /\ (w.setCells b o vs).output = w.output
 |[], _, _ => ⟨rfl, rfl, rfl, rfl⟩
 |v :: r, o, w => by
  have h := eS b r (o + 1) (w.setCell ⟨b, o, none⟩ v);rw [World.setCells];refine ⟨h.1.trans ?_, h.2.1.trans rfl, h.2.2.1.trans rfl, h.2.2.2.trans rfl⟩;simp [World.setCell]
theorem below_setCells {a : World} (h : Below B a w) {b o : Nat} (hb : B <= b) (vs : List Value) : Below B a (w.setCells b o vs) := by
 obtain ⟨h1, h2, h3, h4⟩ := eS b vs o w;exact ⟨h2.trans h.os, h3.trans h.tape, h4.trans h.output, by rw [h1]; exact h.size, fun k hk => (du b vs o w k (by omega)).trans (h.block k hk)⟩
end
section
variable {ρ : Operand -> Value} {o : Oper} {x y : Operand} {w : World} {b off : Nat} {c d : Blk}
theorem br (ho : o.op = .load 29 x) (hx : ρ x = .pointer (some ⟨b, off, none⟩)) (hc : w.rangeAt b off (cel c)) : (execOp ρ o).run prog w = .ok (.value (blk c)) w := by
 unfold execOp;simp only [ho, hx, Sem.run_bind, run_load hc, Result.andThen_ok, Sem.run_pure]
theorem bD (ho : o.op = .store 29 x y) (hx : ρ x = .pointer (some ⟨b, off, none⟩)) (hy : ρ y = blk c) (ht : w.there b off 64) : (execOp ρ o).run prog w = .ok .skip (w.setCells b off (cel c)) := by
 unfold execOp;simp only [ho, hx, hy, Sem.run_bind, run_store ht, Result.andThen_ok, Sem.run_pure]
theorem iG (ho : o.op = .store 29 x y) (hx : ρ x = .pointer (some ⟨w.heap.size, 0, none⟩)) (hy : ρ y = blk c) : (execOp ρ o).run prog (w.alloc (.cells (cel d).toArray 29)) = .ok .skip (w.alloc (.cells (cel c).toArray 29)) := by
 have h := run_storeAt_new (P := prog) w 29 (cel d).toArray (cel c).toArray (by simpa [aJ] using pA) (by simp [aJ]) (all_oneCell_toArray (kE c));unfold execOp;simp only [ho, hx, hy, Sem.run_bind];unfold blk;rw [h];simp
theorem b9 (ho : o.op = .box 29 x) (hx : ρ x = blk c) : (execOp ρ o).run prog w = .ok (.value (.pointer (some ⟨w.heap.size, 0, none⟩))) (w.alloc (.cells (cel c).toArray 29)) := by
 unfold execOp;simp only [ho, hx, Sem.run_bind, xP, Result.andThen_ok, Sem.run_pure]
theorem bL (ho : o.op = .alloc 29) : (execOp ρ o).run prog w = .ok (.value (.pointer (some ⟨w.heap.size, 0, none⟩))) (w.alloc (.cells (cel aB).toArray 29)) := by
 unfold execOp;simp only [ho, Sem.run_bind, sP, Result.andThen_ok, Sem.run_pure]
theorem run_build {parts : List (Nat × Value)} (h : Instr.fill (fun i => some (i * 1, 1)) (cel aB).toArray parts = some (cel c).toArray) (w : World) : (Instr.build 29 parts.toArray).run prog w = .ok (blk c) w := by
 simp only [Instr.build, Sem.run_bind, mC, run_underlying uK, Result.andThen_ok, Tryz.sizeOf5, fX, h, Sem.run_pure]
 rfl
theorem cP {parts : List (Nat × Operand)} (ho : o.op = .build 29 parts.toArray) (h : Instr.fill (fun i => some (i * 1, 1)) (cel aB).toArray (parts.map fun (i, x) => (i, ρ x)) = some (cel c).toArray) : (execOp ρ o).run prog w = .ok (.value (blk c)) w := by
 unfold execOp;simp only [ho, List.map_toArray, Sem.run_bind, run_build h, Result.andThen_ok, Sem.run_pure]
end
theorem jg {ρ : Operand -> Value} {o : Oper} {x y : Operand} {w : World} {c : Blk} (ho : o.op = .store 29 x y) (hx : ρ x = .pointer (some ⟨w.heap.size, 0, none⟩)) (hy : ρ y = blk c) : (execOp ρ o).run prog (w.alloc (.cells (cel aB).toArray 29)) = .ok .skip (w.alloc (.cells (cel c).toArray 29)) := iG ho hx hy
theorem cN {fn : Func} {p u : Tmp} {c : Blk} (h : fn.results = #[.cell p 29, .tmp u]) (tmps : Array Value) (w : World) (b : Nat) (hp : tmps.getD p undef = .pointer (some ⟨b, 0, none⟩)) (hc : w.rangeAt b 0 (cel c)) :
  (results fn tmps).run prog w = .ok (.tuple #[blk c, tmps.getD u undef]) w := by
 have hl : (loadVar 29 ⟨b, 0, none⟩).run prog w = .ok (blk c) w := run_loadVar_mid w b 0 29 (cel c) _ hc uK rfl (by rw [aJ]; exact pA);have hp' : tmps[p]?.getD undef = .pointer (some ⟨b, 0, none⟩) := by simpa using hp
 simp [results, h, hp', asAddr, hl]
section
variable {w w' : World} {B b o n : Nat} {cs : List Value} {c : Blk}
theorem eI (w : World) (c : Blk) (t : TypeId) : (w.alloc (.cells (cel c).toArray t)).there w.heap.size 0 64 := fun j hj => by
 rw [cell_of_row _ _ (0 + j) _ t (0, 0) (heap_alloc_new w _), frozen_of_row _ _ (0 + j) _ t (heap_alloc_new w _)];exact ⟨by simp [aJ]; omega, rfl⟩
theorem tA {g m : Nat} {t : TypeId} {f : Nat -> Value} (h : w.rowIs g t m f) (ho : o + n <= m) : w.there g o n := fun j hj => by
 rw [h.cell (i := o + j) (by omega), h.frozen (o + j)];exact ⟨rfl, rfl⟩
end
structure Only (F : Nat -> Prop) (w w' : World) : Prop where
 os : w'.os = w.os
 tape : w'.tape = w.tape
 output : w'.output = w.output
 size : w.heap.size <= w'.heap.size
 block : ∀ k, k < w.heap.size -> ¬ F k -> w'.heap[k]? = w.heap[k]?
section
variable {F G : Nat -> Prop} {w w1 w2 a : World} {B : Nat}
theorem Only.refl (F : Nat -> Prop) (w : World) : Only F w w := ⟨rfl, rfl, rfl, ai, fun _ _ _ => rfl⟩
theorem Only.trans (h : Only F w w1) (k : Only G w1 w2) (hG : ∀ b, G b -> F b \/ w.heap.size <= b) : Only F w w2 :=
 ⟨k.os.trans h.os, k.tape.trans h.tape, k.output.trans h.output, ap h.size k.size, fun b hb hn =>
  (k.block b (aq hb h.size) (fun hg => by rcases hG b hg with e | e; exact hn e; omega)).trans (h.block b hb hn)⟩
theorem Only.widen (h : Only F w w1) (hG : ∀ b, F b -> G b) : Only G w w1 := ⟨h.os, h.tape, h.output, h.size, fun b hb hn => h.block b hb fun e => hn (hG b e)⟩
theorem Only.of_below (F : Nat -> Prop) (h : Below w.heap.size w w1) : Only F w w1 := ⟨h.os, h.tape, h.output, h.size, fun b hb _ => h.block b hb⟩
theorem Only.below (h : Only F w w1) (hF : ∀ b, F b -> B <= b) (hB : B <= w.heap.size) : Below B w w1 := ⟨h.os, h.tape, h.output, h.size, fun b hb => h.block b (by omega) fun e => by have := hF b e; omega⟩
theorem Only.lr (h : Only F w w1) (k : Below w1.heap.size w1 w2) : Only F w w2 := h.trans (Only.of_below F k) fun _ hb => .inl hb
theorem Only.drew (h : Only F w w1) : Only F w w1.drew := ⟨h.os, h.tape, h.output, h.size, h.block⟩
theorem Only.alloc (h : Only F w w1) (o : Obj) : Only F w (w1.alloc o) := h.lr (aj.alloc ai o)
theorem Only.setCell (h : Only F w w1) {p : Addr} (hp : F p.block \/ w.heap.size <= p.block) (u : Value) : Only F w (w1.setCell p u) :=
 ⟨h.os, h.tape, h.output, by have := h.size; simpa [World.setCell] using this, fun b hb hn => (Below.heap_setCell w1 p u b (fun e => by subst e; rcases hp with e | e; exact hn e; omega)).trans (h.block b hb hn)⟩
theorem Only.grown {row : Option Nat} (h : Only F w w1) (hg : w1.grownBy w2 row) (hr : ∀ k, row = some k -> F k \/ w.heap.size <= k) : Only F w w2 :=
 ⟨hg.os.trans h.os, hg.tape.trans h.tape, hg.output.trans h.output, ap h.size hg.size, fun b hb hn =>
  (hg.block b (aq hb h.size) (fun e => by rcases hr b e.symm with e | e; exact hn e; omega)).trans (h.block b hb hn)⟩
theorem Only.keep {o : Obj} {b : Nat} (h : Only F w w1) (hb : w.heap[b]? = some o) (hn : ¬ F b) : w1.heap[b]? = some o := (h.block b (Array.getElem?_eq_some_iff.1 hb).1 hn).trans hb
theorem Only.cell (h : Only F w w1) {p : Addr} (hp : p.block < w.heap.size) (hn : ¬ F p.block) : w1.cell? p = w.cell? p := World.cell?_of_block (w := w) (h.block _ hp hn)
end
theorem aC {w w' : World} {b : Nat} {o : Obj} (h : w.heap[b]? = some o) (hb : Below w.heap.size w w') : w'.heap[b]? = some o := (hb.block b (Array.getElem?_eq_some_iff.1 h).1).trans h
theorem j7 {w w' : World} {B b : Nat} {o : Obj} (h : w.heap[b]? = some o) (hB : b < B) (hb : Below B w w') : w'.heap[b]? = some o := (hb.block b hB).trans h
theorem bw {w : World} {b : Nat} {o : Obj} (h : w.heap[b]? = some o) (o' : Obj) : (w.alloc o').heap[b]? = some o := (Below.heap_alloc w o' b (Array.getElem?_eq_some_iff.1 h).1).trans h
theorem aW {w : World} {b : Nat} {o : Obj} (h : w.heap[b]? = some o) : b < w.heap.size := (Array.getElem?_eq_some_iff.1 h).1
section
variable {w : World} {b : Nat} {t : TypeId} {x y z : Value}
theorem cells3 (h : w.heap[b]? = some (.cells #[x, y, z] t (0, 0))) : w.cell? ⟨b, 0, none⟩ = some x /\ w.cell? ⟨b, 1, none⟩ = some y /\ w.cell? ⟨b, 2, none⟩ = some z := by
 refine ⟨?_, ?_, ?_⟩
 ·rw [cell_of_row w b 0 _ t (0, 0) h]; rfl
 ·rw [cell_of_row w b 1 _ t (0, 0) h]; rfl
 ·rw [cell_of_row w b 2 _ t (0, 0) h]; rfl
end
theorem kv (w : World) (cs : Array Value) (t : TypeId) : (w.alloc (.cells cs t)).heap[w.heap.size]? = some (.cells cs t) := heap_alloc_new w _
def jP : Elt Blk where
 s := 95
 t := 29
 n := 64
 by_ := 64
 cel := cel
 d := aB
 z := blk aB
 pos := by omega
 small := by omega
 len := aJ
 one := kE
 und := underlying95
 info := vu
 zc := by rw [fX]; simp [aJ]
def dU (p : Int × Blk) : List Value := .int .i64 p.1 :: cel p.2
def fP (n : Int) (b : Blk) : Value := .agg (.int .i64 n :: cel b).toArray
theorem nu (p : Int × Blk) : (dU p).length = 65 := by simp [dU, aJ]
theorem sH (p : Int × Blk) : ∀ v ∈ dU p, v.oneCell' = true := by
 intro v hv;simp only [dU, List.mem_cons] at hv;rcases hv with rfl | hv
 ·rfl
 ·exact kE p.2 v hv
def o6 (s t : TypeId) (und : prog.underlying s = some (.slice t)) (info : (prog.info? t).map (fun i => (i.zero, i.size, i.bytes)) = some (some (fP 0 aB), 65, 72)) : Elt (Int × Blk) where
 s := s
 t := t
 n := 65
 by_ := 72
 cel := dU
 d := (0, aB)
 z := fP 0 aB
 pos := by omega
 small := by omega
 len := nu
 one := sH
 und := und
 info := info
 zc := by show (Value.cells (.agg _)).size = 65; simp [Value.cells, aJ]
section
variable {s t : TypeId} {und : prog.underlying s = some (.slice t)} {info : (prog.info? t).map (fun i => (i.zero, i.size, i.bytes)) = some (some (fP 0 aB), 65, 72)} {w : World} {B n k : Nat} {A : Option Addr} {l : List (Int × Blk)}
theorem RdE.pair (h : RdE (o6 s t und info) w B A n l) (hk : k < n) : ∃ b off, A = some ⟨b, off, none⟩ /\ b < B /\ w.cell? ⟨b, off + k * 65, none⟩ = some (.int .i64 (l.getD k (0, aB)).1) /\ w.rangeAt b (off + k * 65 + 1) (cel (l.getD k (0, aB)).2) := by
 obtain ⟨b, off, e, hb, hc⟩ := h.2 k hk;refine ⟨b, off, e, hb, hc 0 _ rfl, fun j v hj => ?_⟩;have := hc (j + 1) v hj;rwa [show off + k * (o6 s t und info).n + (j + 1) = off + k * 65 + 1 + j from by show off + k * 65 + (j + 1) = _; omega] at this
end
theorem RdE.blk {w : World} {B n k : Nat} {A : Option Addr} {l : List Blk} (h : RdE jP w B A n l) (hk : k < n) : ∃ b off, A = some ⟨b, off, none⟩ /\ b < B /\ w.rangeAt b (off + k * 64) (cel (l.getD k aB)) := h.2 k hk
theorem Only.setCells {F : Nat -> Prop} {w w1 : World} {b : Nat} (h : Only F w w1) (hb : F b \/ w.heap.size <= b) : ∀ (vs : List Value) (o : Nat), Only F w (w1.setCells b o vs) := by
 intro vs
 induction vs generalizing w1 with
 |nil => intro o; exact h
 |cons v r ih => intro o; exact ih (h.setCell (p := ⟨b, o, none⟩) hb v) (o + 1)
theorem o7 {w : World} {b : Nat} {t : TypeId} {c d : Blk} (h : w.heap[b]? = some (.cells (cel c).toArray t (0, 0))) : (w.setCells b 0 (cel d)).heap[b]? = some (.cells (cel d).toArray t (0, 0)) := by
 have := heap_put b t [] (cel d) (cel c) [] w (by rw [aJ, aJ]) (by simpa using h)
 simpa using this
theorem gn {w : World} {b : Nat} {t : TypeId} {c : Blk} (h : w.heap[b]? = some (.cells (cel c).toArray t (0, 0))) : w.rangeAt b 0 (cel c) := fun j v hj => by
 rw [cell_of_row _ _ (0 + j) (cel c).toArray t (0, 0) h]
 simpa using hj
theorem fv {w : World} {b : Nat} {t : TypeId} {c : Blk} (h : w.heap[b]? = some (.cells (cel c).toArray t (0, 0))) : w.there b 0 64 := fun j hj => by
 rw [cell_of_row _ _ (0 + j) _ t (0, 0) h, frozen_of_row _ _ (0 + j) _ t h];exact ⟨by simp [aJ]; omega, rfl⟩
section
variable {P : Program} {ops : Array Oper} {Q : Exit -> Act -> World -> Prop} {md : Region.Mode} {S : World -> Prop} {z : Nat}
def dX (P : Program) (md : Region.Mode) (ops : Array Oper) (Q : Exit -> Act -> World -> Prop) (S : World -> Prop) (z : Nat) : Nat -> Array Bool -> Act -> World -> Prop
 |0, listed, a, w => Region.ready md ops listed = [] /\ Q .normal a w
 |fuel + 1, listed, a, w =>
  (Region.ready md ops listed = [] -> Q .normal a w) /\
  ∀ i ∈ Region.ready md ops listed, wpOp P ops Q i (fun a' w' => (i ≠ z -> S w') /\ dX P md ops Q S z fuel (listed.setIfInBounds i true) a' w') a w
theorem mc : ∀ (fuel : Nat) (listed : Array Bool) (a : Act) (w : World), dX P md ops Q S z fuel listed a w -> wpAny P md ops Q fuel listed a w
 |0, _, _, _, h => h
 |fuel + 1, _, _, _, h => ⟨h.1, fun i hi => wpOp_mono (fun a' w' h' => mc fuel _ a' w' h'.2) (h.2 i hi)⟩
def nf (md : Region.Mode) (ops : Array Oper) (z i : Nat) : Bool := match ops[z]? with
 |some o => o.after.any fun e => Region.binds md e && decide (e.on = i)
 |none => false
theorem qW {listed : Array Bool} {i : Nat} (h : nf md ops z i = true) (hi : listed.getD i false = false) : z ∉ Region.ready md ops listed := by
 intro hz;obtain ⟨_, o, ho, hall⟩ := mem_ready.1 hz;unfold nf at h;rw [ho] at h;simp only [Array.any_eq_true, Bool.and_eq_true, decide_eq_true_eq] at h;obtain ⟨k, hk, hb, he⟩ := h;have := hall _ (Array.getElem_mem hk) hb;rw [he, hi] at this;cases this
theorem yP {listed : Array Bool} {i : Nat} (h : listed.getD i true = false) : listed.getD i false = false := by
 rcases Nat.lt_or_ge i listed.size with h' | h'
 ·simpa [h'] using h
 ·simp [Array.getElem?_eq_none h']
theorem nD {i : Nat} {oi : Oper} {v : Value} (hi : ops[i]? = some oi) (hsel : ∀ (j : Nat) (o : Oper) cs b, ops[j]? = some o -> o.op ≠ .select cs b)
  (hQ : ∀ c a w, Q (.panic c) (a.put oi.dst v) w -> Q (.panic c) a w) (hiz : i ≠ z) (hwz : nf md ops z i = true) :
  ∀ (fuel : Nat) (listed : Array Bool) (a : Act) (w : World),
   (∀ j oj, ops[j]? = some oj -> j ≠ i -> listed.getD j true = false -> (∀ e ∈ oj.after, Region.binds md e = true -> e.on ≠ i) -> oi.apart ops oj = true) ->
   i ∈ Region.ready md ops listed -> YieldsIf P ops S oi v a -> S w ->
   dX P md ops Q S z fuel (listed.setIfInBounds i true) (a.put oi.dst v) w -> dX P md ops Q S z (fuel + 1) listed a w := by
 intro fuel
 induction fuel with
 |zero =>
  intro listed a w _ hr hy hS H;refine ⟨fun h => (by rw [h] at hr; cases hr), fun j hj => ?_⟩;by_cases hji : j = i
  ·subst hji; exact hy.wpOp hi hS ⟨fun _ => hS, H⟩
  ·have := ready_mono hj hji;rw [H.1] at this;cases this
 |succ fuel ih =>
  intro listed a w hfree hr hy hS H;refine ⟨fun h => (by rw [h] at hr; cases hr), fun j hj => ?_⟩;by_cases hji : j = i
  ·subst hji; exact hy.wpOp hi hS ⟨fun _ => hS, H⟩
  ·have h1 := H.2 j (ready_mono hj hji);obtain ⟨hjun, oj, hoj, hall⟩ := mem_ready.1 hj;have hjz : j ≠ z := fun e => by
    subst e;exact qW hwz (yP (mem_ready.1 hr).1) hj
   have hnot : ∀ e ∈ oj.after, Region.binds md e = true -> e.on ≠ i := fun e he hb heq => by
    have h1 := hall e he hb;rw [heq, yP (mem_ready.1 hr).1] at h1;cases h1
   have h2 := wpOp_putIf hoj (hfree j oj hoj hji hjun hnot) (fun cs b => hsel i oi cs b hi) (fun cs b => hsel j oj cs b hoj) hQ hy h1;have hfree' : ∀ k ok, ops[k]? = some ok -> k ≠ i -> (listed.setIfInBounds j true).getD k true = false ->
     (∀ e ∈ ok.after, Region.binds md e = true -> e.on ≠ i) -> oi.apart ops ok = true := fun k ok hk hki hun hno => by
    refine hfree k ok hk hki ?_ hno;by_cases hjk : j = k
    ·subst hjk; exact hjun
    ·rw [getD_set_ne true hjk] at hun; exact hun
   refine wpOp_mono (fun a' w' h3 => ⟨h3.2.1, ih (listed.setIfInBounds j true) a' w' hfree' (ready_mono hr (Ne.symm hji)) h3.1 (h3.2.1 hjz) ?_⟩) h2;rw [Array.setIfInBounds_comm _ _ hji];exact h3.2.2
theorem lY {rs : List Nat} {fuel : Nat} {listed : Array Bool} {a : Act} {w : World} (hr : Region.ready md ops listed = rs) (hne : rs ≠ [])
  (h : ∀ i ∈ rs, wpOp P ops Q i (fun a' w' => (i ≠ z -> S w') /\ dX P md ops Q S z fuel (listed.setIfInBounds i true) a' w') a w) : dX P md ops Q S z (fuel + 1) listed a w :=
 ⟨fun h0 => absurd (hr ▸ h0) hne, hr ▸ h⟩
theorem kr {listed : Array Bool} {a : Act} {w : World} (hr : Region.ready md ops listed = []) (h : Q .normal a w) :
  ∀ fuel, dX P md ops Q S z fuel listed a w
 |0 => ⟨hr, h⟩
 |_ + 1 => ⟨fun _ => h, by rw [hr]; simp⟩
theorem ib {id : Nat} {a : Act} {w : World} (S : World -> Prop) (z : Nat) (hm : P.follows .mixedOrders = true)
  (h : dX P .any ops Q S z ops.size (Array.replicate ops.size false) a w.drew) : (Code.region id ops true).wp P Q a w :=
 wp_region_any hm (mc _ _ _ _ h)
end
section
variable {P : Program} {md : Region.Mode} {l : List Oper} {Q : Exit -> Act -> World -> Prop} {S : World -> Prop} {z fuel : Nat} {listed : Array Bool} {a : Act} {w w' : World} {o : Oper} {v : Value}
theorem cM (i : Nat) (hi : l[i]? = some o) (hs : Region.noSelect l.toArray = true) (hf : Region.free md l.toArray listed i = true) (hr : (Region.ready md l.toArray listed).contains i = true) (hiz : i ≠ z) (hwz : nf md l.toArray z i = true)
  (hw : Region.wanted o (yielded l.toArray a.tmps) = true) (h : ∀ w, S w -> (execOp a.eval o).run P w = .ok (.value v) w) (hQ : ∀ c a w, Q (.panic c) (a.put o.dst v) w -> Q (.panic c) a w) (hS : S w)
  (hk : dX P md l.toArray Q S z fuel (listed.setIfInBounds i true) (a.put o.dst v) w) : dX P md l.toArray Q S z (fuel + 1) listed a w :=
 nD (by simpa using hi) (Region.noSelect_spec hs) hQ hiz hwz fuel listed a w (Region.free_spec (by simpa using hi) hf) (by simpa using hr) (.inl ⟨hw, h⟩) hS hk
theorem abD (i : Nat) (hi : l[i]? = some o) (h : ∀ w, S w -> (execOp a.eval o).run P w = .ok (.value v) w) (hS : S w) (hk : dX P md l.toArray Q S z fuel (listed.setIfInBounds i true) (a.put o.dst v) w) (hs : Region.noSelect l.toArray = true := by kernel_rfl) (hf : Region.free md l.toArray listed i = true := by kernel_rfl) (hr : (Region.ready md l.toArray listed).contains i = true := by kernel_rfl) (hiz : i ≠ z := by decide) (hwz : nf md l.toArray z i = true := by kernel_rfl) (hw : Region.wanted o (yielded l.toArray a.tmps) = true := by exact rfl) (hQ : ∀ c a w, Q (.panic c) (a.put o.dst v) w -> Q (.panic c) a w := by exact fun _ _ _ h => h) : dX P md l.toArray Q S z (fuel + 1) listed a w := cM i hi hs hf hr hiz hwz hw h hQ hS hk
theorem abK {l0 l1 : List Value} {ds0 : List Deferred} {i0 : Nat} (i : Nat) (hi : l[i]? = some o) (h : ∀ w, S w -> (execOp (Act.mk l0.toArray ds0).eval o).run P w = .ok (.value v) w) (hS : S w) (hk : dX P md l.toArray Q S z fuel (listed.setIfInBounds i true) ⟨l1.toArray, ds0⟩ w) (hd : o.dst = some i0 := by exact rfl) (hl : l0.set i0 v = l1 := by simp only [ah] <;> rfl) (hs : Region.noSelect l.toArray = true := by kernel_rfl) (hf : Region.free md l.toArray listed i = true := by kernel_rfl) (hr : (Region.ready md l.toArray listed).contains i = true := by kernel_rfl) (hiz : i ≠ z := by decide) (hwz : nf md l.toArray z i = true := by kernel_rfl) (hw : Region.wanted o (yielded l.toArray l0.toArray) = true := by exact rfl) (hQ : ∀ c a w, Q (.panic c) (a.put o.dst v) w -> Q (.panic c) a w := by exact fun _ _ _ h => h) : dX P md l.toArray Q S z (fuel + 1) listed ⟨l0.toArray, ds0⟩ w := abD i hi h hS (by have e : Act.put (Act.mk l0.toArray ds0) o.dst v = ⟨l1.toArray, ds0⟩ := (by rw [hd, <- hl]; show Act.mk (l0.toArray.setIfInBounds i0 v) ds0 = _; rw [List.setIfInBounds_toArray]); rw [e]; exact hk) hs hf hr hiz hwz hw hQ
theorem eA (i : Nat) (hi : l[i]? = some o) (hr : Region.ready md l.toArray listed = [i]) (hw : Region.wanted o (yielded l.toArray a.tmps) = true) (h : (execOp a.eval o).run P w = .ok (.value v) w')
  (hS : i ≠ z -> S w') (hk : dX P md l.toArray Q S z fuel (listed.setIfInBounds i true) (a.put o.dst v) w') : dX P md l.toArray Q S z (fuel + 1) listed a w :=
 lY hr (by simp) fun j hj => by
  obtain rfl : j = i := by simpa using hj
  unfold wpOp;simp only [List.getElem?_toArray, hi, hw, if_true];refine .inl ?_;unfold Oper.wp;rw [h];exact ⟨hS, hk⟩
theorem ot (i : Nat) (hi : l[i]? = some o) (hr : Region.ready md l.toArray listed = [i]) (hw : Region.wanted o (yielded l.toArray a.tmps) = true) (h : (execOp a.eval o).run P w = .ok .skip w')
  (hS : i ≠ z -> S w') (hk : dX P md l.toArray Q S z fuel (listed.setIfInBounds i true) (a.put o.dst undef) w') : dX P md l.toArray Q S z (fuel + 1) listed a w :=
 lY hr (by simp) fun j hj => by
  obtain rfl : j = i := by simpa using hj
  unfold wpOp;simp only [List.getElem?_toArray, hi, hw, if_true];refine .inl ?_;unfold Oper.wp;rw [h];exact ⟨hS, hk⟩
end
def ir : Elt Int where
 s := 77
 t := 3
 n := 1
 by_ := 8
 cel x := [.int .i64 x]
 d := 0
 z := .int .i64 0
 pos := by omega
 small := by omega
 len _ := rfl
 one x v hv := by simp at hv; subst hv; rfl
 und := underlying77
 info := by kernel_rfl
 zc := rfl
section
variable {w : World} {B n : Nat} {A : Option Addr} {l : List Int}
theorem RdE.int (h : RdE ir w B A n l) {k : Nat} (hk : k < n) : ∃ b off, A = some ⟨b, off, none⟩ /\ b < B /\ w.cell? ⟨b, off + k, none⟩ = some (.int .i64 (l.getD k 0)) := by
 obtain ⟨b, off, e, hb, hc⟩ := h.2 k hk;refine ⟨b, off, e, hb, ?_⟩;have h0 := hc 0 (.int .i64 (l.getD k 0)) rfl;rwa [show off + k * ir.n + 0 = off + k from by show off + k * 1 + 0 = _; omega] at h0
end
theorem zS : prog.underlying 95 = some (.slice 29) := underlying95
def flat (l : List Blk) : List Value := l.flatMap cel
theorem mA (x : Blk) (l : List Blk) : flat (x :: l) = cel x ++ flat l := rfl
theorem oW (l : List Blk) : (flat l).length = l.length * 64 := by
 induction l with
 |nil => rfl
 |cons x l ih => rw [mA, List.length_append, aJ, ih, List.length_cons]; omega
theorem xn (l : List Blk) {k j : Nat} (hk : k < l.length) (hj : j < 64) : (flat l)[k * 64 + j]? = (cel (l.getD k aB))[j]? := by
 induction l generalizing k with
 |nil => simp at hk
 |cons x l ih =>
  rw [mA];cases k with
  |zero => rw [Nat.zero_mul, Nat.zero_add, List.getElem?_append_left (by rw [aJ]; exact hj)]; rfl
  |succ k =>
   rw [List.getElem?_append_right (by rw [aJ]; omega), aJ, show (k + 1) * 64 + j - 64 = k * 64 + j from by omega, ih (by simpa using hk)]
   rfl
end Go.Proofs.YtehefifamaofkaaGreatDoor
