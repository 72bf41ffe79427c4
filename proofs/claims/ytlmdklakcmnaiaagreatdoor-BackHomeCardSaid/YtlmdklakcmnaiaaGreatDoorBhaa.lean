import Derived.Laws.OwnMore
import Derived.Deep.Draws
import Derived.Laws.Rows
import Derived.OwnWalk
import Derived.Deep.OwnRows
import Derived.Test.YtlmdklakcmnaiaaGreatDoorRows
import Derived.WalkKit
import Derived.ProofKit
import Derived.OpenShut
import Derived.ShutString
import Derived.ChangeOld
import Derived.SizedLaws
import Derived.JoinedCond
import Derived.Test.YtlmdklakcmnaiaaGreatDoorProg
import Derived.RegionTactic
import Derived.ChangeAlike
import Derived.Deep.QuietTactic
import Derived.BigQuiet
import Derived.WalkLawsBesides
import Derived.WalkSpells
import Derived.Laws.BitsAllLaws
import Derived.Deep.DeepHandedRow
import Derived.Lib.LaidTab
import Derived.Lib.SmallJoins
import Derived.LaidSub
import Derived.Deep.MidRow
import Derived.Deep.Quiet
import Derived.Laws.StructEq
import Derived.Laws.IdiomCopy
import Derived.Laws.NewBlocks
import Derived.Laws.CopyOwn
import Derived.IntWalk
import Derived.Laws.AppendOwn
import Derived.Laws.AppendOwnNone
import Derived.StillTailTactics
import Derived.Deep.WholeRow
import Derived.OrdersHeld
import Derived.Test.YtlmdklakcmnaiaaGreatDoorBhZ
namespace Go.Proofs.YtlmdklakcmnaiaaGreatDoor
set_option maxHeartbeats 8000000
open Go.Proofs.Tryz
open Go.RowKit
set_option maxRecDepth 100000
def bt (l : List UInt8) (k : Nat) : Int := ((l.getD k 0).toNat : Int)
theorem kY (l : List UInt8) (k : Nat) : 0 <= bt l k := by unfold bt; omega
theorem nh (l : List UInt8) (k : Nat) : bt l k <= 255 := by
 unfold bt;have := UInt8.toNat_lt (l.getD k 0);omega
theorem eS {l : List UInt8} {k : Nat} (h : k < l.length) : bt l k = (l[k].toNat : Int) := by
 unfold bt;simp [List.getD, List.getElem?_eq_getElem h]
theorem kq {a b : List UInt8} (hl : a.length = b.length) (h : ∀ k, k < a.length -> bt a k = bt b k) : a = b := by
 apply List.ext_getElem hl;intro k h1 h2;have := h k h1;rw [eS h1, eS h2] at this;exact UInt8.toNat_inj.1 (by omega)
def Rd (w : World) (B : Nat) (A : Option Addr) (n : Nat) (l : List UInt8) : Prop :=
 l.length = n /\ ∀ k, k < n -> ∃ b off, A = some ⟨b, off, none⟩ /\ b < B /\ w.cell? ⟨b, off + k, none⟩ = some (.int .u8 (bt l k))
section
variable {w w' : World} {B B' n : Nat} {A : Option Addr} {l : List UInt8}
theorem Rd.nil (w : World) (B : Nat) (A : Option Addr) : Rd w B A 0 [] := ⟨rfl, fun k hk => absurd hk (by omega)⟩
theorem Rd.keep (h : Rd w B A n l) (hk : ∀ p : Addr, p.block < B -> w'.cell? p = w.cell? p) : Rd w' B A n l :=
 ⟨h.1, fun k hn => by
  obtain ⟨b, off, e, hb, hc⟩ := h.2 k hn;exact ⟨b, off, e, hb, (hk _ hb).trans hc⟩⟩
theorem Rd.below (h : Rd w B A n l) (hb : Below B w w') : Rd w' B A n l := h.keep fun _ hp => hb.cell hp
end
theorem bdn {B : Nat} {a w : World} (h : Below B a w) (k : Nat) : Below B a (w.drewN k) := ⟨h.os, h.tape, h.output, h.size, h.block⟩
theorem bd {B : Nat} {a w : World} (h : Below B a w) : Below B a w.drew := ⟨h.os, h.tape, h.output, h.size, h.block⟩
theorem two {a b c : World} (h1 : Below a.heap.size a b) (h2 : Below b.heap.size b c) : Below a.heap.size a c := h1.trans (h2.mono h1.size)
theorem bf {a b : Bool} (h : a = b) : Ending.returned (.bool a) = .returned (.bool b) := by rw [h]
theorem uT {k k' : IntKind} {a b a' b' : Int} (h : a = b) (h' : a' = b') : Ending.returned (.tuple #[.int k a, .int k' a']) = .returned (.tuple #[.int k b, .int k' b']) := by rw [h, h']
theorem dv {k : IntKind} {a b : Int} (h : a = b) : Ending.returned (.int k a) = .returned (.int k b) := by rw [h]
def Made (w : World) (base : Nat) (v : Value) (l : List UInt8) : Prop :=
 w.ownsRow base 5 1 v l.length (l.map fun u => .int .u8 (u.toNat : Int))
theorem Made.form {w : World} {base : Nat} {v : Value} {l : List UInt8} (h : Made w base v l) : ∃ A c, v = .slice A l.length c /\ l.length <= c /\ c <= maxLen := by
 rcases h.2 with ⟨rfl, h0⟩ | ⟨g, cap, cur, rfl, _, _, h1, h2, _⟩
 ·exact ⟨none, 0, by rw [h0], by omega, by simp [maxLen]⟩
 ·exact ⟨_, cap, rfl, h1, h2⟩
theorem Made.rd {w : World} {base n c : Nat} {A : Option Addr} {l : List UInt8} (h : Made w base (.slice A n c) l) : Rd w w.heap.size A n l := by
 rcases h.2 with ⟨hv, h0⟩ | ⟨g, cap, cur, hv, _, hg, _, _, _, ht⟩
 ·have hl : l = [] := List.eq_nil_of_length_eq_zero h0;subst hl;injection hv with h1 h2 h3;subst h2;exact Rd.nil _ _ _
 ·injection hv with h1 h2 h3;subst h1 h2 h3;refine ⟨rfl, fun k hk => ⟨g, 0, rfl, (Array.getElem?_eq_some_iff.1 hg).1, ?_⟩⟩;rw [cell_of_row w g (0 + k) cur 5 (0, 0) hg];have h2 : (cur.toList.take (l.length * 1))[k]? = (l.map fun u => Value.int .u8 (u.toNat : Int))[k]? := by rw [ht]
  rw [List.getElem?_take_of_lt (by omega), List.getElem?_map, List.getElem?_eq_getElem hk] at h2;rw [eS hk, Nat.zero_add]
  simpa using h2
theorem Made.open_ {w : World} {base n : Nat} {v : Value} {l : List UInt8} (h : Made w base v l) (hn : l.length = n) : ∃ A c, v = .slice A n c /\ Rd w w.heap.size A n l /\ n <= c /\ c <= maxLen := by
 subst hn;obtain ⟨A, c, rfl, h1, h2⟩ := h.form;exact ⟨A, c, rfl, h.rd, h1, h2⟩
def upd (f : Nat -> Int) (i : Nat) (x : Int) : Nat -> Int := fun j => if j = i then x else f j
theorem sw (f : Nat -> Int) (i : Nat) (x : Int) : upd f i x i = x := by unfold upd; rw [if_pos rfl]
theorem nP (f : Nat -> Int) {i j : Nat} (x : Int) (h : j ≠ i) : upd f i x j = f j := by unfold upd; rw [if_neg h]
theorem y6 {w : World} {g c i : Nat} {f : Nat -> Int} {e : TypeId} (h : w.rowIs g e c (fun j => .int .u8 (f j))) (x : Int) : (w.setCell ⟨g, i, none⟩ (.int .u8 x)).rowIs g e c (fun j => .int .u8 (upd f i x j)) :=
 (h.set i _).congr fun j _ => by
  unfold upd
  split
  ·rfl
  ·rfl
def Own (w : World) (base : Nat) (v : Value) (l : List UInt8) : Prop :=
 ∃ (g c : Nat) (f : Nat -> Int), v = .slice (some ⟨g, 0, none⟩) l.length c /\ base <= g /\ w.rowIs g 5 c (fun j => .int .u8 (f j)) /\ l.length <= c /\ c <= maxLen /\ (∀ j, j < l.length -> f j = bt l j) /\ ∀ j, 0 <= f j /\ f j <= 255
theorem Own.made {w : World} {base : Nat} {v : Value} {l : List UInt8} (h : Own w base v l) : Made w base v l := by
 obtain ⟨g, c, f, rfl, hb, ⟨cur, hg, hn, hc⟩, h1, h2, hf, _⟩ := h;refine ⟨by simp, .inr ⟨g, c, cur, rfl, hb, hg, h1, h2, by simpa using hn, ?_⟩⟩;apply List.ext_getElem?;intro k;by_cases hk : k < l.length
 ·rw [List.getElem?_take_of_lt (by omega), List.getElem?_map, List.getElem?_eq_getElem hk, Array.getElem?_toList, hc k (by omega)]
  show some (Value.int .u8 (f k)) = _
  rw [hf k hk, eS hk]
  rfl
 ·rw [List.getElem?_eq_none (by simp; omega), List.getElem?_eq_none (by simp; omega)]
theorem Own.vJ {w : World} {base g c : Nat} {f : Nat -> Int} {l : List UInt8} {n : Nat} (hn : l.length = n) (hb : base <= g) (h : w.rowIs g 5 c (fun j => .int .u8 (f j))) (h1 : n <= c) (h2 : c <= maxLen)
  (hf : ∀ j, j < n -> f j = bt l j) (hr : ∀ j, 0 <= f j /\ f j <= 255) : Own w base (.slice (some ⟨g, 0, none⟩) n c) l := by
 subst hn;exact ⟨g, c, f, rfl, hb, h, h1, h2, hf, hr⟩
open Go.RowKit Go.ChangeShapes Go.WideShapes Go.ChangeAt
theorem aiP : ownKnob prog.godebug = none := by kernel_rfl
theorem ajs : laidOutB prog = true := by kernel_rfl
theorem afU : prog.cellsOf 5 = 1 := by kernel_rfl
def val (w : Nat) : List UInt8 -> Nat
 |[] => 0
 |u :: r => u.toNat + 2 ^ w * val w r
def cw (w n V : Nat) : List UInt8 := (List.range n).map fun j => UInt8.ofNat (V / 2 ^ (w * j) % 2 ^ w)
theorem aT (w n V : Nat) : (cw w n V).length = n := by simp [cw]
theorem xd {w : Nat} (hw : w <= 8) (x : Nat) : x % 2 ^ w < 256 := by
 have h1 : x % 2 ^ w < 2 ^ w := Nat.mod_lt _ (Nat.pow_pos (by omega));have h2 : 2 ^ w <= 2 ^ 8 := Nat.pow_le_pow_right (by omega) hw;omega
theorem jA {w n V j : Nat} (hw : w <= 8) (h : j < (cw w n V).length) : ((cw w n V)[j]).toNat = V / 2 ^ (w * j) % 2 ^ w := by
 simp only [cw, List.getElem_map, List.getElem_range, UInt8.toNat_ofNat'];exact Nat.mod_eq_of_lt (xd hw _)
theorem vK {w : Nat} {l : List UInt8} (h : ∀ u ∈ l, u.toNat < 2 ^ w) : val w l < 2 ^ (w * l.length) := by
 induction l with
 |nil => simp [val]
 |cons u r ih =>
  have h1 := ih fun x hx => h x (List.mem_cons_of_mem _ hx)
  have h2 := h u List.mem_cons_self;rw [val, List.length_cons, Nat.mul_succ, Nat.add_comm (w * r.length) w, Nat.pow_add];have h3 : 2 ^ w * (val w r + 1) <= 2 ^ w * 2 ^ (w * r.length) := Nat.mul_le_mul_left _ h1;rw [Nat.mul_succ] at h3;omega
theorem y9 (w : Nat) (u : UInt8) : val w [u] = u.toNat := by rw [val, val, Nat.mul_zero, Nat.add_zero]
theorem val_append (w : Nat) (a b : List UInt8) : val w (a ++ b) = val w a + 2 ^ (w * a.length) * val w b := by
 induction a with
 |nil => simp [val]
 |cons u r ih =>
  rw [List.cons_append, val, val, ih, List.length_cons, Nat.mul_succ, Nat.add_comm (w * r.length) w, Nat.pow_add, Nat.mul_add, Nat.mul_assoc, Nat.add_assoc]
theorem zy {w : Nat} {l : List UInt8} (h : ∀ u ∈ l, u.toNat < 2 ^ w) (j : Nat) : val w l / 2 ^ (w * j) % 2 ^ w = (l.getD j 0).toNat := by
 induction l generalizing j with
 |nil => simp [val]
 |cons u r ih =>
  have h2 := h u List.mem_cons_self;have h0 : 0 < 2 ^ w := Nat.pow_pos (by omega);cases j with
  |zero =>
   rw [val, Nat.mul_zero, Nat.pow_zero, Nat.div_one, Nat.add_mul_mod_self_left, Nat.mod_eq_of_lt h2]
   rfl
  |succ j =>
   rw [val, Nat.mul_succ, Nat.add_comm (w * j) w, Nat.pow_add, <- Nat.div_div_eq_div_mul, Nat.add_mul_div_left _ _ h0, Nat.div_eq_of_lt h2, Nat.zero_add, ih fun x hx => h x (List.mem_cons_of_mem _ hx)];simp
theorem x6 (l : List UInt8) : ∀ u ∈ l, u.toNat < 2 ^ 8 := fun u _ => UInt8.toNat_lt u
def dg (V j : Nat) : Nat := V / 2 ^ (8 * j) % 2 ^ 8
theorem lg (V j : Nat) : dg V j < 256 := Nat.mod_lt _ (by decide)
theorem jI (V j t : Nat) : (dg V j).testBit t = (decide (t < 8) && V.testBit (8 * j + t)) := by
 unfold dg;rw [Nat.testBit_mod_two_pow, Nat.testBit_div_two_pow, Nat.add_comm]
theorem nT {V s : Nat} (x : Nat) (hV : V < 2 ^ s) (t : Nat) : (V + 2 ^ s * x).testBit t = if t < s then V.testBit t else x.testBit (t - s) := by
 rw [Nat.add_comm, Nat.testBit_two_pow_mul_add x hV]
theorem kC {V s t : Nat} (hV : V < 2 ^ s) (h : s <= t) : V.testBit t = false :=
 Nat.testBit_lt_two_pow (au hV (Nat.pow_le_pow_right (by omega) h))
theorem um {V s x : Nat} (hV : V < 2 ^ s) : dg V (s / 8) ||| (x * 2 ^ (s % 8) % 2 ^ 8) = dg (V + 2 ^ s * x) (s / 8) := by
 apply Nat.eq_of_testBit_eq;intro t;rw [Nat.testBit_or, jI, jI, Nat.testBit_mod_two_pow, nT x hV, Nat.testBit_mul_two_pow];by_cases ht : t < 8
 ·by_cases h2 : t < s % 8
  ·have h3 : 8 * (s / 8) + t < s := by omega
   simp [ht, h3];omega
  ·have h3 : ¬ 8 * (s / 8) + t < s := by omega
   have h4 : 8 * (s / 8) + t - s = t - s % 8 := by omega
   rw [kC hV (by omega)];simp [ht, h3, h4];omega
 ·simp [ht]
theorem adJ {V s x : Nat} (hV : V < 2 ^ s) (hx : x < 2 ^ 8) : dg V (s / 8 + 1) ||| (x * 2 ^ (s % 8) / 2 ^ 8) = dg (V + 2 ^ s * x) (s / 8 + 1) := by
 apply Nat.eq_of_testBit_eq;intro t;rw [Nat.testBit_or, jI, jI, Nat.testBit_div_two_pow, nT x hV, Nat.testBit_mul_two_pow];have h3 : ¬ 8 * (s / 8 + 1) + t < s := by omega
 have h4 : 8 * (s / 8 + 1) + t - s = t + 8 - s % 8 := by omega
 have h5 : s % 8 <= t + 8 := by omega
 rw [kC hV (by omega)];by_cases ht : t < 8
 ·simp [ht, h3, h4, h5]
 ·rw [kC hx (by omega)];simp [ht]
theorem qW {V s x d j : Nat} (hV : V < 2 ^ s) (hx : x < 2 ^ d) (hj : j < s / 8 \/ s + d <= 8 * j) : dg (V + 2 ^ s * x) j = dg V j := by
 apply Nat.eq_of_testBit_eq;intro t;rw [jI, jI, nT x hV];by_cases ht : t < 8
 ·rcases hj with hj | hj
  ·have : 8 * j + t < s := by omega
   simp [this]
  ·have h3 : ¬ 8 * j + t < s := by omega
   rw [kC hV (by omega), if_neg h3, kC hx (by omega)]
 ·simp [ht]
theorem aer {V s X d q ab : Nat} (hV : V < 2 ^ s) (hX : X < 2 ^ d) (hd : d <= 8) (hq : s / 8 = q) (hab : s % 8 = ab) (k : Nat) :
  dg (V + 2 ^ s * X) k = if k = q + 1 then dg V (q + 1) ||| (X * 2 ^ ab / 2 ^ 8) else if k = q then dg V q ||| (X * 2 ^ ab % 2 ^ 8) else dg V k := by
 subst hq hab
 split
 ·rename_i h
  rw [h, adJ hV (au hX (Nat.pow_le_pow_right (by omega) hd))]
 ·split
  ·rename_i h
   rw [h, um hV]
  ·exact qW hV hX (by omega)
theorem wI {V s X d q ab : Nat} (hV : V < 2 ^ s) (hX : X < 2 ^ d) (hs : ab + d <= 8) (hq : s / 8 = q) (hab : s % 8 = ab) (k : Nat) :
  dg (V + 2 ^ s * X) k = if k = q then dg V q ||| (X * 2 ^ ab % 2 ^ 8) else dg V k := by
 subst hq hab
 split
 ·rename_i h
  rw [h, um hV]
 ·exact qW hV hX (by omega)
theorem la {d i : Nat} {l : List UInt8} (h : i < l.length) : val d (l.take (i + 1)) = val d (l.take i) + 2 ^ (i * d) * l[i].toNat := by
 rw [List.take_succ_eq_append_getElem h, val_append, y9, List.length_take, Nat.min_eq_left (by omega), Nat.mul_comm d i]
theorem ng {d : Nat} {l : List UInt8} (hall : ∀ u ∈ l, u.toNat < 2 ^ d) {i : Nat} (h : i <= l.length) : val d (l.take i) < 2 ^ (i * d) := by
 have := vK (l := l.take i) (w := d) fun u hu => hall u (List.mem_of_mem_take hu)
 rwa [List.length_take, Nat.min_eq_left h, Nat.mul_comm] at this
theorem wd {V s d : Nat} (hd : d <= 8) : (dg V (s / 8) + 2 ^ 8 * dg V (s / 8 + 1)) / 2 ^ (s % 8) % 2 ^ d = V / 2 ^ s % 2 ^ d := by
 apply Nat.eq_of_testBit_eq;intro t;rw [Nat.testBit_mod_two_pow, Nat.testBit_mod_two_pow, Nat.testBit_div_two_pow, Nat.testBit_div_two_pow, nT _ (lg V _), jI, jI];by_cases ht : t < d
 ·by_cases h2 : t + s % 8 < 8
  ·have h3 : 8 * (s / 8) + (t + s % 8) = t + s := by omega
   simp [ht, h2, h3]
  ·have h3 : 8 * (s / 8 + 1) + (t + s % 8 - 8) = t + s := by omega
   have h4 : t + s % 8 - 8 < 8 := by omega
   simp [ht, h2, h3, h4]
 ·simp [ht]
theorem wb {V s d : Nat} (hd : s % 8 + d <= 8) : dg V (s / 8) / 2 ^ (s % 8) % 2 ^ d = V / 2 ^ s % 2 ^ d := by
 apply Nat.eq_of_testBit_eq;intro t;rw [Nat.testBit_mod_two_pow, Nat.testBit_mod_two_pow, Nat.testBit_div_two_pow, Nat.testBit_div_two_pow, jI];by_cases ht : t < d
 ·have h2 : t + s % 8 < 8 := by omega
  have h3 : 8 * (s / 8) + (t + s % 8) = t + s := by omega
  simp [ht, h2, h3]
 ·simp [ht]
theorem wg : (prog.info? 5).map (fun i => (i.zero, i.size, i.bytes)) = some (some (.int .u8 0), 1, 1) := by kernel_rfl
def stp (r : Nat) : Nat := if r % 2 = 1 then r / 2 ^^^ 2197175160 else r / 2
def steps : Nat -> Nat -> Nat
 |0, r => r
 |n + 1, r => steps n (stp r)
def tak (r c : Nat) : Nat := steps 8 (r ^^^ c)
def run (r : Nat) (l : List UInt8) : Nat := l.foldl (fun r u => tak r u.toNat) r
def akc (m r : Nat) : Nat := m ^^^ r
def neg (r : Nat) : Nat := akc 4294967295 r
def more (s : Nat) (l : List UInt8) : Nat := neg (run (neg s) l)
def tab (i : Nat) : Nat := [0, 274646895, 549293790, 820201905, 1098587580, 1361435347, 1640403810, 1905808397, 2197175160, 2460548119, 2722870694, 2987750089, 3280807620, 3553878443, 3811616794, 4084100981].getD i 0
def hlf (r : Nat) : Nat := r / 16 ^^^ tab (r % 16)
theorem rS {a b : Nat} (ha : a < 4294967296) (hb : b < 4294967296) : a ^^^ b < 4294967296 := Nat.xor_lt_two_pow (n := 32) ha hb
theorem agS {r : Nat} (h : r < 4294967296) : stp r < 4294967296 := by
 unfold stp
 split
 ·exact rS (by omega) (by omega)
 ·omega
theorem vi (n : Nat) {r : Nat} (h : r < 4294967296) : steps n r < 4294967296 := by
 induction n generalizing r with
 |zero => exact h
 |succ n ih => exact ih (agS h)
theorem ahd {r c : Nat} (h : r < 4294967296) (hc : c < 256) : tak r c < 4294967296 := vi 8 (rS h (by omega))
theorem vE {r : Nat} (h : r < 4294967296) (l : List UInt8) : run r l < 4294967296 := by
 induction l generalizing r with
 |nil => exact h
 |cons u l ih => exact ih (ahd h (UInt8.toNat_lt u))
theorem wE {r : Nat} (h : r < 4294967296) : neg r < 4294967296 := rS (by omega) h
theorem za {s : Nat} (h : s < 4294967296) (l : List UInt8) : more s l < 4294967296 := wE (vE (wE h) l)
theorem wF (r : Nat) (a b : List UInt8) : run r (a ++ b) = run (run r a) b := by unfold run; rw [List.foldl_append]
theorem adY (a b : Nat) : (a ^^^ b) / 2 = a / 2 ^^^ b / 2 := by
 have h : (a ^^^ b) >>> 1 = a >>> 1 ^^^ b >>> 1 := Nat.shiftRight_xor_distrib
 simpa [Nat.shiftRight_succ] using h
theorem afa (a b : Nat) : (a ^^^ b) % 2 = 1 ↔ ¬ (a % 2 = 1 ↔ b % 2 = 1) := by
 have h : ((a ^^^ b) % 2 ^ 1) = (a % 2 ^ 1) ^^^ (b % 2 ^ 1) := Nat.xor_mod_two_pow;rw [show (2 : Nat) ^ 1 = 2 from rfl] at h;rw [h];rcases Nat.mod_two_eq_zero_or_one a with ha | ha <;> rcases Nat.mod_two_eq_zero_or_one b with hb | hb <;> rw [ha, hb] <;> decide
theorem ajP (a b c d : Nat) : (a ^^^ b) ^^^ (c ^^^ d) = (a ^^^ c) ^^^ (b ^^^ d) := by
 rw [Nat.xor_assoc, <- Nat.xor_assoc b c d, Nat.xor_comm b c, Nat.xor_assoc c b d, <- Nat.xor_assoc]
theorem aeL (a b : Nat) : stp (a ^^^ b) = stp a ^^^ stp b := by
 unfold stp;rw [adY];have hl := afa a b;by_cases ha : a % 2 = 1 <;> by_cases hb : b % 2 = 1
 ·rw [if_neg (by rw [hl]; simp [ha, hb]), if_pos ha, if_pos hb, ajP, Nat.xor_self, Nat.xor_zero]
 ·rw [if_pos (by rw [hl]; simp [ha, hb]), if_pos ha, if_neg hb, Nat.xor_assoc, Nat.xor_comm (b / 2), <- Nat.xor_assoc]
 ·rw [if_pos (by rw [hl]; simp [ha, hb]), if_neg ha, if_pos hb, Nat.xor_assoc]
 ·rw [if_neg (by rw [hl]; simp [ha, hb]), if_neg ha, if_neg hb]
theorem aaZ (n a b : Nat) : steps n (a ^^^ b) = steps n a ^^^ steps n b := by
 induction n generalizing a b with
 |zero => rfl
 |succ n ih => rw [steps, aeL, ih]; rfl
theorem aaO (m n r : Nat) : steps (m + n) r = steps n (steps m r) := by
 induction m generalizing r with
 |zero => rw [Nat.zero_add]; rfl
 |succ m ih => rw [Nat.succ_add, steps, ih]; rfl
theorem ww (x : Nat) : stp (2 * x) = x := by
 unfold stp;rw [if_neg (by omega)];omega
theorem uP (n x : Nat) : steps n (2 ^ n * x) = x := by
 induction n with
 |zero => simp [steps]
 |succ n ih => rw [steps, Nat.pow_succ, Nat.mul_comm (2 ^ n) 2, Nat.mul_assoc, ww, ih]
theorem aam {n t : Nat} (q : Nat) (h : t < 2 ^ n) : 2 ^ n * q ^^^ t = 2 ^ n * q + t := by
 apply Nat.eq_of_testBit_eq;intro i;rw [Nat.testBit_xor, Nat.testBit_two_pow_mul_add q h, Nat.testBit_two_pow_mul];by_cases hi : i < n
 ·simp [hi, Nat.not_le.2 hi]
 ·have : t.testBit i = false := Nat.testBit_lt_two_pow (au h (Nat.pow_le_pow_right (by omega) (by omega)));simp [hi, this, Nat.le_of_not_lt hi]
theorem mM (r : Nat) : hlf r = steps 4 r := by
 have e : r = 2 ^ 4 * (r / 16) ^^^ r % 16 := by
  rw [aam (n := 4) _ (by omega)];omega
 have h : ∀ t, t < 16 -> tab t = steps 4 t := by decide
 conv => rhs; rw [e, aaZ, uP]
 unfold hlf;rw [h _ (by omega)]
theorem afh (r c : Nat) : hlf (hlf (r ^^^ c)) = tak r c := by
 rw [mM, mM, <- aaO]
 rfl
set_option linter.unusedVariables false
def Tab (w : World) : Prop := ∀ i, i < 16 -> w.cell? ⟨0, i, none⟩ = some (.int .u32 (tab i : Int))
theorem Tab.below {w w' : World} (h : Tab w) (hb : Below w.heap.size w w') : Tab w' := fun i hi => by
 rw [hb.cell (p := ⟨0, i, none⟩) (World.block_lt_of_cell? w _ (h i hi))];exact h i hi
theorem ahv (i : Nat) : tab i < 4294967296 := by
 by_cases h : i < 16
 ·have : ∀ i, i < 16 -> tab i < 4294967296 := by decide
  exact this i h
 ·unfold tab;rw [List.getD, List.getElem?_eq_none (by simp; omega)];simp
theorem aht {r : Nat} (h : r < 4294967296) : hlf r < 4294967296 := by
 rw [mM];exact vi 4 h
theorem afA (r : Nat) (h : r < 4294967296) : bits .and .u32 (r : Int) 15 = ((r % 16 : Nat) : Int) := by
 have h2 := u32_and_nat r 15 h (by omega);have h3 : r &&& 15 = r % 16 := Nat.and_two_pow_sub_one_eq_mod r 4;rw [h3] at h2;exact h2
theorem tm (r : Nat) (w : World) (T : Tab w) (hr : r < 4294967296) :
  Calls prog 179 #[.int .u32 r] w fun e w' => e = .returned (.int .u32 (hlf r)) /\ w = w' := by
 have hl := afA r hr;have ht := T (r % 16) (by omega);have hlo : r % 16 < 16 := by omega
 go_enter func179, ntmps179;go_wp2;go_ret;have e : ((r : Int) / 16) = ((r / 16 : Nat) : Int) := by omega
 refine ⟨dv ?_, rfl⟩;rw [e, u32_xor_nat _ _ (by omega) (ahv _)]
 rfl
theorem adI (r c : Nat) (w : World) (T : Tab w) (hr : r < 4294967296) (hc : c < 256) :
  Calls prog 174 #[.int .u32 r, .int .u8 c] w fun e w' => e = .returned (.int .u32 (tak r c)) /\ w = w' := by
 have hx := u32_xor_nat r c hr (by omega);have hlt : r ^^^ c < 4294967296 := rS hr (by omega);have hlt2 : hlf (r ^^^ c) < 4294967296 := aht hlt;have HT : Hid (hlf (hlf (r ^^^ c)) = tak r c) := ae (afh r c);go_enter func174, ntmps174;go_wp2_with fail;refine (tm (r ^^^ c) _ T hlt).mono ?_;rintro e w' ⟨rfl, rfl⟩;go_wp2_with fail;refine (tm (hlf (r ^^^ c)) _ T hlt2).mono ?_;rintro e w' ⟨rfl, rfl⟩;go_wp2;go_ret;exact ⟨dv (by rw [HT.out]), rfl⟩
theorem ajh : prog.globalNamed "ashlar/crc.halves" = some 0 := by kernel_rfl
theorem adm : (prog.globals[0]?).map (·.type) = some 244 := by kernel_rfl
theorem acK : prog.cellsOf 244 = 16 := by kernel_rfl
theorem abr : prog.cellsOf 168 = 1 := by kernel_rfl
def nY : List Int := [0, 274646895, 549293790, 820201905, 1098587580, 1361435347, 1640403810, 1905808397, 2197175160, 2460548119, 2722870694, 2987750089, 3280807620, 3553878443, 3811616794, 4084100981]
theorem agf {W : World} {l : List (String × DataW Unit)} (hl : laidMetH prog l W) (hf : l.filter (fun x => x.1 == "ashlar/crc.halves") = [("ashlar/crc.halves", Rows.laid_ashlar_crc_halves)] := by kernel_rfl) : Tab W := by
 have h := laidMetH.filter (fun x => x.1 == "ashlar/crc.halves") hl;rw [hf] at h;have h1 : Lib.TabIs prog W "ashlar/crc.halves" .u32 nY :=
  Lib.tabIs_of_head (rest := []) ajh adm underlying244 underlying168 abr acK h
 intro i hi;rw [h1.cell ajh i (by simpa [nY] using hi)];have : ∀ i, i < 16 -> nY.getD i 0 = (tab i : Int) := by decide
 rw [this i hi]
def ahD (w : World) (g : Nat) (cs : Array Value) : World :=
 { w with heap := w.heap.modify g fun
   |.cells _ t frozen => .cells cs t frozen
   |o => o }
noncomputable def aiZ (w : World) : World := w
noncomputable def ajr (w : World) : World := w
noncomputable def aiC (os : Os) : World :=
 ajr (aiZ (ahD (World.holding prog os ⟨#[], #[], []⟩) 0 (nY.map fun z => Value.int .u32 z).toArray))
abbrev Blk := Vector UInt8 64
def aJ : Blk := Vector.replicate 64 0
def cel (b : Blk) : List Value := b.toList.map fun u => .int .u8 (u.toNat : Int)
def blk (b : Blk) : Value := .agg (cel b).toArray
def byt (b : Blk) (j : Nat) : Int := bt b.toList j
theorem lN (b : Blk) {j : Nat} (h : j < 64) : byt b j = (b[j].toNat : Int) := by
 unfold byt;rw [eS (by simpa using h)];simp
theorem aO (b : Blk) : (cel b).length = 64 := by simp [cel]
theorem lq (b : Blk) {j : Nat} (h : j < 64) : (cel b)[j]? = some (.int .u8 (byt b j)) := by
 rw [lN b h];simp [cel, h]
theorem kI (b : Blk) : ∀ v ∈ cel b, v.oneCell' = true := by
 intro v hv;simp only [cel, List.mem_map] at hv;obtain ⟨u, _, rfl⟩ := hv
 rfl
theorem aeZ {a b : Blk} (h : ∀ j, j < 64 -> byt a j = byt b j) : a = b := by
 apply Vector.ext;intro i hi;have := h i hi;rw [lN a hi, lN b hi] at this;exact UInt8.toNat_inj.1 (by omega)
theorem jb (b : Blk) : (blk b).cells = (cel b).toArray := rfl
theorem acM : (prog.info? 44).map (fun i => (i.zero, i.size, i.bytes)) = some (some (blk aJ), 64, 64) := by kernel_rfl
theorem vZ : prog.underlying 44 = some (.array 64 5) := underlying44
theorem vm : (prog.info? 44).map (·.size) = some 64 := by kernel_rfl
theorem ag8 : prog.eqGuardType prog.depth 44 = false := by kernel_rfl
section
variable {w : World} {b off : Nat} {c : Blk}
theorem run_load (hc : w.rangeAt b off (cel c)) : (Instr.loadAt 44 (.pointer (some ⟨b, off, none⟩))).run prog w = .ok (blk c) w :=
 run_loadAt_mid w b off 44 (cel c) _ hc vZ rfl (by rw [aO]; exact vm)
theorem run_store (ht : w.there b off 64) : (Instr.storeAt 44 (.pointer (some ⟨b, off, none⟩)) (blk c)).run prog w = .ok () (w.setCells b off (cel c)) := by
 have := run_storeAt_mid (P := prog) w b off 44 (cel c).toArray (by simpa [aO] using ht) (by simpa [aO] using vm) (all_oneCell_toArray (kI c))
 simpa [blk] using this
theorem qL (w : World) : (zeroValue 44).run prog w = .ok (blk aJ) w := by
 have h := acM;cases hq : prog.info? 44 with
 |none => rw [hq] at h; cases h
 |some i =>
  rw [hq] at h;simp only [Option.map_some, Option.some.injEq, Prod.mk.injEq] at h;simp [zeroValue, typeInfo, hq, h.1]
theorem ot (w : World) (v : Value) : (newVar 44 v).run prog w = .ok ⟨w.heap.size, 0, none⟩ (w.alloc (.cells v.cells 44)) := by
 simp [newVar, newRow]
theorem afn (w : World) (c : Blk) : (Instr.box 44 (blk c)).run prog w = .ok (.pointer (some ⟨w.heap.size, 0, none⟩)) (w.alloc (.cells (cel c).toArray 44)) := by
 simp [Instr.box, ot, jb]
theorem zv (w : World) : (Instr.alloc 44 true (.tuple #[])).run prog w = .ok (.pointer (some ⟨w.heap.size, 0, none⟩)) (w.alloc (.cells (cel aJ).toArray 44)) := by
 simp only [Instr.alloc, Sem.run_bind, qL, Result.andThen_ok, ot, Sem.run_pure, jb]
end
theorem re (w : World) (c : Blk) (i : Nat) (hi : i < 64) : (part 5 (cel c).toArray (i * 1)).run prog w = .ok (.int .u8 (byt c i)) w := by
 have := lq c hi;simp [part, this]
theorem yX (w : World) (a b : Blk) (d : Nat) : (Op.equalIn (d + 2) 44 (blk a) (blk b)).run prog w = .ok (decide (a = b)) w := by
 have he : ∀ x y : Int, (Op.equalIn (d + 1) 5 (.int .u8 x) (.int .u8 y)).run prog w = .ok (x == y) w := fun x y => run_equalIn_int w d 5 .u8 .u8 x y underlying5
 show (Op.equalIn ((d + 1) + 1) 44 (blk a) (blk b)).run prog w = .ok (decide (a = b)) w
 generalize d + 1 = e at *;have key : ∀ (l : List Nat), (∀ i ∈ l, i < 64) ->
   ((forIn l ((none : Option Bool), ()) fun i r => do
    let x <- part 5 (cel a).toArray (i * 1)
    let y <- part 5 (cel b).toArray (i * 1)
    let z <- Op.equalIn e 5 x y
    if (!z) = true then pure (ForInStep.done (some false, ())) else pure (ForInStep.yield (none, ())) : Sem _)).run prog w =
   .ok (if l.all (fun i => byt a i == byt b i) then (none, ()) else (some false, ())) w := by
  intro l
  induction l with
  |nil => intro _; simp
  |cons i l ih =>
   intro hl;have hi := hl i (by simp);simp only [List.forIn_cons, Sem.run_bind, re w a i hi, re w b i hi, Result.andThen_ok, he];by_cases h : byt a i = byt b i
   ·have hb : (byt a i == byt b i) = true := by simpa using h
    simp only [hb, Bool.not_true, Bool.false_eq_true, if_false, Sem.run_pure, Result.andThen_ok, List.all_cons, Bool.true_and];exact ih fun j hj => hl j (by simp [hj])
   ·have hb : (byt a i == byt b i) = false := by simpa using h
    simp [hb]
 have hall : ((List.range' 0 64).all fun i => byt a i == byt b i) = decide (a = b) := by
  rw [Bool.eq_iff_iff, List.all_eq_true, decide_eq_true_iff]
  constructor
  ·intro h;exact aeZ fun j hj => by simpa using h j (by simp [List.mem_range']; omega)
  ·rintro rfl i _;simp
 have hk := key (List.range' 0 64) (fun i hi => by simp [List.mem_range'] at hi; omega);rw [hall] at hk;simp only [Op.equalIn, blk, Sem.run_bind, run_underlying vZ, Result.andThen_ok, Tryz.sizeOf5, Std.Legacy.Range.forIn_eq_forIn_range'];simp only [Std.Legacy.Range.size, Nat.sub_zero, Nat.add_sub_cancel, Nat.div_one];rw [hk];by_cases h : a = b
 ·simp [h]
 ·simp [h]
def piece (b : List UInt8) (at_ k : Nat) : List UInt8 := (b.drop at_).take k
theorem dS {b : List UInt8} {p k : Nat} (h : p + k <= b.length) : (piece b p k).length = k := by simp [piece]; omega
def ofL (l : List UInt8) : Blk := Vector.ofFn fun i => l.getD i.val 0
theorem ad7 (l : List UInt8) {j : Nat} (h : j < 64) : byt (ofL l) j = bt l j := by
 rw [lN _ h];simp [ofL, bt]
theorem gd (b : Blk) : b.toList.length = 64 := by simp
theorem uv {l : List UInt8} {p k j : Nat} (h : j < k) : bt (piece l p k) j = bt l (p + j) := by
 unfold bt piece;simp [List.getD, List.getElem?_take_of_lt h, List.getElem?_drop]
theorem eX {x y : List UInt8} {j : Nat} (h : j < x.length) : bt (x ++ y) j = bt x j := by
 unfold bt;simp [List.getD, List.getElem?_append_left h]
theorem fd {x y : List UInt8} {j : Nat} (h : x.length <= j) : bt (x ++ y) j = bt y (j - x.length) := by
 unfold bt;simp [List.getD, List.getElem?_append_right h]
theorem lw {n j : Nat} : bt (List.replicate n 0) j = 0 := by
 unfold bt;by_cases h : j < n
 ·simp [List.getD, h]
 ·simp [List.getD, h]
theorem jg {l x : List UInt8} {off j : Nat} (h : off + x.length <= l.length) : bt (splice l off x) j = if off <= j /\ j < off + x.length then bt x (j - off) else bt l j := by
 unfold splice;have h1 : (l.take off).length = off := by simp; omega
 by_cases hlo : j < off
 ·rw [if_neg (by omega), eX (by omega)];unfold bt;simp [List.getD, List.getElem?_take_of_lt hlo]
 ·rw [fd (by omega), h1];by_cases hhi : j < off + x.length
  ·rw [if_pos (by omega), eX (by omega)]
  ·rw [if_neg (by omega), fd (by omega)];unfold bt;simp only [List.getD, List.getElem?_drop];rw [show off + x.length + (j - off - x.length) = j from by omega]
theorem ni (s : Int) (w : World) (h1 : 1 <= s) (h2 : s <= 8) : Calls prog 164 #[.int .i64 s] w fun e w' => e = .returned (.bool true) /\ w = w' := by
 go_enter func164, ntmps164;go_wp2;go_ret;exact ⟨rfl, rfl⟩
def wj (n k : Nat) : Bool := decide (n < 2 ^ k)
theorem uX (n : Nat) (c : Int) (w : World) (h0 : 0 <= c) (h64 : c <= 64) : Calls prog 165 #[.int .u64 n, .int .i64 c] w fun e w' => e = .returned (.bool (wj n c.toNat)) /\ w = w' := by
 obtain ⟨k, rfl⟩ := Int.eq_ofNat_of_zero_le h0;rw [Int.toNat_natCast];go_enter func165, ntmps165;go_wp2;go_ret;refine ⟨bf ?_, rfl⟩;have e : ((n : Int) / 2 ^ k) = ((n / 2 ^ k : Nat) : Int) := by simp
 rw [e];unfold wj;have h2 : 0 < 2 ^ k := Nat.pow_pos (by omega);rw [Bool.eq_iff_iff];simp only [beq_iff_eq, decide_eq_true_eq];rw [<- Nat.div_eq_zero_iff_lt h2];omega
theorem ac6 (n k j : Nat) (h : j < k) : bt (cw 8 k n) j = (n : Int) / 2 ^ (j * 8) % 256 := by
 have hl : j < (cw 8 k n).length := by rw [aT]; exact h
 rw [eS hl, jA (by omega) hl, Nat.mul_comm 8 j];simp
theorem abz (n k : Nat) (w : World) (h1 : 1 <= k) (h2 : k <= 8) (hn : n < 256 ^ k) :
  Calls prog 154 #[.int .u64 n, .int .i64 k] w fun e w' => ∃ v, e = .returned (.tuple #[v, .int .i64 0]) /\ Own w' w.heap.size v (cw 8 k n) /\ Below w.heap.size w w' := by
 have hf : wj n (k * 8) = true := by
  have e : (2 : Nat) ^ (k * 8) = 256 ^ k := by rw [Nat.mul_comm, Nat.pow_mul]
  unfold wj;rw [e]
  simpa using hn
 have HF := ae hf;clear hf;have hmk := fun (kl kc : IntKind) (m : Nat) (h1 : 1 * m <= 281474976710656) (h2 : m <= 9223372036854775807) (W : World) => run_make_row' (P := prog) 208 5 (.int .u8 0) 1 underlying208 wg rfl kl kc m h1 h2 W
 have hmk1 := hmk .i64 .i64 k (by omega) (by omega);clear hmk;go_enter func154, ntmps154;go_wp2_with (first | (go_at_call 164; refine (ni _ _ (by omega) (by omega)).mono ?_; rintro e w' ⟨rfl, rfl⟩));refine (uX _ _ _ (by omega) (by omega)).mono ?_;rintro e w' ⟨rfl, rfl⟩;rw [show ((k : Int) * 8).toNat = k * 8 from by omega, HF.out];go_wp2;clear hmk1;have hr0 := World.rowIs_made w (Value.int .u8 0) k 5;obtain ⟨g, hg⟩ : ∃ g, g = w.heap.size := ⟨_, rfl⟩;rw [<- hg] at hr0 ⊢;have hbl0 : Below g w (w.alloc (.cells (madeCells #[Value.int .u8 0] k) 5)) := by rw [hg]; exact ak.alloc aj _
 have HG := ae hg;clear hg HF
 go_loopw [21] (fun i wr => ∃ (j : Nat) (f : Nat -> Int), j <= k /\ i = .int .i64 j /\ wr.rowIs g 5 k (fun j => .int .u8 (f j)) /\ (∀ m, m < j -> f m = bt (cw 8 k n) m) /\ (∀ m, 0 <= f m /\ f m <= 255) /\ Below g w wr) (fun i _ => k - (intOf i).toNat)
 case atStart => exact ⟨0, fun _ => 0, Nat.zero_le _, rfl, hr0, fun j hj => absurd hj (by omega), fun _ => by simp, hbl0⟩
 case round =>
  obtain ⟨j, f, hj, rfl, hrow, hf, hr, hbl⟩ := hrel;by_cases hlt : j < k
  ·have hc := hrow.cell hlt;have hfr := hrow.frozen j;have HFF := ae hf;have HR := ae hr;clear hf hr;go_wp2;go_roundw
   case rel =>
    refine ⟨j + 1, _, by omega, by go_num, (hrow.set j _).congr (g := fun m => .int .u8 (if m = j then bt (cw 8 k n) j else f m)) ?_, ?_, ?_, hbl.setCell aj _⟩
    ·intro m hm
     show (if m = j then Value.int IntKind.u8 (↑n / 2 ^ (j * 8) % 256) else Value.int .u8 (f m)) = _
     split
     ·rw [ac6 n k j hlt]
     ·rfl
    ·intro m hm
     show (if m = j then bt (cw 8 k n) j else f m) = _
     split
     ·subst m; rfl
     ·exact HFF.out m (by omega)
    ·intro m
     show 0 <= (if m = j then bt (cw 8 k n) j else f m) /\ (if m = j then bt (cw 8 k n) j else f m) <= 255
     split
     ·exact ⟨kY _ _, nh _ _⟩
     ·exact HR.out m
   case measure => simp [intOf]; omega
  ·go_wp2;go_ret2;have hjk : j = k := by omega
   subst hjk;refine ⟨_, rfl, Own.vJ (aT 8 j n) (Nat.le_of_eq HG.out.symm) hrow aj (by unfold maxLen; omega) hf hr, ?_⟩;rw [<- HG.out];exact hbl
theorem pj {b : List UInt8} {p k : Nat} (h : p + k < b.length) : (val 8 (piece b p (k + 1)) : Int) = val 8 (piece b p k) + 2 ^ (k * 8) * bt b (p + k) := by
 have hk : k < (b.drop p).length := by simp; omega
 have e : piece b p (k + 1) = piece b p k ++ [b[p + k]] := by
  unfold piece;rw [List.take_succ_eq_append_getElem hk];simp
 rw [e, val_append, dS (by omega), eS h, Nat.mul_comm 8 k];rw [y9];push_cast
 rfl
theorem dE {b : List UInt8} {p k : Nat} (h : p + k <= b.length) : val 8 (piece b p k) < 2 ^ (k * 8) := by
 have := vK (x6 (piece b p k));rwa [dS h, Nat.mul_comm] at this
theorem abE {s : Nat} (x : Nat) (h1 : x <= 255) (hs : s <= 56) : x * 2 ^ s <= 18446744073709551615 := by
 have h2 : 2 ^ s <= 2 ^ 56 := Nat.pow_le_pow_right (by omega) hs;have h3 : x * 2 ^ s <= 255 * 2 ^ 56 := Nat.mul_le_mul h1 h2;omega
theorem ahT {V s : Nat} {x : Int} (h0 : 0 <= x) (h1 : x <= 255) (hs : s <= 56) (hV : V < 2 ^ s) :
  bits .or .u64 (V : Int) (IntKind.u64.wrap (x * 2 ^ s)) = V + 2 ^ s * x := by
 obtain ⟨m, rfl⟩ := Int.eq_ofNat_of_zero_le h0;have hf := abE (s := s) m (by omega) hs;have hV' : V < 18446744073709551616 := by
  have h2 : 2 ^ s <= 2 ^ 56 := Nat.pow_le_pow_right (by omega) hs;omega
 have e : ((m : Int) * 2 ^ s) = ((m * 2 ^ s : Nat) : Int) := by push_cast; rfl
 rw [e, IntWalk.u64_in _ ⟨by omega, by omega⟩, u64_or_nat V _ hV' (by omega), Nat.or_comm, nat_join s _ _ (Nat.mul_mod_left m (2 ^ s)) hV];push_cast;rw [Int.mul_comm (2 ^ s) (m : Int), Int.add_comm]
theorem ab7 (A : Option Addr) (n c N : Nat) (b : List UInt8) (p k : Nat) (w : World) (hb : Rd w N A n b) (hn : n <= maxLen) (h1 : 1 <= k) (h2 : k <= 8) (h3 : p + k <= n) :
  Calls prog 177 #[.slice A n c, .int .i64 p, .int .i64 k] w fun e w' => e = .returned (.tuple #[.int .u64 (val 8 (piece b p k)), .int .i64 0]) /\ w = w' := by
 unfold maxLen at hn;go_enter func177, ntmps177;go_wp2_with (first | (go_at_call 164; refine (ni _ _ (by omega) (by omega)).mono ?_; rintro e w' ⟨rfl, rfl⟩))
 go_loop [8, 30] (fun x i => ∃ j : Nat, j <= k /\ i = .int .i64 j /\ x = .int .u64 (val 8 (piece b p j))) (fun _ i => k - (intOf i).toNat)
 case atStart => exact ⟨0, Nat.zero_le _, rfl, by simp [piece, val]⟩
 case round =>
  obtain ⟨j, hj, rfl, rfl⟩ := hrel;by_cases hlt : j < k
  ·obtain ⟨bA, oA, rfl, hA, cA⟩ := hb.2 (p + j) (by omega);have hlo := kY b (p + j);have hhi := nh b (p + j);go_wp2
   go_round
   case rel =>
    refine ⟨j + 1, by omega, by go_num, ?_⟩;rw [pj (by have := hb.1; omega), ahT hlo hhi (by omega) (dE (by have := hb.1; omega))]
   case measure => simp [intOf]; omega
  ·go_wp2;go_ret2;have e : j = k := by omega
   subst e;exact ⟨rfl, rfl⟩
section
variable {ρ : Operand -> Value} {o : Oper} {x y : Operand} {w : World} {t r : TypeId} {i : Nat} {p q : Value}
theorem aan (ho : o.op = .move x) : (execOp ρ o).run prog w = .ok (.value (ρ x)) w := by
 unfold execOp;simp only [ho, Sem.run_pure]
theorem uE (ho : o.op = .assign x) : (execOp ρ o).run prog w = .ok (.value (ρ x)) w := by
 unfold execOp;simp only [ho, Sem.run_pure]
theorem aaB {f : FuncId} {args : List Operand} {ats : Array TypeId} {a : Act} (hf : ∀ args w, (callFunc f args).run prog w = .ok (.enter f args) w) (ho : o.op = .call { callee := .value (.func f), args := args.toArray, argTypes := ats }) :
  (execOp a.eval o).run prog w = .ok (.enter f (args.map a.eval).toArray) w := by
 unfold execOp;simp [ho, resolve, Deferred.ofValue, Act.eval, invoke, hf]
theorem ax (ho : o.op = .fieldAddr t x i) (hx : ρ x = p) (h : (Instr.fieldAt t p i).run prog w = .ok q w) : (execOp ρ o).run prog w = .ok (.value q) w := by
 unfold execOp;simp only [ho, hx, Sem.run_bind, h, Result.andThen_ok, Sem.run_pure]
theorem aD (ho : o.op = .load t x) (hx : ρ x = p) (h : (Instr.loadAt t p).run prog w = .ok q w) : (execOp ρ o).run prog w = .ok (.value q) w := by
 unfold execOp;simp only [ho, hx, Sem.run_bind, h, Result.andThen_ok, Sem.run_pure]
theorem cU (ho : o.op = .indexAddr t x y) {u : Value} (hx : ρ x = p) (hy : ρ y = u) (h : (Instr.indexAt t p u).run prog w = .ok q w) : (execOp ρ o).run prog w = .ok (.value q) w := by
 unfold execOp;simp only [ho, hx, hy, Sem.run_bind, h, Result.andThen_ok, Sem.run_pure]
theorem bq {b off : Nat} (ho : o.op = .nilCheck x) (hx : ρ x = .pointer (some ⟨b, off, none⟩)) : (execOp ρ o).run prog w = .ok (.value (.pointer (some ⟨b, off, none⟩))) w := by
 unfold execOp;simp only [ho, hx, Sem.run_pure]
theorem df {u : Value} {w' : World} (ho : o.op = .store t x y) (hx : ρ x = p) (hy : ρ y = u) (h : (Instr.storeAt t p u).run prog w = .ok () w') : (execOp ρ o).run prog w = .ok .skip w' := by
 unfold execOp;simp only [ho, hx, hy, Sem.run_bind, h, Result.andThen_ok, Sem.run_pure]
theorem bH {a b c : Int} (ho : o.op = .binOp .add t x y r) (hx : ρ x = .int .i64 a) (hy : ρ y = .int .i64 b) (h : IntKind.i64.wrap (a + b) = c) : (execOp ρ o).run prog w = .ok (.value (.int .i64 c)) w := by
 unfold execOp;simp [ho, hx, hy, eqGuard, binOp, Op.intArith, h]
theorem ac7 {a b c : Int} (ho : o.op = .binOp .sub t x y r) (hx : ρ x = .int .i64 a) (hy : ρ y = .int .i64 b) (h : IntKind.i64.wrap (a - b) = c) : (execOp ρ o).run prog w = .ok (.value (.int .i64 c)) w := by
 unfold execOp;simp [ho, hx, hy, eqGuard, binOp, Op.intArith, h]
theorem ac3 {a b c : Int} (ho : o.op = .binOp .mul t x y r) (hx : ρ x = .int .i64 a) (hy : ρ y = .int .i64 b) (h : IntKind.i64.wrap (a * b) = c) : (execOp ρ o).run prog w = .ok (.value (.int .i64 c)) w := by
 unfold execOp;simp [ho, hx, hy, eqGuard, binOp, Op.intArith, h]
end
section
variable {P : Program} {ops : Array Oper} {rest : List Oper} {o : Oper} {a : Act} {w w' : World} {Q : Exit -> Act -> World -> Prop} {v : Value}
theorem az (hw : Region.wanted o (yielded ops a.tmps) = true) (h : (execOp a.eval o).run P w = .ok (.value v) w') (hr : wpList P ops Q rest (a.put o.dst v) w') : wpList P ops Q (o :: rest) a w := by
 refine wpList_step fun K hK => ?_
 rw [if_pos hw];unfold Oper.wp;rw [h];exact hK _ _ hr
theorem akq {l0 l1 : List Value} {ds0 : List Deferred} {i0 : Nat} (h : (execOp (Act.mk l0.toArray ds0).eval o).run P w = .ok (.value v) w') (hk : wpList P ops Q rest ⟨l1.toArray, ds0⟩ w') (hd : o.dst = some i0 := by exact rfl) (hl : l0.set i0 v = l1 := by simp only [ai] <;> rfl) (hw : Region.wanted o (yielded ops l0.toArray) = true := by exact ake) : wpList P ops Q (o :: rest) ⟨l0.toArray, ds0⟩ w := az hw h (by have e : Act.put (Act.mk l0.toArray ds0) o.dst v = ⟨l1.toArray, ds0⟩ := (by rw [hd, <- hl]; show Act.mk (l0.toArray.setIfInBounds i0 v) ds0 = _; rw [List.setIfInBounds_toArray]); rw [e]; exact hk)
theorem akk {l0 l1 : List Value} {ds0 : List Deferred} {i0 : Nat} (hw : Region.wanted o (yielded ops l0.toArray) = true) (h : (execOp (Act.mk l0.toArray ds0).eval o).run P w = .ok (.value v) w') (hk : wpList P ops Q rest ⟨l1.toArray, ds0⟩ w') (hd : o.dst = some i0 := by exact rfl) (hl : l0.set i0 v = l1 := by simp only [ai] <;> rfl) : wpList P ops Q (o :: rest) ⟨l0.toArray, ds0⟩ w := az hw h (by have e : Act.put (Act.mk l0.toArray ds0) o.dst v = ⟨l1.toArray, ds0⟩ := (by rw [hd, <- hl]; show Act.mk (l0.toArray.setIfInBounds i0 v) ds0 = _; rw [List.setIfInBounds_toArray]); rw [e]; exact hk)
theorem bN (hw : Region.wanted o (yielded ops a.tmps) = true) (h : (execOp a.eval o).run P w = .ok .skip w') (hr : wpList P ops Q rest (a.put o.dst undef) w') : wpList P ops Q (o :: rest) a w := by
 refine wpList_step fun K hK => ?_
 rw [if_pos hw];unfold Oper.wp;rw [h];exact hK _ _ hr
end
section
variable {P : Program} {ops : Array Oper} {rest : List Oper} {o : Oper} {a : Act} {w w' : World} {Q : Exit -> Act -> World -> Prop} {v : Value}
theorem aw (hg : o.guard = none) (h : (execOp a.eval o).run P w = .ok (.value v) w') (hr : wpList P ops Q rest (a.put o.dst v) w') : wpList P ops Q (o :: rest) a w := az (by unfold Region.wanted; rw [hg]) h hr
theorem akj {l0 l1 : List Value} {ds0 : List Deferred} {i0 : Nat} (h : (execOp (Act.mk l0.toArray ds0).eval o).run P w = .ok (.value v) w') (hk : wpList P ops Q rest ⟨l1.toArray, ds0⟩ w') (hd : o.dst = some i0 := by exact rfl) (hl : l0.set i0 v = l1 := by simp only [ai] <;> rfl) (hg : o.guard = none := by exact rfl) : wpList P ops Q (o :: rest) ⟨l0.toArray, ds0⟩ w := aw hg h (by have e : Act.put (Act.mk l0.toArray ds0) o.dst v = ⟨l1.toArray, ds0⟩ := (by rw [hd, <- hl]; show Act.mk (l0.toArray.setIfInBounds i0 v) ds0 = _; rw [List.setIfInBounds_toArray]); rw [e]; exact hk)
theorem aG (hg : o.guard = none) (h : (execOp a.eval o).run P w = .ok .skip w') (hr : wpList P ops Q rest (a.put o.dst undef) w') : wpList P ops Q (o :: rest) a w := bN (by unfold Region.wanted; rw [hg]) h hr
theorem ay {f : FuncId} {vs : Array Value} (hw : Region.wanted o (yielded ops a.tmps) = true) (h : (execOp a.eval o).run P w = .ok (.enter f vs) w) (hc : Calls P f vs w fun e w' => ∃ v, e = .returned v /\ wpList P ops Q rest (a.put o.dst v) w') : wpList P ops Q (o :: rest) a w := by
 refine wpList_step fun K hK => ?_
 rw [if_pos hw];unfold Oper.wp;rw [h];exact hc.mono fun e w'' ⟨v, he, hk⟩ => by subst he; exact hK _ _ hk
end
theorem aS {B : Nat} {id : Nat} {Q : Exit -> Act -> World -> Prop} {a : Act} {w : World} {l : List Oper} (hB : Region.lexB .any l.toArray = true)
  (h : wpQuiet prog l.toArray (Below B w) (fun a' => ∀ w', Below B w w' -> Q .normal a' w') l a) : (Code.region id l.toArray true).wp prog Q a w :=
 wp_region_quiet (C := Below B w) (by kernel_rfl) hB (bd (Below.refl B w)) (by simpa using h)
section
variable {P : Program} {ops : Array Oper} {C : World -> Prop} {Q : Act -> Prop} {a : Act} {o : Oper} {rest : List Oper} {v : Value}
theorem aeD (hw : Region.wanted o (yielded ops a.tmps) = false) (h : wpQuiet P ops C Q rest (a.put o.dst undef)) : wpQuiet P ops C Q (o :: rest) a :=
 wpQuiet_step fun K hK => by rw [if_neg (by rw [hw]; exact Bool.false_ne_true)]; exact hK _ h
theorem aL (hw : Region.wanted o (yielded ops a.tmps) = true) (h : ∀ w, C w -> (execOp a.eval o).run P w = .ok (.value v) w) (hr : wpQuiet P ops C Q rest (a.put o.dst v)) : wpQuiet P ops C Q (o :: rest) a :=
 wpQuiet_step fun K hK => by
  rw [if_pos hw];exact ⟨v, fun w hC => by unfold Oper.quietAt; rw [h w hC]; exact ⟨rfl, rfl⟩, hK _ hr⟩
theorem aks {l0 l1 : List Value} {ds0 : List Deferred} {i0 : Nat} (h : ∀ w, C w -> (execOp (Act.mk l0.toArray ds0).eval o).run P w = .ok (.value v) w) (hk : wpQuiet P ops C Q rest ⟨l1.toArray, ds0⟩) (hd : o.dst = some i0 := by exact rfl) (hl : l0.set i0 v = l1 := by simp only [ai] <;> rfl) (hw : Region.wanted o (yielded ops l0.toArray) = true := by exact ake) : wpQuiet P ops C Q (o :: rest) ⟨l0.toArray, ds0⟩ := aL hw h (by have e : Act.put (Act.mk l0.toArray ds0) o.dst v = ⟨l1.toArray, ds0⟩ := (by rw [hd, <- hl]; show Act.mk (l0.toArray.setIfInBounds i0 v) ds0 = _; rw [List.setIfInBounds_toArray]); rw [e]; exact hk)
theorem akr {l0 l1 : List Value} {ds0 : List Deferred} {i0 : Nat} (h : ∀ w, C w -> (execOp (Act.mk l0.toArray ds0).eval o).run P w = .ok (.value v) w) (hk : wpQuiet P ops C Q rest ⟨l1.toArray, ds0⟩) (hd : o.dst = some i0 := by exact rfl) (hl : l0.set i0 v = l1 := by simp only [ai] <;> rfl) (hw : Region.wanted o (yielded ops l0.toArray) = true := by exact rfl) : wpQuiet P ops C Q (o :: rest) ⟨l0.toArray, ds0⟩ := aL hw h (by have e : Act.put (Act.mk l0.toArray ds0) o.dst v = ⟨l1.toArray, ds0⟩ := (by rw [hd, <- hl]; show Act.mk (l0.toArray.setIfInBounds i0 v) ds0 = _; rw [List.setIfInBounds_toArray]); rw [e]; exact hk)
theorem bQ {f : FuncId} {vs : Array Value} (hw : Region.wanted o (yielded ops a.tmps) = true) (h : ∀ w, (execOp a.eval o).run P w = .ok (.enter f vs) w) (hc : ∀ w, C w -> Calls P f vs w fun e w'' => e = .returned v /\ C w'') (hr : wpQuiet P ops C Q rest (a.put o.dst v)) : wpQuiet P ops C Q (o :: rest) a :=
 wpQuiet_step fun K hK => by
  rw [if_pos hw];exact ⟨v, fun w hC => by unfold Oper.quietAt; rw [h w]; exact ⟨rfl, hc w hC⟩, hK _ hr⟩
end
section
variable {P : Program} {ops : Array Oper} {w : World} {Q : Act -> Prop} {a : Act} {o : Oper} {rest : List Oper} {v : Value}
theorem aP (hw : Region.wanted o (yielded ops a.tmps) = true) (h : (execOp a.eval o).run P w = .ok (.value v) w) (hr : wpStill P ops w Q rest (a.put o.dst v)) : wpStill P ops w Q (o :: rest) a :=
 wpStill_step fun K hK => by
  rw [if_pos hw];unfold Oper.still;rw [h, Oper.stillUpon_value];exact hK _ hr
end
section
variable {P : Program} {md : Region.Mode} {l : List Oper} {Q : Exit -> Act -> World -> Prop} {S : World -> Prop} {fuel : Nat} {listed : Array Bool} {a : Act} {w : World} {o : Oper} {v : Value}
theorem aE (i : Nat) (hi : l[i]? = some o) (hs : Region.noSelect l.toArray = true) (hf : Region.free md l.toArray listed i = true) (hr : (Region.ready md l.toArray listed).contains i = true)
  (hw : Region.wanted o (yielded l.toArray a.tmps) = true) (h : ∀ w, S w -> (execOp a.eval o).run P w = .ok (.value v) w) (hQ : ∀ c a w, Q (.panic c) (a.put o.dst v) w -> Q (.panic c) a w) (hS : S w)
  (hk : wpAnyH P md l.toArray Q S fuel (listed.setIfInBounds i true) (a.put o.dst v) w) : wpAnyH P md l.toArray Q S (fuel + 1) listed a w :=
 wpAnyH_take (by simpa using hi) hs hf hr hQ (.inl ⟨hw, h⟩) hS hk
theorem akf (i : Nat) (hi : l[i]? = some o) (h : ∀ w, S w -> (execOp a.eval o).run P w = .ok (.value v) w) (hS : S w) (hk : wpAnyH P md l.toArray Q S fuel (listed.setIfInBounds i true) (a.put o.dst v) w) (hs : Region.noSelect l.toArray = true := by kernel_rfl) (hf : Region.free md l.toArray listed i = true := by kernel_rfl) (hr : (Region.ready md l.toArray listed).contains i = true := by kernel_rfl) (hw : Region.wanted o (yielded l.toArray a.tmps) = true := by exact rfl) (hQ : ∀ c a w, Q (.panic c) (a.put o.dst v) w -> Q (.panic c) a w := by exact fun _ _ _ h => h) : wpAnyH P md l.toArray Q S (fuel + 1) listed a w := aE i hi hs hf hr hw h hQ hS hk
theorem akm {l0 l1 : List Value} {ds0 : List Deferred} {i0 : Nat} (i : Nat) (hi : l[i]? = some o) (h : ∀ w, S w -> (execOp (Act.mk l0.toArray ds0).eval o).run P w = .ok (.value v) w) (hS : S w) (hk : wpAnyH P md l.toArray Q S fuel (listed.setIfInBounds i true) ⟨l1.toArray, ds0⟩ w) (hd : o.dst = some i0 := by exact rfl) (hl : l0.set i0 v = l1 := by simp only [ai] <;> rfl) (hs : Region.noSelect l.toArray = true := by kernel_rfl) (hf : Region.free md l.toArray listed i = true := by kernel_rfl) (hr : (Region.ready md l.toArray listed).contains i = true := by kernel_rfl) (hw : Region.wanted o (yielded l.toArray l0.toArray) = true := by exact rfl) (hQ : ∀ c a w, Q (.panic c) (a.put o.dst v) w -> Q (.panic c) a w := by exact fun _ _ _ h => h) : wpAnyH P md l.toArray Q S (fuel + 1) listed ⟨l0.toArray, ds0⟩ w := akf i hi h hS (by have e : Act.put (Act.mk l0.toArray ds0) o.dst v = ⟨l1.toArray, ds0⟩ := (by rw [hd, <- hl]; show Act.mk (l0.toArray.setIfInBounds i0 v) ds0 = _; rw [List.setIfInBounds_toArray]); rw [e]; exact hk) hs hf hr hw hQ
theorem eB (i : Nat) {f : FuncId} {vs : Array Value} (hi : l[i]? = some o) (hr : Region.ready md l.toArray listed = [i]) (hw : Region.wanted o (yielded l.toArray a.tmps) = true) (h : (execOp a.eval o).run P w = .ok (.enter f vs) w)
  (hc : Calls P f vs w fun e w' => ∃ v, e = .returned v /\ S w' /\ wpAnyH P md l.toArray Q S fuel (listed.setIfInBounds i true) (a.put o.dst v) w') : wpAnyH P md l.toArray Q S (fuel + 1) listed a w :=
 wpAnyH_all hr (by simp) fun j hj => by
  obtain rfl : j = i := by simpa using hj
  unfold wpOp;simp only [List.getElem?_toArray, hi, hw, if_true];refine .inl ?_;unfold Oper.wp;rw [h];exact hc.mono fun e w' ⟨v, he, hk⟩ => by subst he; exact hk
theorem dK (i : Nat) {w' : World} (hi : l[i]? = some o) (hr : Region.ready md l.toArray listed = [i]) (hw : Region.wanted o (yielded l.toArray a.tmps) = true) (h : (execOp a.eval o).run P w = .ok .skip w')
  (hS : S w') (hk : wpAnyH P md l.toArray Q S fuel (listed.setIfInBounds i true) (a.put o.dst undef) w') : wpAnyH P md l.toArray Q S (fuel + 1) listed a w :=
 wpAnyH_all hr (by simp) fun j hj => by
  obtain rfl : j = i := by simpa using hj
  unfold wpOp;simp only [List.getElem?_toArray, hi, hw, if_true];refine .inl ?_;unfold Oper.wp;rw [h];exact ⟨hS, hk⟩
end
section
variable {ρ : Operand -> Value} {o : Oper} {x y z : Operand} {w : World} {t r : TypeId} {k : IntKind}
theorem ud (ho : o.op = .pick x y z) (hx : ρ x = .bool true) : (execOp ρ o).run prog w = .ok (.value (ρ y)) w := by
 unfold execOp;simp [ho, hx, asBool]
theorem ut (ho : o.op = .pick x y z) (hx : ρ x = .bool false) : (execOp ρ o).run prog w = .ok (.value (ρ z)) w := by
 unfold execOp;simp [ho, hx, asBool]
theorem uZ (b : Bool) (ho : o.op = .unOp .not t x) (hx : ρ x = .bool b) : (execOp ρ o).run prog w = .ok (.value (.bool (!b))) w := by
 unfold execOp;simp [ho, hx, Op.unary]
theorem aH {a b : Int} (c : Bool) (ho : o.op = .binOp .eql t x y r) (hx : ρ x = .int k a) (hy : ρ y = .int k b) (h : (a == b) = c) : (execOp ρ o).run prog w = .ok (.value (.bool c)) w := by
 unfold execOp;simp [ho, hx, hy, eqGuard, binOp, Op.intCmp, h]
theorem aK {a b : Int} (c : Bool) (ho : o.op = .binOp .neq t x y r) (hx : ρ x = .int k a) (hy : ρ y = .int k b) (h : (a != b) = c) : (execOp ρ o).run prog w = .ok (.value (.bool c)) w := by
 unfold execOp;simp [ho, hx, hy, eqGuard, binOp, Op.intCmp, h]
end
theorem ev {ts : List Value} {ds : List Deferred} {d : Nat} {v : Value} (h : ts[d]? = some v) : (Act.mk ts.toArray ds).eval (.tmp d) = v := by
 simp [Act.eval, h]
theorem akt {ts : List Value} {ds : List Deferred} {d : Nat} {v : Value} (h : ts[d]? = some v := by exact rfl) : (Act.mk ts.toArray ds).eval (.tmp d) = v := ev h
theorem evk {a : Act} {v : Value} : a.eval (.const v) = v := rfl
theorem evc {ρ : Operand -> Value} {x : Operand} {xs : List Operand} {v : Value} {vs : List Value} (h : ρ x = v) (hs : xs.map ρ = vs) : (x :: xs).map ρ = v :: vs := by
 rw [List.map_cons, h, hs]
theorem evn {ρ : Operand -> Value} : ([] : List Operand).map ρ = [] := rfl
theorem aA {l : List Oper} {ts : List Value} {o oj : Oper} {j d : Nat} {b : Bool} (hg : o.guard = some (j, b)) (hj : l[j]? = some oj) (hd : oj.dst = some d) (hv : ts[d]? = some (.bool b)) : Region.wanted o (yielded l.toArray ts.toArray) = true := by
 unfold Region.wanted yielded;simp [hg, hj, hd, hv]
theorem ake {l : List Oper} {ts : List Value} {o oj : Oper} {j d : Nat} {b : Bool} (hg : o.guard = some (j, b) := by exact rfl) (hj : l[j]? = some oj := by exact rfl) (hd : oj.dst = some d := by exact rfl) (hv : ts[d]? = some (.bool b) := by exact rfl) : Region.wanted o (yielded l.toArray ts.toArray) = true := aA hg hj hd hv
section
variable {ρ : Operand -> Value} {o : Oper} {x y z : Operand} {w : World} {v : Value}
theorem aM (ho : o.op = .move x) (hx : ρ x = v) : (execOp ρ o).run prog w = .ok (.value v) w := by rw [aan ho, hx]
theorem dX (ho : o.op = .assign x) (hx : ρ x = v) : (execOp ρ o).run prog w = .ok (.value v) w := by rw [uE ho, hx]
theorem aeV (ho : o.op = .pick x y z) (hx : ρ x = .bool true) (hy : ρ y = v) : (execOp ρ o).run prog w = .ok (.value v) w := by rw [ud ho hx, hy]
theorem ad6 (ho : o.op = .pick x y z) (hx : ρ x = .bool false) (hz : ρ z = v) : (execOp ρ o).run prog w = .ok (.value v) w := by rw [ut ho hx, hz]
theorem aB {f : FuncId} {args : List Operand} {vs : List Value} {ats : Array TypeId} {a : Act} (hf : ∀ args w, (callFunc f args).run prog w = .ok (.enter f args) w) (ho : o.op = .call { callee := .value (.func f), args := args.toArray, argTypes := ats }) (hv : args.map a.eval = vs) :
  (execOp a.eval o).run prog w = .ok (.enter f vs.toArray) w := by rw [aaB hf ho, hv]
end
theorem bz {f : FuncId} {vs : Array Value} {w0 : World} {B : Nat} {v : Value} (hB : B <= w0.heap.size) (h : ∀ w', Below B w0 w' -> Calls prog f vs w' fun e w'' => e = .returned v /\ Below w'.heap.size w' w'') :
  ∀ w', Below B w0 w' -> Calls prog f vs w' fun e w'' => e = .returned v /\ Below B w0 w'' :=
 fun w' hw => (h w' hw).mono fun _ _ hh => ⟨hh.1, hw.trans (hh.2.mono (aq hB hw.size))⟩
section
variable {ρ : Operand -> Value} {o : Oper} {x : Operand} {w : World}
theorem ef {i : Nat} {vs : List Value} {v : Value} (ho : o.op = .extract x i) (hx : ρ x = .tuple vs.toArray) (hv : vs[i]? = some v) : (execOp ρ o).run prog w = .ok (.value v) w := by
 have h : (Instr.extract (.tuple vs.toArray) i).run prog w = .ok v w := by simp [Instr.extract, hv]
 unfold execOp;simp only [ho, hx, Sem.run_bind, h, Result.andThen_ok, Sem.run_pure]
theorem akG {l0 l1 : List Value} {ds0 : List Deferred} {i0 : Nat} {md : Region.Mode} {l : List Oper} {Q : Exit -> Act -> World -> Prop} {S : World -> Prop} {fuel : Nat} {listed : Array Bool} {o : Oper} {w : World} {x : Operand} {v : Value} (i' : Nat) (hi : l[i']? = some o) (hS : S w) (hk : wpAnyH prog md l.toArray Q S fuel (listed.setIfInBounds i' true) ⟨l1.toArray, ds0⟩ w) (ho : o.op = .move x := by exact rfl) (hx : (Act.mk l0.toArray ds0).eval x = v := by exact ev rfl) (hd : o.dst = some i0 := by exact rfl) (hl : l0.set i0 v = l1 := by simp only [ai] <;> rfl) (hs : Region.noSelect l.toArray = true := by kernel_rfl) (hf : Region.free md l.toArray listed i' = true := by kernel_rfl) (hr : (Region.ready md l.toArray listed).contains i' = true := by kernel_rfl) (hw : Region.wanted o (yielded l.toArray l0.toArray) = true := by exact rfl) (hQ : ∀ c a w, Q (.panic c) (a.put o.dst v) w -> Q (.panic c) a w := by exact fun _ _ _ h => h) : wpAnyH prog md l.toArray Q S (fuel + 1) listed ⟨l0.toArray, ds0⟩ w := akm i' hi (fun w hw => aM ho hx) hS hk hd hl hs hf hr hw hQ
theorem akH {l0 l1 : List Value} {ds0 : List Deferred} {i0 : Nat} {md : Region.Mode} {l : List Oper} {Q : Exit -> Act -> World -> Prop} {S : World -> Prop} {fuel : Nat} {listed : Array Bool} {o : Oper} {w : World} {x : Operand} {v : Value} (i' : Nat) (hi : l[i']? = some o) (hS : S w) (hk : wpAnyH prog md l.toArray Q S fuel (listed.setIfInBounds i' true) ⟨l1.toArray, ds0⟩ w) (ho : o.op = .assign x := by exact rfl) (hx : (Act.mk l0.toArray ds0).eval x = v := by exact ev rfl) (hd : o.dst = some i0 := by exact rfl) (hl : l0.set i0 v = l1 := by simp only [ai] <;> rfl) (hs : Region.noSelect l.toArray = true := by kernel_rfl) (hf : Region.free md l.toArray listed i' = true := by kernel_rfl) (hr : (Region.ready md l.toArray listed).contains i' = true := by kernel_rfl) (hw : Region.wanted o (yielded l.toArray l0.toArray) = true := by exact rfl) (hQ : ∀ c a w, Q (.panic c) (a.put o.dst v) w -> Q (.panic c) a w := by exact fun _ _ _ h => h) : wpAnyH prog md l.toArray Q S (fuel + 1) listed ⟨l0.toArray, ds0⟩ w := akm i' hi (fun w hw => dX ho hx) hS hk hd hl hs hf hr hw hQ
theorem akI {l0 l1 : List Value} {ds0 : List Deferred} {i0 : Nat} {md : Region.Mode} {l : List Oper} {Q : Exit -> Act -> World -> Prop} {S : World -> Prop} {fuel : Nat} {listed : Array Bool} {o : Oper} {w : World} {x : Operand} {b off : Nat} (i' : Nat) (hi : l[i']? = some o) (hS : S w) (hk : wpAnyH prog md l.toArray Q S fuel (listed.setIfInBounds i' true) ⟨l1.toArray, ds0⟩ w) (ho : o.op = .nilCheck x := by exact rfl) (hx : (Act.mk l0.toArray ds0).eval x = .pointer (some ⟨b, off, none⟩) := by exact ev rfl) (hd : o.dst = some i0 := by exact rfl) (hl : l0.set i0 (.pointer (some ⟨b, off, none⟩)) = l1 := by simp only [ai] <;> rfl) (hs : Region.noSelect l.toArray = true := by kernel_rfl) (hf : Region.free md l.toArray listed i' = true := by kernel_rfl) (hr : (Region.ready md l.toArray listed).contains i' = true := by kernel_rfl) (hw : Region.wanted o (yielded l.toArray l0.toArray) = true := by exact rfl) (hQ : ∀ c a w, Q (.panic c) (a.put o.dst (.pointer (some ⟨b, off, none⟩))) w -> Q (.panic c) a w := by exact fun _ _ _ h => h) : wpAnyH prog md l.toArray Q S (fuel + 1) listed ⟨l0.toArray, ds0⟩ w := akm i' hi (fun w hw => bq ho hx) hS hk hd hl hs hf hr hw hQ
theorem akJ {l0 l1 : List Value} {ds0 : List Deferred} {i0 : Nat} {md : Region.Mode} {l : List Oper} {Q : Exit -> Act -> World -> Prop} {S : World -> Prop} {fuel : Nat} {listed : Array Bool} {o : Oper} {w : World} {x : Operand} {i : Nat} {vs : List Value} {v : Value} (i' : Nat) (hi : l[i']? = some o) (hS : S w) (hk : wpAnyH prog md l.toArray Q S fuel (listed.setIfInBounds i' true) ⟨l1.toArray, ds0⟩ w) (ho : o.op = .extract x i := by exact rfl) (hx : (Act.mk l0.toArray ds0).eval x = .tuple vs.toArray := by exact ev rfl) (hv : vs[i]? = some v := by exact rfl) (hd : o.dst = some i0 := by exact rfl) (hl : l0.set i0 v = l1 := by simp only [ai] <;> rfl) (hs : Region.noSelect l.toArray = true := by kernel_rfl) (hf : Region.free md l.toArray listed i' = true := by kernel_rfl) (hr : (Region.ready md l.toArray listed).contains i' = true := by kernel_rfl) (hw : Region.wanted o (yielded l.toArray l0.toArray) = true := by exact rfl) (hQ : ∀ c a w, Q (.panic c) (a.put o.dst v) w -> Q (.panic c) a w := by exact fun _ _ _ h => h) : wpAnyH prog md l.toArray Q S (fuel + 1) listed ⟨l0.toArray, ds0⟩ w := akm i' hi (fun w hw => ef ho hx hv) hS hk hd hl hs hf hr hw hQ
end
def vals (l : List UInt8) : List Value := l.map fun u => .int .u8 (u.toNat : Int)
theorem bj (l : List UInt8) : (vals l).length = l.length := by simp [vals]
theorem jj (l : List UInt8) : ∀ v ∈ vals l, v.oneCell' = true := by
 intro v hv;simp only [vals, List.mem_map] at hv;obtain ⟨u, _, rfl⟩ := hv
 rfl
theorem iP {l : List UInt8} {j : Nat} (h : j < l.length) : (vals l)[j]? = some (.int .u8 (bt l j)) := by
 rw [eS h];simp [vals, h]
section
variable {w w' : World} {B b o n : Nat} {cs : List Value}
theorem fJ (h : w.rangeAt b o cs) (hb : b < B) (hw : Below B w w') : w'.rangeAt b o cs := fun j v hj => by
 rw [hw.cell (p := ⟨b, o + j, none⟩) hb]; exact h j v hj
theorem ci (h : w.there b o n) (hb : b < B) (hw : Below B w w') : w'.there b o n := fun j hj => by
 rw [hw.cell (p := ⟨b, o + j, none⟩) hb, hw.frozen (p := ⟨b, o + j, none⟩) hb]; exact h j hj
theorem dQ (w : World) (cs : List Value) (t : TypeId) : (w.alloc (.cells cs.toArray t)).rangeAt w.heap.size 0 cs := fun j v hj => by
 rw [cell_of_row _ _ (0 + j) cs.toArray t (0, 0) (heap_alloc_new w _)]
 simpa using hj
theorem eY (b : Nat) : ∀ (vs : List Value) (o : Nat) (w : World) (k : Nat), k ≠ b -> (w.setCells b o vs).heap[k]? = w.heap[k]?
 |[], _, _, _, _ => rfl
 |v :: r, o, w, k, h => by
  rw [World.setCells, eY b r (o + 1) _ k h];exact heap_setCell_other w ⟨b, o, none⟩ k v h
theorem gk (b : Nat) : ∀ (vs : List Value) (o : Nat) (w : World), (w.setCells b o vs).heap.size = w.heap.size /\ (w.setCells b o vs).os = w.os /\ (w.setCells b o vs).tape = w.tape /\ (w.setCells b o vs).output = w.output
 |[], _, _ => ⟨rfl, rfl, rfl, rfl⟩
 |v :: r, o, w => by
  have h := gk b r (o + 1) (w.setCell ⟨b, o, none⟩ v);rw [World.setCells];refine ⟨h.1.trans ?_, h.2.1.trans rfl, h.2.2.1.trans rfl, h.2.2.2.trans rfl⟩;simp [World.setCell]
theorem below_setCells {a : World} (h : Below B a w) {b o : Nat} (hb : B <= b) (vs : List Value) : Below B a (w.setCells b o vs) := by
 obtain ⟨h1, h2, h3, h4⟩ := gk b vs o w;exact ⟨h2.trans h.os, h3.trans h.tape, h4.trans h.output, by rw [h1]; exact h.size, fun k hk => (eY b vs o w k (by omega)).trans (h.block k hk)⟩
end
section
variable {ρ : Operand -> Value} {o : Oper} {x y : Operand} {w : World} {b off : Nat} {c d : Blk}
theorem bI (ho : o.op = .load 44 x) (hx : ρ x = .pointer (some ⟨b, off, none⟩)) (hc : w.rangeAt b off (cel c)) : (execOp ρ o).run prog w = .ok (.value (blk c)) w := by
 unfold execOp;simp only [ho, hx, Sem.run_bind, run_load hc, Result.andThen_ok, Sem.run_pure]
theorem bO (ho : o.op = .store 44 x y) (hx : ρ x = .pointer (some ⟨b, off, none⟩)) (hy : ρ y = blk c) (ht : w.there b off 64) : (execOp ρ o).run prog w = .ok .skip (w.setCells b off (cel c)) := by
 unfold execOp;simp only [ho, hx, hy, Sem.run_bind, run_store ht, Result.andThen_ok, Sem.run_pure]
theorem mC (ho : o.op = .store 44 x y) (hx : ρ x = .pointer (some ⟨w.heap.size, 0, none⟩)) (hy : ρ y = blk c) : (execOp ρ o).run prog (w.alloc (.cells (cel d).toArray 44)) = .ok .skip (w.alloc (.cells (cel c).toArray 44)) := by
 have h := run_storeAt_new (P := prog) w 44 (cel d).toArray (cel c).toArray (by simpa [aO] using vm) (by simp [aO]) (all_oneCell_toArray (kI c));unfold execOp;simp only [ho, hx, hy, Sem.run_bind];unfold blk;rw [h];simp
theorem cY (ho : o.op = .box 44 x) (hx : ρ x = blk c) : (execOp ρ o).run prog w = .ok (.value (.pointer (some ⟨w.heap.size, 0, none⟩))) (w.alloc (.cells (cel c).toArray 44)) := by
 unfold execOp;simp only [ho, hx, Sem.run_bind, afn, Result.andThen_ok, Sem.run_pure]
theorem bU (ho : o.op = .alloc 44) : (execOp ρ o).run prog w = .ok (.value (.pointer (some ⟨w.heap.size, 0, none⟩))) (w.alloc (.cells (cel aJ).toArray 44)) := by
 unfold execOp;simp only [ho, Sem.run_bind, zv, Result.andThen_ok, Sem.run_pure]
theorem pA (op : BinOp) (x y : Operand) (c d : Blk) (w : World) : (eqGuard op 44 x y (blk c) (blk d)).run prog w = .ok () w := run_eqGuard_agg w op _ x y _ _ ag8
theorem aci {t : TypeId} (ho : o.op = .binOp .eql 44 x y t) (hx : ρ x = blk c) (hy : ρ y = blk d) : (execOp ρ o).run prog w = .ok (.value (.bool (decide (c = d)))) w := by
 have h := run_eql_struct (P := prog) w 44 (cel c).toArray (cel d).toArray;have he := yX w c d 9998;unfold blk at he;rw [he] at h;unfold execOp;simp only [ho, hx, hy, Sem.run_bind, pA, Result.andThen_ok];unfold blk;rw [h];simp
theorem adE {t : TypeId} (ho : o.op = .binOp .neq 44 x y t) (hx : ρ x = blk c) (hy : ρ y = blk d) : (execOp ρ o).run prog w = .ok (.value (.bool (!decide (c = d)))) w := by
 have h := run_neq_struct (P := prog) w 44 (cel c).toArray (cel d).toArray;have he := yX w c d 9998;unfold blk at he;rw [he] at h;unfold execOp;simp only [ho, hx, hy, Sem.run_bind, pA, Result.andThen_ok];unfold blk;rw [h];simp
theorem run_build {parts : List (Nat × Value)} (h : Instr.fill (fun i => some (i * 1, 1)) (cel aJ).toArray parts = some (cel c).toArray) (w : World) : (Instr.build 44 parts.toArray).run prog w = .ok (blk c) w := by
 simp only [Instr.build, Sem.run_bind, qL, run_underlying vZ, Result.andThen_ok, Tryz.sizeOf5, jb, h, Sem.run_pure]
 rfl
theorem dy {parts : List (Nat × Operand)} (ho : o.op = .build 44 parts.toArray) (h : Instr.fill (fun i => some (i * 1, 1)) (cel aJ).toArray (parts.map fun (i, x) => (i, ρ x)) = some (cel c).toArray) : (execOp ρ o).run prog w = .ok (.value (blk c)) w := by
 unfold execOp;simp only [ho, List.map_toArray, Sem.run_bind, run_build h, Result.andThen_ok, Sem.run_pure]
end
theorem ip {ρ : Operand -> Value} {o : Oper} {x y : Operand} {w : World} {c : Blk} (ho : o.op = .store 44 x y) (hx : ρ x = .pointer (some ⟨w.heap.size, 0, none⟩)) (hy : ρ y = blk c) : (execOp ρ o).run prog (w.alloc (.cells (cel aJ).toArray 44)) = .ok .skip (w.alloc (.cells (cel c).toArray 44)) := mC ho hx hy
theorem aao {ρ : Operand -> Value} {o : Oper} {x y : Operand} {w : World} {c d : Blk} {t : TypeId} (b : Bool) (ho : o.op = .binOp .eql 44 x y t) (hx : ρ x = blk c) (hy : ρ y = blk d) (h : decide (c = d) = b) : (execOp ρ o).run prog w = .ok (.value (.bool b)) w := by
 subst h; exact aci ho hx hy
theorem dC {fn : Func} {p u : Tmp} {c : Blk} (h : fn.results = #[.cell p 44, .tmp u]) (tmps : Array Value) (w : World) (b : Nat) (hp : tmps.getD p undef = .pointer (some ⟨b, 0, none⟩)) (hc : w.rangeAt b 0 (cel c)) :
  (results fn tmps).run prog w = .ok (.tuple #[blk c, tmps.getD u undef]) w := by
 have hl : (loadVar 44 ⟨b, 0, none⟩).run prog w = .ok (blk c) w := run_loadVar_mid w b 0 44 (cel c) _ hc vZ rfl (by rw [aO]; exact vm);have hp' : tmps[p]?.getD undef = .pointer (some ⟨b, 0, none⟩) := by simpa using hp
 simp [results, h, hp', asAddr, hl]
section
variable {w w' : World} {B b o n : Nat} {cs : List Value} {c : Blk}
theorem fB (w : World) (c : Blk) (t : TypeId) : (w.alloc (.cells (cel c).toArray t)).there w.heap.size 0 64 := fun j hj => by
 rw [cell_of_row _ _ (0 + j) _ t (0, 0) (heap_alloc_new w _), frozen_of_row _ _ (0 + j) _ t (heap_alloc_new w _)];exact ⟨by simp [aO]; omega, rfl⟩
theorem aaf {g m : Nat} {t : TypeId} {f : Nat -> Value} (h : w.rowIs g t m f) (ho : o + n <= m) : w.there g o n := fun j hj => by
 rw [h.cell (i := o + j) (by omega), h.frozen (o + j)];exact ⟨rfl, rfl⟩
end
theorem ahM : prog.underlying 127 = some (.slice 44) := underlying127
def flat (l : List Blk) : List Value := l.flatMap cel
theorem qK (x : Blk) (l : List Blk) : flat (x :: l) = cel x ++ flat l := rfl
theorem uD (l : List Blk) : (flat l).length = l.length * 64 := by
 induction l with
 |nil => rfl
 |cons x l ih => rw [qK, List.length_append, aO, ih, List.length_cons]; omega
theorem aeO (l : List Blk) {k j : Nat} (hk : k < l.length) (hj : j < 64) : (flat l)[k * 64 + j]? = (cel (l.getD k aJ))[j]? := by
 induction l generalizing k with
 |nil => simp at hk
 |cons x l ih =>
  rw [qK];cases k with
  |zero => rw [Nat.zero_mul, Nat.zero_add, List.getElem?_append_left (by rw [aO]; exact hj)]; rfl
  |succ k =>
   rw [List.getElem?_append_right (by rw [aO]; omega), aO, show (k + 1) * 64 + j - 64 = k * 64 + j from by omega, ih (by simpa using hk)]
   rfl
def hd (n : Nat) : Nat := (n + 15) / 16
structure Cl where
 s : Int
 m : Int
 b : Blk
deriving DecidableEq
def iH : Cl := ⟨0, 0, aJ⟩
section
variable {l : List Blk} {n : Nat} (hl : l.length = hd n + n)
include hl
end
section
variable {l : List Blk} {n : Nat} (h1 : 1 <= n) (h32 : n <= 32) (hl : l.length = hd n + n)
include h1 h32 hl
end
structure Elt (α : Type) where
 s : TypeId
 t : TypeId
 n : Nat
 by_ : Nat
 cel : α -> List Value
 d : α
 z : Value
 pos : 0 < n
 small : by_ <= 4096
 len : ∀ a, (cel a).length = n
 one : ∀ a, ∀ v ∈ cel a, v.oneCell' = true
 und : prog.underlying s = some (.slice t)
 info : (prog.info? t).map (fun i => (i.zero, i.size, i.bytes)) = some (some z, n, by_)
 zc : z.cells.size = n
section
variable {α : Type} (E : Elt α)
def cE (l : List α) : List Value := l.flatMap E.cel
theorem eL (x : α) (l : List α) : cE E (x :: l) = E.cel x ++ cE E l := rfl
theorem jw (a b : List α) : cE E (a ++ b) = cE E a ++ cE E b := by simp [cE]
theorem ct (l : List α) : (cE E l).length = l.length * E.n := by
 induction l with
 |nil => simp [cE]
 |cons x l ih => rw [eL, List.length_append, E.len, ih, List.length_cons, Nat.add_mul]; omega
theorem pC (l : List α) {k j : Nat} (hk : k < l.length) (hj : j < E.n) : (cE E l)[k * E.n + j]? = (E.cel (l.getD k E.d))[j]? := by
 induction l generalizing k with
 |nil => simp at hk
 |cons x l ih =>
  rw [eL];cases k with
  |zero => rw [Nat.zero_mul, Nat.zero_add, List.getElem?_append_left (by rw [E.len]; exact hj)]; rfl
  |succ k =>
   have e : (k + 1) * E.n + j - E.n = k * E.n + j := by rw [Nat.add_mul]; omega
   rw [List.getElem?_append_right (by rw [E.len, Nat.add_mul]; omega), E.len, e, ih (by simpa using hk)]
   rfl
theorem qI (l : List α) : ∀ v ∈ cE E l, v.oneCell' = true := by
 intro v hv;simp only [cE, List.mem_flatMap] at hv;obtain ⟨b, _, hb⟩ := hv;exact E.one b v hb
def RdE (w : World) (B : Nat) (A : Option Addr) (n : Nat) (l : List α) : Prop :=
 l.length = n /\ ∀ k, k < n -> ∃ b off, A = some ⟨b, off, none⟩ /\ b < B /\ w.rangeAt b (off + k * E.n) (E.cel (l.getD k E.d))
def aN (w : World) (base : Nat) (v : Value) (l : List α) : Prop := w.ownsRow base E.t E.n v l.length (cE E l)
end
section
variable {w w' : World} {b o B : Nat} {cs : List Value}
theorem zI (h : w.rangeAt b o cs) (hb : b < B) (hw : Below B w w') : w'.rangeAt b o cs := fun j v hj => by
 rw [hw.cell (p := ⟨b, o + j, none⟩) hb]; exact h j v hj
end
section
variable {α : Type} {E : Elt α} {w w' : World} {B B' n : Nat} {A : Option Addr} {l : List α} {v : Value}
theorem RdE.nil (w : World) (B : Nat) (A : Option Addr) : RdE E w B A 0 [] := ⟨rfl, fun k hk => absurd hk (by omega)⟩
theorem RdE.more (h : RdE E w B A n l) (hB : B <= B') : RdE E w B' A n l :=
 ⟨h.1, fun k hn => by
  obtain ⟨b, off, e, hb, hc⟩ := h.2 k hn;exact ⟨b, off, e, by omega, hc⟩⟩
theorem RdE.below (h : RdE E w B A n l) (hb : Below B w w') : RdE E w' B A n l :=
 ⟨h.1, fun k hn => by
  obtain ⟨b, off, e, hlt, hc⟩ := h.2 k hn;exact ⟨b, off, e, hlt, zI hc hlt hb⟩⟩
theorem RdE.step (h : RdE E w w.heap.size A n l) (hb : Below w.heap.size w w') : RdE E w' w'.heap.size A n l := (h.below hb).more hb.size
theorem RdE.alloc (h : RdE E w B A n l) (hN : B <= w.heap.size) (o : Obj) : RdE E (w.alloc o) B A n l := h.below ((Below.refl B w).alloc hN o)
theorem RdE.up (h : RdE E w w.heap.size A n l) (o : Obj) : RdE E (w.alloc o) (w.heap.size + 1) A n l := (h.alloc aj o).more (by omega)
theorem adh {g o : Nat} (hg : g < B) (h : ∀ j v, (cE E l)[j]? = some v -> w.cell? ⟨g, o + j, none⟩ = some v) : RdE E w B (some ⟨g, o, none⟩) l.length l :=
 ⟨rfl, fun k hk => ⟨g, o, rfl, hg, fun j v hj => by
  have hlt : j < E.n := by have := (List.getElem?_eq_some_iff.1 hj).1; rwa [E.len] at this
  rw [show o + k * E.n + j = o + (k * E.n + j) from by omega];exact h _ v (by rw [pC E l hk hlt]; exact hj)⟩⟩
theorem aaP {g : Nat} {cs : Array Value} {t : TypeId} (hg : w.heap[g]? = some (.cells cs t (0, 0))) (h : cs.toList = cE E l) (hB : g < B) : RdE E w B (some ⟨g, 0, none⟩) l.length l :=
 adh hB fun j v hj => by
  rw [cell_of_row _ _ (0 + j) cs t (0, 0) hg, Nat.zero_add, <- Array.getElem?_toList, h];exact hj
theorem fS (w : World) (cs : Array Value) (t : TypeId) (h : cs.toList = cE E l) : RdE E (w.alloc (.cells cs t)) (w.heap.size + 1) (some ⟨w.heap.size, 0, none⟩) l.length l :=
 aaP (heap_alloc_new w _) h (by omega)
theorem jQ {N : Nat} {ad : Addr} (h : RdE E w N (some ad) n l) : ∀ (j : Nat) (u : Value), (cE E l)[j]? = some u -> w.cell? (ad.add j) = some u := by
 intro j u hu;have hj : j < l.length * E.n := by have := (List.getElem?_eq_some_iff.1 hu).1; rwa [ct] at this
 have hk : j / E.n < l.length := Nat.div_lt_of_lt_mul (by rw [Nat.mul_comm]; exact hj);have hr : j % E.n < E.n := Nat.mod_lt _ E.pos;have hd : j / E.n * E.n + j % E.n = j := Nat.div_add_mod' j E.n;obtain ⟨b, off, e, _, hc⟩ := h.2 (j / E.n) (by have := h.1; omega);injection e with e;subst e;have hadd : (⟨b, off, none⟩ : Addr).add j = ⟨b, off + j, none⟩ := by unfold Addr.add; split <;> simp_all
 rw [hadd];have h2 := pC E l hk (j := j % E.n) hr;rw [hd, hu] at h2;have h3 := hc (j % E.n) u h2.symm;rwa [Nat.add_assoc, hd] at h3
theorem aN.nil (w : World) (B : Nat) : aN E w B (.slice none 0 0) [] := ⟨by simp [cE], .inl ⟨rfl, rfl⟩⟩
theorem aN.form (h : aN E w B v l) : ∃ A c, v = .slice A l.length c /\ l.length <= c /\ c <= maxLen := by
 rcases h.2 with ⟨rfl, h0⟩ | ⟨g, cap, cur, rfl, _, _, h1, h2, _⟩
 ·exact ⟨none, 0, by rw [h0], by omega, by simp [maxLen]⟩
 ·exact ⟨_, cap, rfl, h1, h2⟩
theorem aN.rd {c : Nat} (h : aN E w B (.slice A n c) l) : RdE E w w.heap.size A n l := by
 rcases h.2 with ⟨hv, h0⟩ | ⟨g, cap, cur, hv, _, hg, _, _, _, ht⟩
 ·have hl : l = [] := List.eq_nil_of_length_eq_zero h0;subst hl;injection hv with h1 h2 h3;subst h2;exact RdE.nil _ _ _
 ·injection hv with h1 h2 h3;subst h1 h2 h3;refine adh (Array.getElem?_eq_some_iff.1 hg).1 fun j u hu => ?_
  rw [cell_of_row w g (0 + j) cur E.t (0, 0) hg, Nat.zero_add];have hj : j < l.length * E.n := by have := (List.getElem?_eq_some_iff.1 hu).1; rwa [ct] at this
  rw [<- ht, List.getElem?_take_of_lt hj] at hu
  simpa using hu
theorem aN.below (h : aN E w B v l) (hb : Below w.heap.size w w') : aN E w' B v l := by
 refine ⟨h.1, ?_⟩;rcases h.2 with hn | ⟨g, cap, cur, rfl, hbg, hg, rest⟩
 ·exact .inl hn
 ·exact .inr ⟨g, cap, cur, rfl, hbg, by rw [hb.block g (Array.getElem?_eq_some_iff.1 hg).1]; exact hg, rest⟩
theorem aN.base (h : aN E w B v l) (hb : B' <= B) : aN E w B' v l := by
 refine ⟨h.1, ?_⟩;rcases h.2 with hn | ⟨g, cap, cur, rfl, hbg, rest⟩
 ·exact .inl hn
 ·exact .inr ⟨g, cap, cur, rfl, aq hb hbg, rest⟩
theorem aN.open_ (h : aN E w B v l) (hn : l.length = n) : ∃ A c, v = .slice A n c /\ RdE E w w.heap.size A n l /\ n <= c /\ c <= maxLen := by
 subst hn;obtain ⟨A, c, rfl, h1, h2⟩ := h.form;exact ⟨A, c, rfl, h.rd, h1, h2⟩
theorem aN.gH (h : aN E w B v l) : ∀ k, v.ownBlock = some k -> B <= k := by
 intro k hk;rcases h.2 with ⟨rfl, _⟩ | ⟨g, cap, cur, rfl, hbg, _⟩
 ·simp [Value.ownBlock] at hk
 ·simp [Value.ownBlock] at hk; omega
theorem aN.of_block {g : Nat} {cs : Array Value} (hg : w.heap[g]? = some (.cells cs E.t (0, 0))) (h : cs.toList = cE E l) (hB : B <= g) (hl : l.length = n) (hm : n <= maxLen) : aN E w B (.slice (some ⟨g, 0, none⟩) n n) l := by
 subst hl;have hsz : cs.size = l.length * E.n := by rw [<- Array.length_toList, h, ct]
 refine ⟨ct E l, .inr ⟨g, l.length, cs, rfl, hB, hg, aj, hm, hsz, ?_⟩⟩;rw [h, List.take_of_length_le (by rw [ct]; exact aj)]
end
theorem aN.other {α β : Type} {E : Elt α} {E' : Elt β} {w : World} {B B' : Nat} {v v' : Value} {l : List α} {l' : List β} (h : aN E w B v l) (h' : aN E' w B' v' l') (hne : E.t ≠ E'.t) : v.ownBlock = none \/ v.ownBlock ≠ v'.ownBlock := by
 rcases h.2 with ⟨rfl, _⟩ | ⟨g, cap, cur, rfl, _, hg, _⟩
 ·exact .inl rfl
 ·rcases h'.2 with ⟨rfl, _⟩ | ⟨g', cap', cur', rfl, _, hg', _⟩
  ·exact .inr (by simp [Value.ownBlock])
  ·refine .inr fun e => ?_
   simp [Value.ownBlock] at e;subst e;rw [hg] at hg';simp at hg';exact hne hg'.2
theorem aN.kept {α : Type} {E : Elt α} {w w' : World} {B : Nat} {v : Value} {l : List α} {row : Option Nat} (h : aN E w B v l) (hg : w.grownBy w' row) (hne : v.ownBlock = none \/ v.ownBlock ≠ row) : aN E w' B v l := World.ownsRow.kept h hg hne
theorem aag {α : Type} (E : Elt α) (w : World) (ty B N m c : Nat) (v : Value) (l l' : List α) (A : Option Addr) (hm : aN E w B v l) (hr : RdE E w N A m l') (hB : B <= w.heap.size) (hml : l.length + m <= maxLen) (hby : (l.length + m) * E.by_ <= 140737488355328) :
  ∃ v' w', (Builtin.append_ #[E.s, E.s] ty #[v, .slice A m c]).run prog w = .ok v' w' /\ aN E w' B v' (l ++ l') /\ w.grownBy w' v.ownBlock := by
 obtain ⟨i0, hi, hz0, hz1, hz2⟩ := info_parts E.info;rcases A with _ | ad
 ·have h0 : m = 0 := by
   rcases Nat.eq_zero_or_pos m with h | h
   ·exact h
   ·obtain ⟨b, off, e, _⟩ := hr.2 0 h;cases e
  subst h0;have hn : l' = [] := List.eq_nil_of_length_eq_zero hr.1;subst hn;refine ⟨v, w, ?_, by rw [List.append_nil]; exact hm, World.grownBy.refl w _⟩;rcases hm.2 with ⟨rfl, _⟩ | ⟨g, cap, cur, rfl, _, _, hnc, _⟩
  ·simp [Builtin.append_, run_underlying E.und, sizeOf, typeInfo, hi, Builtin.lenOf, Builtin.firstCells]
  ·simp [Builtin.append_, run_underlying E.und, sizeOf, typeInfo, hi, Builtin.lenOf, Builtin.firstCells, hnc, storeCells]
 ·obtain ⟨v', w', h1, h2, h3, _⟩ := run_append_own (P := prog) w B E.s ty E.t i0 E.z E.n E.by_ E.und hi hz0 hz1 hz2 E.zc E.pos v l.length _ hm ad m c (cE E l')
   (by rw [ct, hr.1]) (jQ hr) (qI E l') hml hby hB
  refine ⟨v', w', h1, ?_, h3⟩;unfold aN;rw [jw, List.length_append, hr.1];exact h2
theorem gB {α : Type} (E : Elt α) (w : World) (ty B N m c : Nat) (v : Value) (l l' : List α) (A : Option Addr) (hm : aN E w B v l) (hr : RdE E w N A m l') (hB : B <= w.heap.size) (hsum : l.length + m <= 34359738368) :
  ∃ v' w', (Builtin.append_ #[E.s, E.s] ty #[v, .slice A m c]).run prog w = .ok v' w' /\ aN E w' B v' (l ++ l') /\ w.grownBy w' v.ownBlock :=
 aag E w ty B N m c v l l' A hm hr hB (by unfold maxLen; omega) (aq (Nat.mul_le_mul hsum E.small) (by omega))
theorem ue {α : Type} (E : Elt α) {w : World} {ops : Array Oper} {rest : List Oper} {o : Oper} {a : Act} {Q : Exit -> Act -> World -> Prop} (hgd : o.guard = none) (s x : Operand)
  (ho : o.op = .call { callee := .builtin .append, args := #[s, x], argTypes := #[E.s, E.s] })
  (B N m c : Nat) (v : Value) (l l' : List α) (A : Option Addr) (hs : a.eval s = v) (hx : a.eval x = .slice A m c) (hm : aN E w B v l) (hr : RdE E w N A m l') (hB : B <= w.heap.size) (hsum : l.length + m <= 34359738368)
  (h : ∀ v' w', aN E w' B v' (l ++ l') -> w.grownBy w' v.ownBlock -> wpList prog ops Q rest (a.put o.dst v') w') : wpList prog ops Q (o :: rest) a w := by
 refine wpList_plain hgd fun K hK => ?_
 obtain ⟨v', w', hrun, h1, h2⟩ := gB E w o.type B N m c v l l' A hm hr hB hsum;unfold Oper.wp;simp [execOp, ho, resolve, invoke, builtin, hs, hx, hrun, Result.andThen];exact hK _ _ (h v' w' h1 h2)
theorem acP (pre post : List Value) : ∀ (vs mid done : List Value), mid.length = vs.length ->
  (vs.zipIdx done.length).foldl (fun cs (p : Value × Nat) => cs.setIfInBounds (pre.length + p.2) p.1) (pre ++ done ++ mid ++ post).toArray = (pre ++ done ++ vs ++ post).toArray
 |[], mid, done, h => by
  have : mid = [] := List.eq_nil_of_length_eq_zero h;subst this;simp
 |v :: vs, mid, done, h => by
  match mid, h with
  |m :: ms, h =>
   rw [List.zipIdx_cons, List.foldl_cons];have hset : (pre ++ done ++ m :: ms ++ post).toArray.setIfInBounds (pre.length + done.length) v = (pre ++ (done ++ [v]) ++ ms ++ post).toArray := by
    rw [List.setIfInBounds_toArray]
    congr 1
    rw [List.append_assoc (pre ++ done), List.set_append_right _ _ (by simp), List.length_append, Nat.sub_self];simp
   have := acP pre post vs ms (done ++ [v]) (by simpa using h);rw [List.length_append, List.length_singleton] at this
   show (vs.zipIdx (done.length + 1)).foldl (fun cs (p : Value × Nat) => cs.setIfInBounds (pre.length + p.2) p.1) ((pre ++ done ++ m :: ms ++ post).toArray.setIfInBounds (pre.length + done.length) v) = _
   rw [hset, this];simp
theorem dk {place : Nat -> Option (Nat × Nat)} {i off size : Nat} {v : Value} {pre mid post vs : List Value} {rest : List (Nat × Value)} (hp : place i = some (off, size)) (hv : v.cells = vs.toArray) (hs : vs.length = size) (ho : pre.length = off) (hm : mid.length = size) :
  Instr.fill place (pre ++ mid ++ post).toArray ((i, v) :: rest) = Instr.fill place (pre ++ vs ++ post).toArray rest := by
 subst hs ho;have hw := acP pre post vs mid [] hm;simp only [List.append_nil, List.length_nil] at hw;rw [Instr.fill, hp];have hc : (decide (v.cells.size ≠ vs.length) || decide (pre.length + v.cells.size > (pre ++ mid ++ post).toArray.size)) = false := by
  rw [hv];simp [hm]
 show (if (decide (v.cells.size ≠ vs.length) || decide (pre.length + v.cells.size > (pre ++ mid ++ post).toArray.size)) = true then none else _) = _
 rw [hc, if_neg (by simp), hv, <- Array.foldl_toList, Array.toList_zipIdx]
 show Instr.fill place (vs.zipIdx.foldl (fun cs (p : Value × Nat) => cs.setIfInBounds (pre.length + p.2) p.1) (pre ++ mid ++ post).toArray) rest = _
 rw [hw]
section
variable {α : Type} (E : Elt α)
theorem mQ (w : World) : (sizeOf E.t).run prog w = .ok E.n w := by
 obtain ⟨i0, hi, hz0, hz1, hz2⟩ := info_parts E.info;simp [sizeOf, typeInfo, hi, hz1]
theorem mV (w : World) : (zeroValue E.t).run prog w = .ok E.z w := by
 obtain ⟨i0, hi, hz0, hz1, hz2⟩ := info_parts E.info;simp [zeroValue, typeInfo, hi, hz0]
end
section
variable {α : Type} {E : Elt α} {ρ : Operand -> Value} {o : Oper} {x y : Operand} {w : World} {b off n c j : Nat} {v : Value} {a : α}
theorem add_mid (b off j : Nat) : (⟨b, off, none⟩ : Addr).add j = ⟨b, off + j, none⟩ := by unfold Addr.add; split <;> simp_all
theorem xt (hj : j < n) : (Instr.indexAt E.s (.slice (some ⟨b, off, none⟩) n c) (.int .i64 (j : Int))).run prog w = .ok (.pointer (some ⟨b, off + j * E.n, none⟩)) w := by
 have h := mQ E w;simp [Instr.indexAt, asIntOf, run_underlying E.und, add_mid, h, hj]
theorem co (ho : o.op = .indexAddr E.s x y) (hx : ρ x = .slice (some ⟨b, off, none⟩) n c) (hy : ρ y = .int .i64 (j : Int)) (hj : j < n) : (execOp ρ o).run prog w = .ok (.value (.pointer (some ⟨b, off + j * E.n, none⟩))) w :=
 cU ho hx hy (xt (E := E) hj)
theorem eA (ho : o.op = .buildSlice E.s 1 #[(0, x)]) (hx : ρ x = v) (hv : v.cells = (E.cel a).toArray) (hn : E.n <= 16777216) :
  (execOp ρ o).run prog w = .ok (.value (.slice (some ⟨w.heap.size, 0, none⟩) 1 1)) (w.alloc (.cells (E.cel a).toArray E.t)) := by
 have hz := mV E w;have hs := mQ E w;have hp := E.pos;obtain ⟨zs, hzs⟩ : ∃ zs : List Value, (Array.range (1 * E.n)).map (E.z.cells[· % E.z.cells.size]!) = zs.toArray := ⟨_, (Array.toArray_toList).symm⟩;have hzl : zs.length = E.n := by
  have := congrArg Array.size hzs
  simpa using this.symm
 have hf := dk (place := fun i => some (i * E.n, E.n)) (i := 0) (off := 0) (v := v) (pre := []) (mid := zs) (post := []) (vs := E.cel a) (rest := []) (by simp) hv (E.len a) rfl hzl;simp only [List.nil_append, List.append_nil] at hf;unfold execOp;simp only [ho, Instr.buildSlice, Sem.run_bind, run_underlying E.und, Result.andThen_ok, hs];rw [if_neg (by omega), if_neg (by omega)];simp only [Sem.run_bind, hz, Result.andThen_ok, Sem.run_pure, hzs];simp [hx, hf, Instr.fill, newRow]
end
theorem gh {α : Type} {E : Elt α} {o : Oper} {a : Act} {w w' : World} {s x : Operand} {A : Option Addr} {m c : Nat} {v v' : Value} (ho : o.op = .call { callee := .builtin .append, args := #[s, x], argTypes := #[E.s, E.s] }) (hs : a.eval s = v) (hx : a.eval x = .slice A m c)
  (hrun : (Builtin.append_ #[E.s, E.s] o.type #[v, .slice A m c]).run prog w = .ok v' w') : (execOp a.eval o).run prog w = .ok (.value v') w' := by
 simp [execOp, ho, resolve, invoke, builtin, hs, hx, hrun, Result.andThen]
theorem jL {α : Type} (E : Elt α) (w : World) (ty B N m c : Nat) (v : Value) (l l' : List α) (A : Option Addr) (hm : aN E w B v l) (hr : RdE E w N A m l') (hB : B <= w.heap.size) (hsum : l.length + m <= 34359738368) :
  ∃ v' w', (Builtin.append_ #[E.s, E.s] ty #[v, .slice A m c]).run prog w = .ok v' w' /\ aN E w' B v' (l ++ l') /\ w.grownBy w' v.ownBlock /\ ∀ x, v'.ownBlock = some x -> v.ownBlock = some x \/ w.heap.size <= x := by
 obtain ⟨v', w', h1, h2, h3⟩ := gB E w ty B N m c v l l' A hm hr hB hsum;refine ⟨v', w', h1, h2, h3, ?_⟩;have sure : ∀ v'' w'', (Builtin.append_ #[E.s, E.s] ty #[v, .slice A m c]).run prog w = .ok v'' w'' -> v' = v'' := fun v'' w'' e => by rw [h1] at e; injection e
 obtain ⟨i0, hi, hz0, hz1, hz2⟩ := info_parts E.info;rcases hm.2 with ⟨rfl, h0⟩ | ⟨g, cap, cur, rfl, hbg, hg, hnc, hcm, hcs, htake⟩
 ·have hm' : aN E w w.heap.size (.slice none 0 0) l := ⟨hm.1, .inl ⟨rfl, h0⟩⟩;obtain ⟨v2, w2, g1, g2, g3⟩ := gB E w ty w.heap.size N m c _ l l' A hm' hr aj hsum;have e := sure _ _ g1;subst e;exact fun x hx => .inr (g2.gH x hx)
 ·rcases A with _ | ad
  ·have h0 : m = 0 := by
    rcases Nat.eq_zero_or_pos m with h | h
    ·exact h
    ·obtain ⟨b, off, e, _⟩ := hr.2 0 h;cases e
   subst h0;have e := sure (.slice (some ⟨g, 0, none⟩) l.length cap) w (by simp [Builtin.append_, run_underlying E.und, sizeOf, typeInfo, hi, Builtin.lenOf, Builtin.firstCells, hnc, storeCells]);subst e;exact fun x hx => .inl hx
  ·by_cases hroom : l.length + m <= cap
   ·have hfit : l.length * i0.size + (cE E l').length <= cur.size := by rw [ct, hr.1, hz1, hcs, <- Nat.add_mul]; exact Nat.mul_le_mul_right _ hroom
    have h := run_append_room (P := prog) w E.s ty E.t i0 E.und hi g l.length cap cur hg ad m c (cE E l') (by rw [ct, hr.1, hz1]) (jQ hr) (qI E l') hroom hfit;have e := sure _ _ h;subst e;exact fun x hx => .inl hx
   ·have holds : ∀ j u, (cE E l)[j]? = some u -> w.cell? ((⟨g, 0, none⟩ : Addr).add j) = some u := World.ownsRow.cells hm (g := g) rfl;have hby : (l.length + m) * E.by_ <= 140737488355328 := aq (Nat.mul_le_mul hsum E.small) (by omega);have h := run_append_grow (P := prog) w E.s ty E.t i0 E.z E.und hi hz0 ⟨g, 0, none⟩ l.length cap (cE E l) (by rw [hz1]; exact hm.1) holds ad m c (cE E l') (by rw [ct, hr.1, hz1]) (jQ hr) (by omega) (by omega) (growslice_fits (by omega) (by rw [hz2]; exact hby));have e := sure _ _ h;subst e;exact fun x hx => .inr (by simp [Value.ownBlock] at hx; omega)
theorem jR {α : Type} (E : Elt α) {w : World} {ops : Array Oper} {rest : List Oper} {o : Oper} {a : Act} {Q : Exit -> Act -> World -> Prop} (hgd : o.guard = none) (s x : Operand)
  (ho : o.op = .call { callee := .builtin .append, args := #[s, x], argTypes := #[E.s, E.s] })
  (B N m c : Nat) (v : Value) (l l' : List α) (A : Option Addr) (hs : a.eval s = v) (hx : a.eval x = .slice A m c) (hm : aN E w B v l) (hr : RdE E w N A m l') (hB : B <= w.heap.size) (hsum : l.length + m <= 34359738368)
  (h : ∀ v' w', aN E w' B v' (l ++ l') -> w.grownBy w' v.ownBlock -> (∀ x, v'.ownBlock = some x -> v.ownBlock = some x \/ w.heap.size <= x) -> wpList prog ops Q rest (a.put o.dst v') w') : wpList prog ops Q (o :: rest) a w := by
 refine wpList_plain hgd fun K hK => ?_
 obtain ⟨v', w', hrun, h1, h2, h3⟩ := jL E w o.type B N m c v l l' A hm hr hB hsum;unfold Oper.wp;simp [execOp, ho, resolve, invoke, builtin, hs, hx, hrun, Result.andThen];exact hK _ _ (h v' w' h1 h2 h3)
section
variable {α : Type} {E : Elt α} {w : World} {B g n cc k : Nat} {l : List α} {a : α}
theorem tx {l : List α} {k : Nat} (hk : k < l.length) : cE E l = cE E (l.take k) ++ (E.cel (l.getD k E.d) ++ cE E (l.drop (k + 1))) := by
 have h1 : l = l.take k ++ (l.getD k E.d :: l.drop (k + 1)) := by
  rw [List.getD, List.getElem?_eq_getElem hk, Option.getD_some, List.getElem_cons_drop, List.take_append_drop]
 conv => lhs; rw [h1]
 rw [jw, eL]
theorem zN {l : List α} {k : Nat} (hk : k < l.length) (a : α) : cE E (l.set k a) = cE E (l.take k) ++ (E.cel a ++ cE E (l.drop (k + 1))) := by
 have h2 : l.set k a = l.take k ++ (a :: l.drop (k + 1)) := List.set_eq_take_append_cons_drop.trans (by rw [if_pos hk]);rw [h2, jw, eL]
theorem heap_put (g : Nat) (t : TypeId) (post : List Value) : ∀ (vs mid pre : List Value) (w : World), mid.length = vs.length -> w.heap[g]? = some (.cells (pre ++ mid ++ post).toArray t (0, 0)) ->
  (w.setCells g pre.length vs).heap[g]? = some (.cells (pre ++ vs ++ post).toArray t (0, 0))
 |[], mid, pre, w, h, hg => by
  have : mid = [] := List.eq_nil_of_length_eq_zero h;subst this;exact hg
 |v :: vs, mid, pre, w, h, hg => by
  match mid, h with
  |m :: ms, h =>
   rw [World.setCells];have h1 := heap_setCell_same w g pre.length _ t v hg;have hset : (pre ++ m :: ms ++ post).toArray.setIfInBounds pre.length v = ((pre ++ [v]) ++ ms ++ post).toArray := by
    rw [List.setIfInBounds_toArray]
    congr 1
    rw [List.append_assoc, List.set_append_right _ _ (by simp), Nat.sub_self];simp
   rw [hset] at h1;have := heap_put g t post vs ms (pre ++ [v]) _ (by simpa using h) h1;rw [List.length_append, List.length_singleton] at this;rw [this];simp
theorem aN.parts (h : aN E w B (.slice (some ⟨g, 0, none⟩) n cc) l) : l.length = n /\ B <= g /\ ∃ post, w.heap[g]? = some (.cells (cE E l ++ post).toArray E.t (0, 0)) /\ n <= cc /\ cc <= maxLen /\ (cE E l ++ post).length = cc * E.n := by
 rcases h.2 with ⟨hv, _⟩ | ⟨g', cap, cur, hv, hbg, hg, h1, h2, h3, ht⟩
 ·cases hv
 ·injection hv with e1 e2 e3;injection e1 with e1;injection e1 with e1;subst e1 e2 e3;refine ⟨rfl, hbg, cur.toList.drop (l.length * E.n), ?_, h1, h2, ?_⟩
  ·rw [<- ht, List.take_append_drop, Array.toArray_toList]; exact hg
  ·rw [<- ht, List.take_append_drop, Array.length_toList, h3]
theorem aN.adP {post : List Value} (hl : l.length = n) (hB : B <= g) (hg : w.heap[g]? = some (.cells (cE E l ++ post).toArray E.t (0, 0))) (h1 : n <= cc) (h2 : cc <= maxLen) (h3 : (cE E l ++ post).length = cc * E.n) : aN E w B (.slice (some ⟨g, 0, none⟩) n cc) l := by
 subst hl;refine ⟨ct E l, .inr ⟨g, cc, _, rfl, hB, hg, h1, h2, by simpa using h3, ?_⟩⟩;rw [List.take_left' (ct E l)]
theorem aN.there (h : aN E w B (.slice (some ⟨g, 0, none⟩) n cc) l) (hk : k < n) {j m : Nat} (hj : j + m <= E.n) : w.there g (k * E.n + j) m := by
 obtain ⟨hl, _, post, hg, hn, _, h3⟩ := h.parts;intro i hi;refine ⟨?_, frozen_of_row w g _ _ _ hg⟩;rw [cell_of_row w g _ _ _ (0, 0) hg];have : k * E.n + j + i < (cE E l ++ post).length := by
  have h4 := Nat.mul_le_mul_right E.n (aq hk hn);rw [Nat.succ_mul] at h4;rw [h3];omega
 simp only [List.getElem?_toArray, List.getElem?_eq_getElem this, Option.isSome_some]
theorem aN.put (h : aN E w B (.slice (some ⟨g, 0, none⟩) n cc) l) (hk : k < n) {j : Nat} {vs : List Value} (a : α) (ha : E.cel a = (E.cel (l.getD k E.d)).take j ++ vs ++ (E.cel (l.getD k E.d)).drop (j + vs.length)) (hj : j + vs.length <= E.n) :
  aN E (w.setCells g (k * E.n + j) vs) B (.slice (some ⟨g, 0, none⟩) n cc) (l.set k a) := by
 obtain ⟨hl, hB, post, hg, h1, h2, h3⟩ := h.parts;have hkl : k < l.length := by omega
 have hc : E.cel (l.getD k E.d) = (E.cel (l.getD k E.d)).take j ++ ((E.cel (l.getD k E.d)).drop j).take vs.length ++ (E.cel (l.getD k E.d)).drop (j + vs.length) := by
  rw [List.append_assoc, <- List.drop_drop, List.take_append_drop, List.take_append_drop]
 have hsp : cE E l ++ post = (cE E (l.take k) ++ (E.cel (l.getD k E.d)).take j) ++ ((E.cel (l.getD k E.d)).drop j).take vs.length ++ ((E.cel (l.getD k E.d)).drop (j + vs.length) ++ (cE E (l.drop (k + 1)) ++ post)) := by
  rw [tx hkl]
  conv => lhs; rw [hc]
  simp only [List.append_assoc]
 rw [hsp] at hg;have hmid : (((E.cel (l.getD k E.d)).drop j).take vs.length).length = vs.length := by rw [List.length_take, List.length_drop, E.len]; omega
 have := heap_put g E.t _ vs _ _ w hmid hg;have hpl : (cE E (l.take k) ++ (E.cel (l.getD k E.d)).take j).length = k * E.n + j := by
  rw [List.length_append, ct, List.length_take, List.length_take, E.len, Nat.min_eq_left (by omega), Nat.min_eq_left (by omega)]
 rw [hpl] at this;have hsp2 : cE E (l.set k a) ++ post = (cE E (l.take k) ++ (E.cel (l.getD k E.d)).take j) ++ vs ++ ((E.cel (l.getD k E.d)).drop (j + vs.length) ++ (cE E (l.drop (k + 1)) ++ post)) := by
  rw [zN hkl, ha];simp only [List.append_assoc]
 rw [<- hsp2] at this;exact aN.adP (by rw [List.length_set, hl]) hB this h1 h2 (by rw [List.length_append, ct, List.length_set, <- ct E l, <- List.length_append, h3])
theorem aN.store (h : aN E w B (.slice (some ⟨g, 0, none⟩) n cc) l) (hk : k < n) (a : α) : aN E (w.setCells g (k * E.n) (E.cel a)) B (.slice (some ⟨g, 0, none⟩) n cc) (l.set k a) := by
 have := h.put hk (j := 0) (vs := E.cel a) a (by rw [List.take_zero, Nat.zero_add, List.drop_eq_nil_of_le (by rw [E.len, E.len]; exact aj)]; simp) (by rw [E.len]; omega)
 simpa using this
end
theorem wT {n : Nat} (h : n < 9223372036854775808) : wrap64 (n : Int) = (n : Int) := by unfold wrap64; omega
theorem aC {w w' : World} {b : Nat} {o : Obj} (h : w.heap[b]? = some o) (hb : Below w.heap.size w w') : w'.heap[b]? = some o := (hb.block b (Array.getElem?_eq_some_iff.1 h).1).trans h
theorem m0 {w w' : World} {B b : Nat} {o : Obj} (h : w.heap[b]? = some o) (hB : b < B) (hb : Below B w w') : w'.heap[b]? = some o := (hb.block b hB).trans h
theorem bu {w : World} {b : Nat} {o : Obj} (h : w.heap[b]? = some o) (o' : Obj) : (w.alloc o').heap[b]? = some o := (Below.heap_alloc w o' b (Array.getElem?_eq_some_iff.1 h).1).trans h
theorem aU {w : World} {b : Nat} {o : Obj} (h : w.heap[b]? = some o) : b < w.heap.size := (Array.getElem?_eq_some_iff.1 h).1
section
variable {w : World} {b : Nat} {t : TypeId} {x y z : Value}
theorem iY (h : w.heap[b]? = some (.cells #[x, y] t (0, 0))) : w.cell? ⟨b, 0, none⟩ = some x /\ w.cell? ⟨b, 1, none⟩ = some y /\ w.frozen? ⟨b, 0, none⟩ = false /\ w.frozen? ⟨b, 1, none⟩ = false := by
 refine ⟨?_, ?_, frozen_of_row w b 0 _ t h, frozen_of_row w b 1 _ t h⟩
 ·rw [cell_of_row w b 0 _ t (0, 0) h]; rfl
 ·rw [cell_of_row w b 1 _ t (0, 0) h]; rfl
theorem cells3 (h : w.heap[b]? = some (.cells #[x, y, z] t (0, 0))) : w.cell? ⟨b, 0, none⟩ = some x /\ w.cell? ⟨b, 1, none⟩ = some y /\ w.cell? ⟨b, 2, none⟩ = some z := by
 refine ⟨?_, ?_, ?_⟩
 ·rw [cell_of_row w b 0 _ t (0, 0) h]; rfl
 ·rw [cell_of_row w b 1 _ t (0, 0) h]; rfl
 ·rw [cell_of_row w b 2 _ t (0, 0) h]; rfl
end
theorem adk {w w1 : World} {o : Obj} (hb : Below (w.alloc o).heap.size (w.alloc o) w1) (hf : (w.alloc o).heap[w.heap.size]? = some o) : Hid (w1.heap[w.heap.size]? = some o) /\ Hid (Below w.heap.size w w1) :=
 ⟨ae (aC hf hb), ae (((Below.refl w.heap.size w).alloc aj _).trans (hb.mono (by simp)))⟩
theorem jm {w w1 : World} {o o' : Obj} (hb : Below ((w.alloc o).alloc o').heap.size ((w.alloc o).alloc o') w1) (hf : (w.alloc o).heap[w.heap.size]? = some o) (hf' : ((w.alloc o).alloc o').heap[w.heap.size + 1]? = some o') :
  Hid (w1.heap[w.heap.size]? = some o) /\ Hid (w1.heap[w.heap.size + 1]? = some o') /\ w.heap.size + 1 < w1.heap.size /\ Hid (Below w.heap.size w w1) :=
 ⟨ae (aC (bu hf o') hb), ae (aC hf' hb), aU (aC hf' hb), ae ((((Below.refl w.heap.size w).alloc aj _).alloc (by simp) _).trans (hb.mono (by simp; omega)))⟩
theorem lM (w : World) (cs : Array Value) (t : TypeId) : (w.alloc (.cells cs t)).heap[w.heap.size]? = some (.cells cs t) := heap_alloc_new w _
theorem abZ (w : World) (o : Obj) (cs : Array Value) (t : TypeId) : ((w.alloc o).alloc (.cells cs t)).heap[w.heap.size + 1]? = some (.cells cs t) := by
 have := heap_alloc_new (w.alloc o) (.cells cs t);rwa [World.size_alloc] at this
end Go.Proofs.YtlmdklakcmnaiaaGreatDoor
