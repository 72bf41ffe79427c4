import Derived.Laws.OwnMore
import Derived.Deep.Draws
import Derived.Laws.Rows
import Derived.OwnWalk
import Derived.Deep.OwnRows
import Derived.Test.YtcpbekopbeaflaaGreatDoorRows
import Derived.WalkKit
import Derived.ProofKit
import Derived.OpenShut
import Derived.ShutString
import Derived.ChangeOld
import Derived.SizedLaws
import Derived.JoinedCond
import Derived.Test.YtcpbekopbeaflaaGreatDoorProg
import Derived.RegionTactic
import Derived.ChangeAlike
import Derived.Deep.QuietTactic
import Derived.BigQuiet
import Derived.WalkLawsBesides
import Derived.WalkSpells
import Derived.Laws.BitsAllLaws
import Derived.Deep.DeepHandedRow
import Derived.Lib.LaidTab
import Derived.Lib.SmallJoins
import Derived.LaidSub
import Derived.Deep.MidRow
import Derived.StillTailTactics
import Derived.Deep.WholeRow
import Derived.Deep.Quiet
import Derived.Laws.StructEq
import Derived.Laws.NewBlocks
import Derived.OrdersHeld
import Derived.Laws.IdiomCopy
import Derived.Laws.CopyOwn
import Derived.Test.YtcpbekopbeaflaaGreatDoorLrZ
namespace Go.Proofs.YtcpbekopbeaflaaGreatDoor
set_option maxHeartbeats 8000000
open Go.Proofs.Tryz
open Go.RowKit
set_option maxRecDepth 100000
def bt (l : List UInt8) (k : Nat) : Int := ((l.getD k 0).toNat : Int)
theorem yo (l : List UInt8) (k : Nat) : 0 <= bt l k := by unfold bt; omega
theorem xY (l : List UInt8) (k : Nat) : bt l k <= 255 := by
 unfold bt;have := UInt8.toNat_lt (l.getD k 0);omega
theorem fW {l : List UInt8} {k : Nat} (h : k < l.length) : bt l k = (l[k].toNat : Int) := by
 unfold bt;simp [List.getD, List.getElem?_eq_getElem h]
theorem iR {a b : List UInt8} (hl : a.length = b.length) (h : ∀ k, k < a.length -> bt a k = bt b k) : a = b := by
 apply List.ext_getElem hl;intro k h1 h2;have := h k h1;rw [fW h1, fW h2] at this;exact UInt8.toNat_inj.1 (by omega)
def Rd (w : World) (B : Nat) (A : Option Addr) (n : Nat) (l : List UInt8) : Prop :=
 l.length = n /\ ∀ k, k < n -> ∃ b off, A = some ⟨b, off, none⟩ /\ b < B /\ w.cell? ⟨b, off + k, none⟩ = some (.int .u8 (bt l k))
section
variable {w w' : World} {B B' n : Nat} {A : Option Addr} {l : List UInt8}
theorem Rd.nil (w : World) (B : Nat) (A : Option Addr) : Rd w B A 0 [] := ⟨rfl, fun k hk => absurd hk (by omega)⟩
theorem Rd.keep (h : Rd w B A n l) (hk : ∀ p : Addr, p.block < B -> w'.cell? p = w.cell? p) : Rd w' B A n l :=
 ⟨h.1, fun k hn => by
  obtain ⟨b, off, e, hb, hc⟩ := h.2 k hn;exact ⟨b, off, e, hb, (hk _ hb).trans hc⟩⟩
theorem Rd.below (h : Rd w B A n l) (hb : Below B w w') : Rd w' B A n l := h.keep fun _ hp => hb.cell hp
end
theorem bd {B : Nat} {a w : World} (h : Below B a w) : Below B a w.drew := ⟨h.os, h.tape, h.output, h.size, h.block⟩
theorem bL {a b : Bool} (h : a = b) : Ending.returned (.bool a) = .returned (.bool b) := by rw [h]
theorem br {k : IntKind} {a b : Int} (h : a = b) : Ending.returned (.int k a) = .returned (.int k b) := by rw [h]
def Made (w : World) (base : Nat) (v : Value) (l : List UInt8) : Prop :=
 w.ownsRow base 5 1 v l.length (l.map fun u => .int .u8 (u.toNat : Int))
theorem Made.form {w : World} {base : Nat} {v : Value} {l : List UInt8} (h : Made w base v l) : ∃ A c, v = .slice A l.length c /\ l.length <= c /\ c <= maxLen := by
 rcases h.2 with ⟨rfl, h0⟩ | ⟨g, cap, cur, rfl, _, _, h1, h2, _⟩
 ·exact ⟨none, 0, by rw [h0], by omega, by simp [maxLen]⟩
 ·exact ⟨_, cap, rfl, h1, h2⟩
theorem Made.rd {w : World} {base n c : Nat} {A : Option Addr} {l : List UInt8} (h : Made w base (.slice A n c) l) : Rd w w.heap.size A n l := by
 rcases h.2 with ⟨hv, h0⟩ | ⟨g, cap, cur, hv, _, hg, _, _, _, ht⟩
 ·have hl : l = [] := List.eq_nil_of_length_eq_zero h0;subst hl;injection hv with h1 h2 h3;subst h2;exact Rd.nil _ _ _
 ·injection hv with h1 h2 h3;subst h1 h2 h3;refine ⟨rfl, fun k hk => ⟨g, 0, rfl, (Array.getElem?_eq_some_iff.1 hg).1, ?_⟩⟩;rw [cell_of_row w g (0 + k) cur 5 (0, 0) hg];have h2 : (cur.toList.take (l.length * 1))[k]? = (l.map fun u => Value.int .u8 (u.toNat : Int))[k]? := by rw [ht]
  rw [List.getElem?_take_of_lt (by omega), List.getElem?_map, List.getElem?_eq_getElem hk] at h2;rw [fW hk, Nat.zero_add]
  simpa using h2
theorem Made.below {w w' : World} {base : Nat} {v : Value} {l : List UInt8} (h : Made w base v l) (hb : Below w.heap.size w w') : Made w' base v l := by
 refine ⟨h.1, ?_⟩;rcases h.2 with hn | ⟨g, cap, cur, rfl, hbg, hg, rest⟩
 ·exact .inl hn
 ·exact .inr ⟨g, cap, cur, rfl, hbg, by rw [hb.block g (Array.getElem?_eq_some_iff.1 hg).1]; exact hg, rest⟩
theorem Made.own {w : World} {base n : Nat} {v : Value} {l : List UInt8} (h : Made w base v l) (hn : l.length = n) : w.ownsRow base 5 1 v n (l.map fun u => .int .u8 (u.toNat : Int)) := by
 subst hn; exact h
theorem Made.abj {w : World} {base n : Nat} {v : Value} {l : List UInt8} (h : w.ownsRow base 5 1 v n (l.map fun u => .int .u8 (u.toNat : Int))) : Made w base v l := by
 have hn : l.length = n := by have := h.1; simpa using this
 subst hn; exact h
theorem Made.push {w0 wr w' : World} {B n : Nat} {v v' : Value} {l : List UInt8} {u : UInt8} {x : Int} {o : Obj} (hm : Made wr B v l) (hbl : Below B w0 wr) (hsz : B <= wr.heap.size) (hx : x = (u.toNat : Int))
  (hown : w'.ownsRow B 5 1 v' n ((l.map fun u => .int .u8 (u.toNat : Int)) ++ [.int .u8 x])) (hg : (wr.alloc o).grownBy w' v.ownBlock) : Made w' B v' (l ++ [u]) /\ Below B w0 w' := by
 subst hx;refine ⟨Made.abj (n := n) ?_, ((hbl.alloc hsz o).grown hg (by simp; omega) fun k hk => ?_)⟩
 ·rw [List.map_append]; exact hown
 ·exact (hm.lt k hk).1
theorem Made.base {w : World} {b b' : Nat} {v : Value} {l : List UInt8} (h : Made w b v l) (hb : b' <= b) : Made w b' v l := by
 refine ⟨h.1, ?_⟩;rcases h.2 with hn | ⟨g, cap, cur, rfl, hbg, rest⟩
 ·exact .inl hn
 ·exact .inr ⟨g, cap, cur, rfl, ap hb hbg, rest⟩
theorem Made.open_ {w : World} {base n : Nat} {v : Value} {l : List UInt8} (h : Made w base v l) (hn : l.length = n) : ∃ A c, v = .slice A n c /\ Rd w w.heap.size A n l /\ n <= c /\ c <= maxLen := by
 subst hn;obtain ⟨A, c, rfl, h1, h2⟩ := h.form;exact ⟨A, c, rfl, h.rd, h1, h2⟩
def upd (f : Nat -> Int) (i : Nat) (x : Int) : Nat -> Int := fun j => if j = i then x else f j
theorem xp (f : Nat -> Int) (i : Nat) (x : Int) : upd f i x i = x := by unfold upd; rw [if_pos rfl]
theorem s9 (f : Nat -> Int) {i j : Nat} (x : Int) (h : j ≠ i) : upd f i x j = f j := by unfold upd; rw [if_neg h]
theorem yl {w : World} {g c i : Nat} {f : Nat -> Int} {e : TypeId} (h : w.rowIs g e c (fun j => .int .u8 (f j))) (x : Int) : (w.setCell ⟨g, i, none⟩ (.int .u8 x)).rowIs g e c (fun j => .int .u8 (upd f i x j)) :=
 (h.set i _).congr fun j _ => by
  unfold upd
  split
  ·rfl
  ·rfl
def Own (w : World) (base : Nat) (v : Value) (l : List UInt8) : Prop :=
 ∃ (g c : Nat) (f : Nat -> Int), v = .slice (some ⟨g, 0, none⟩) l.length c /\ base <= g /\ w.rowIs g 5 c (fun j => .int .u8 (f j)) /\ l.length <= c /\ c <= maxLen /\ (∀ j, j < l.length -> f j = bt l j) /\ ∀ j, 0 <= f j /\ f j <= 255
theorem Own.made {w : World} {base : Nat} {v : Value} {l : List UInt8} (h : Own w base v l) : Made w base v l := by
 obtain ⟨g, c, f, rfl, hb, ⟨cur, hg, hn, hc⟩, h1, h2, hf, _⟩ := h;refine ⟨by simp, .inr ⟨g, c, cur, rfl, hb, hg, h1, h2, by simpa using hn, ?_⟩⟩;apply List.ext_getElem?;intro k;by_cases hk : k < l.length
 ·rw [List.getElem?_take_of_lt (by omega), List.getElem?_map, List.getElem?_eq_getElem hk, Array.getElem?_toList, hc k (by omega)]
  show some (Value.int .u8 (f k)) = _
  rw [hf k hk, fW hk]
  rfl
 ·rw [List.getElem?_eq_none (by simp; omega), List.getElem?_eq_none (by simp; omega)]
theorem Own.ahy {w : World} {base g c : Nat} {f : Nat -> Int} {l : List UInt8} {n : Nat} (hn : l.length = n) (hb : base <= g) (h : w.rowIs g 5 c (fun j => .int .u8 (f j))) (h1 : n <= c) (h2 : c <= maxLen)
  (hf : ∀ j, j < n -> f j = bt l j) (hr : ∀ j, 0 <= f j /\ f j <= 255) : Own w base (.slice (some ⟨g, 0, none⟩) n c) l := by
 subst hn;exact ⟨g, c, f, rfl, hb, h, h1, h2, hf, hr⟩
open Go.RowKit Go.ChangeShapes Go.WideShapes Go.ChangeAt
theorem ajR : ownKnob prog.godebug = none := by kernel_rfl
theorem ajo : laidOutB prog = true := by kernel_rfl
theorem agl : prog.cellsOf 5 = 1 := by kernel_rfl
def val (w : Nat) : List UInt8 -> Nat
 |[] => 0
 |u :: r => u.toNat + 2 ^ w * val w r
def bw (w n V : Nat) : List UInt8 := (List.range n).map fun j => UInt8.ofNat (V / 2 ^ (w * j) % 2 ^ w)
theorem aL (w n V : Nat) : (bw w n V).length = n := by simp [bw]
theorem pZ {w : Nat} (hw : w <= 8) (x : Nat) : x % 2 ^ w < 256 := by
 have h1 : x % 2 ^ w < 2 ^ w := Nat.mod_lt _ (Nat.pow_pos (by omega));have h2 : 2 ^ w <= 2 ^ 8 := Nat.pow_le_pow_right (by omega) hw;omega
theorem sY {w n V j : Nat} (hw : w <= 8) (h : j < (bw w n V).length) : ((bw w n V)[j]).toNat = V / 2 ^ (w * j) % 2 ^ w := by
 simp only [bw, List.getElem_map, List.getElem_range, UInt8.toNat_ofNat'];exact Nat.mod_eq_of_lt (pZ hw _)
theorem ll (w n V : Nat) : bw w (n + 1) V = UInt8.ofNat (V % 2 ^ w) :: bw w n (V / 2 ^ w) := by
 simp only [bw, List.range_succ_eq_map, List.map_cons, List.map_map]
 congr 1
 ·simp
 ·apply List.map_congr_left;intro j _;simp only [Function.comp];rw [Nat.div_div_eq_div_mul, <- Nat.pow_add]
  congr 3
  rw [Nat.mul_succ, Nat.add_comm]
theorem z5 (w n V : Nat) : bw w (n + 1) V = bw w n V ++ [UInt8.ofNat (V / 2 ^ (w * n) % 2 ^ w)] := by
 simp [bw, List.range_succ]
theorem adU {w : Nat} (hw : w <= 8) (n V : Nat) : val w (bw w n V) = V % 2 ^ (w * n) := by
 induction n generalizing V with
 |zero => simp [bw, val, Nat.mod_one]
 |succ n ih =>
  rw [ll, val, ih, UInt8.toNat_ofNat', Nat.mod_eq_of_lt (pZ hw _), Nat.mul_succ, Nat.add_comm (w * n) w, Nat.pow_add, Nat.mod_mul]
theorem acn {w : Nat} {l : List UInt8} (h : ∀ u ∈ l, u.toNat < 2 ^ w) : val w l < 2 ^ (w * l.length) := by
 induction l with
 |nil => simp [val]
 |cons u r ih =>
  have h1 := ih fun x hx => h x (List.mem_cons_of_mem _ hx)
  have h2 := h u List.mem_cons_self;rw [val, List.length_cons, Nat.mul_succ, Nat.add_comm (w * r.length) w, Nat.pow_add];have h3 : 2 ^ w * (val w r + 1) <= 2 ^ w * 2 ^ (w * r.length) := Nat.mul_le_mul_left _ h1;rw [Nat.mul_succ] at h3;omega
theorem aeD (w : Nat) (u : UInt8) : val w [u] = u.toNat := by rw [val, val, Nat.mul_zero, Nat.add_zero]
theorem val_append (w : Nat) (a b : List UInt8) : val w (a ++ b) = val w a + 2 ^ (w * a.length) * val w b := by
 induction a with
 |nil => simp [val]
 |cons u r ih =>
  rw [List.cons_append, val, val, ih, List.length_cons, Nat.mul_succ, Nat.add_comm (w * r.length) w, Nat.pow_add, Nat.mul_add, Nat.mul_assoc, Nat.add_assoc]
theorem zi {w : Nat} {l : List UInt8} (h : ∀ u ∈ l, u.toNat < 2 ^ w) (j : Nat) : val w l / 2 ^ (w * j) % 2 ^ w = (l.getD j 0).toNat := by
 induction l generalizing j with
 |nil => simp [val]
 |cons u r ih =>
  have h2 := h u List.mem_cons_self;have h0 : 0 < 2 ^ w := Nat.pow_pos (by omega);cases j with
  |zero =>
   rw [val, Nat.mul_zero, Nat.pow_zero, Nat.div_one, Nat.add_mul_mod_self_left, Nat.mod_eq_of_lt h2]
   rfl
  |succ j =>
   rw [val, Nat.mul_succ, Nat.add_comm (w * j) w, Nat.pow_add, <- Nat.div_div_eq_div_mul, Nat.add_mul_div_left _ _ h0, Nat.div_eq_of_lt h2, Nat.zero_add, ih fun x hx => h x (List.mem_cons_of_mem _ hx)];simp
theorem p9 {w : Nat} {l : List UInt8} (h : ∀ u ∈ l, u.toNat < 2 ^ w) : bw w l.length (val w l) = l := by
 apply List.ext_getElem (aL _ _ _);intro j h1 h2;simp only [bw, List.getElem_map, List.getElem_range];rw [zi h];simp [List.getD, List.getElem?_eq_getElem h2]
theorem mw (l : List UInt8) : ∀ u ∈ l, u.toNat < 2 ^ 8 := fun u _ => UInt8.toNat_lt u
theorem sy : (prog.info? 5).map (fun i => (i.zero, i.size, i.bytes)) = some (some (.int .u8 0), 1, 1) := by kernel_rfl
theorem ahr (w : World) (l : List UInt8) (cs : Array Value) (h : cs.toList = l.map fun u => Value.int .u8 (u.toNat : Int)) : Rd (w.alloc (.cells cs 5)) (w.heap.size + 1) (some ⟨w.heap.size, 0, none⟩) l.length l := by
 refine ⟨rfl, fun k hk => ⟨w.heap.size, 0, rfl, by omega, ?_⟩⟩;rw [cell_of_row (w.alloc (.cells cs 5)) w.heap.size (0 + k) cs 5 (0, 0) (heap_alloc_new w _), Nat.zero_add, <- Array.getElem?_toList, h, List.getElem?_map, List.getElem?_eq_getElem hk, fW hk]
 rfl
def stp (r : Nat) : Nat := if r % 2 = 1 then r / 2 ^^^ 2197175160 else r / 2
def steps : Nat -> Nat -> Nat
 |0, r => r
 |n + 1, r => steps n (stp r)
def tak (r c : Nat) : Nat := steps 8 (r ^^^ c)
def run (r : Nat) (l : List UInt8) : Nat := l.foldl (fun r u => tak r u.toNat) r
def agn (m r : Nat) : Nat := m ^^^ r
def neg (r : Nat) : Nat := agn 4294967295 r
def more (s : Nat) (l : List UInt8) : Nat := neg (run (neg s) l)
def tab (i : Nat) : Nat := [0, 274646895, 549293790, 820201905, 1098587580, 1361435347, 1640403810, 1905808397, 2197175160, 2460548119, 2722870694, 2987750089, 3280807620, 3553878443, 3811616794, 4084100981].getD i 0
def hlf (r : Nat) : Nat := r / 16 ^^^ tab (r % 16)
theorem qJ {a b : Nat} (ha : a < 4294967296) (hb : b < 4294967296) : a ^^^ b < 4294967296 := Nat.xor_lt_two_pow (n := 32) ha hb
theorem ag3 {r : Nat} (h : r < 4294967296) : stp r < 4294967296 := by
 unfold stp
 split
 ·exact qJ (by omega) (by omega)
 ·omega
theorem qv (n : Nat) {r : Nat} (h : r < 4294967296) : steps n r < 4294967296 := by
 induction n generalizing r with
 |zero => exact h
 |succ n ih => exact ih (ag3 h)
theorem aix {r c : Nat} (h : r < 4294967296) (hc : c < 256) : tak r c < 4294967296 := qv 8 (qJ h (by omega))
theorem qh {r : Nat} (h : r < 4294967296) (l : List UInt8) : run r l < 4294967296 := by
 induction l generalizing r with
 |nil => exact h
 |cons u l ih => exact ih (aix h (UInt8.toNat_lt u))
theorem s6 {r : Nat} (h : r < 4294967296) : neg r < 4294967296 := qJ (by omega) h
theorem oW {s : Nat} (h : s < 4294967296) (l : List UInt8) : more s l < 4294967296 := s6 (qh (s6 h) l)
theorem aaR (m r : Nat) : agn m (agn m r) = r := by
 unfold agn;rw [<- Nat.xor_assoc, Nat.xor_self, Nat.zero_xor]
theorem af5 (r : Nat) : neg (neg r) = r := aaR 4294967295 r
theorem pY (r : Nat) (a b : List UInt8) : run r (a ++ b) = run (run r a) b := by unfold run; rw [List.foldl_append]
theorem uA (s : Nat) (a b : List UInt8) : more s (a ++ b) = more (more s a) b := by
 unfold more;rw [af5, pY]
theorem adD (a b : Nat) : (a ^^^ b) / 2 = a / 2 ^^^ b / 2 := by
 have h : (a ^^^ b) >>> 1 = a >>> 1 ^^^ b >>> 1 := Nat.shiftRight_xor_distrib
 simpa [Nat.shiftRight_succ] using h
theorem aeU (a b : Nat) : (a ^^^ b) % 2 = 1 ↔ ¬ (a % 2 = 1 ↔ b % 2 = 1) := by
 have h : ((a ^^^ b) % 2 ^ 1) = (a % 2 ^ 1) ^^^ (b % 2 ^ 1) := Nat.xor_mod_two_pow;rw [show (2 : Nat) ^ 1 = 2 from rfl] at h;rw [h];rcases Nat.mod_two_eq_zero_or_one a with ha | ha <;> rcases Nat.mod_two_eq_zero_or_one b with hb | hb <;> rw [ha, hb] <;> decide
theorem akn (a b c d : Nat) : (a ^^^ b) ^^^ (c ^^^ d) = (a ^^^ c) ^^^ (b ^^^ d) := by
 rw [Nat.xor_assoc, <- Nat.xor_assoc b c d, Nat.xor_comm b c, Nat.xor_assoc c b d, <- Nat.xor_assoc]
theorem aeH (a b : Nat) : stp (a ^^^ b) = stp a ^^^ stp b := by
 unfold stp;rw [adD];have hl := aeU a b;by_cases ha : a % 2 = 1 <;> by_cases hb : b % 2 = 1
 ·rw [if_neg (by rw [hl]; simp [ha, hb]), if_pos ha, if_pos hb, akn, Nat.xor_self, Nat.xor_zero]
 ·rw [if_pos (by rw [hl]; simp [ha, hb]), if_pos ha, if_neg hb, Nat.xor_assoc, Nat.xor_comm (b / 2), <- Nat.xor_assoc]
 ·rw [if_pos (by rw [hl]; simp [ha, hb]), if_neg ha, if_pos hb, Nat.xor_assoc]
 ·rw [if_neg (by rw [hl]; simp [ha, hb]), if_neg ha, if_neg hb]
theorem z7 (n a b : Nat) : steps n (a ^^^ b) = steps n a ^^^ steps n b := by
 induction n generalizing a b with
 |zero => rfl
 |succ n ih => rw [steps, aeH, ih]; rfl
theorem rQ (m n r : Nat) : steps (m + n) r = steps n (steps m r) := by
 induction m generalizing r with
 |zero => rw [Nat.zero_add]; rfl
 |succ m ih => rw [Nat.succ_add, steps, ih]; rfl
theorem wY (x : Nat) : stp (2 * x) = x := by
 unfold stp;rw [if_neg (by omega)];omega
theorem uw (n x : Nat) : steps n (2 ^ n * x) = x := by
 induction n with
 |zero => simp [steps]
 |succ n ih => rw [steps, Nat.pow_succ, Nat.mul_comm (2 ^ n) 2, Nat.mul_assoc, wY, ih]
theorem za {n t : Nat} (q : Nat) (h : t < 2 ^ n) : 2 ^ n * q ^^^ t = 2 ^ n * q + t := by
 apply Nat.eq_of_testBit_eq;intro i;rw [Nat.testBit_xor, Nat.testBit_two_pow_mul_add q h, Nat.testBit_two_pow_mul];by_cases hi : i < n
 ·simp [hi, Nat.not_le.2 hi]
 ·have : t.testBit i = false := Nat.testBit_lt_two_pow (aq h (Nat.pow_le_pow_right (by omega) (by omega)));simp [hi, this, Nat.le_of_not_lt hi]
theorem nH (r : Nat) : hlf r = steps 4 r := by
 have e : r = 2 ^ 4 * (r / 16) ^^^ r % 16 := by
  rw [za (n := 4) _ (by omega)];omega
 have h : ∀ t, t < 16 -> tab t = steps 4 t := by decide
 conv => rhs; rw [e, z7, uw]
 unfold hlf;rw [h _ (by omega)]
theorem afE (r c : Nat) : hlf (hlf (r ^^^ c)) = tak r c := by
 rw [nH, nH, <- rQ]
 rfl
set_option linter.unusedVariables false
def Tab (w : World) : Prop := ∀ i, i < 16 -> w.cell? ⟨2, i, none⟩ = some (.int .u32 (tab i : Int))
theorem Tab.below {w w' : World} (h : Tab w) (hb : Below w.heap.size w w') : Tab w' := fun i hi => by
 rw [hb.cell (p := ⟨2, i, none⟩) (World.block_lt_of_cell? w _ (h i hi))];exact h i hi
theorem aiq (i : Nat) : tab i < 4294967296 := by
 by_cases h : i < 16
 ·have : ∀ i, i < 16 -> tab i < 4294967296 := by decide
  exact this i h
 ·unfold tab;rw [List.getD, List.getElem?_eq_none (by simp; omega)];simp
theorem aiE {r : Nat} (h : r < 4294967296) : hlf r < 4294967296 := by
 rw [nH];exact qv 4 h
theorem agr (r : Nat) (h : r < 4294967296) : bits .and .u32 (r : Int) 15 = ((r % 16 : Nat) : Int) := by
 have h2 := u32_and_nat r 15 h (by omega);have h3 : r &&& 15 = r % 16 := Nat.and_two_pow_sub_one_eq_mod r 4;rw [h3] at h2;exact h2
theorem uh (r : Nat) (w : World) (T : Tab w) (hr : r < 4294967296) :
  Calls prog 191 #[.int .u32 r] w fun e w' => e = .returned (.int .u32 (hlf r)) /\ w = w' := by
 have hl := agr r hr;have ht := T (r % 16) (by omega);have hlo : r % 16 < 16 := by omega
 go_enter func191, ntmps191;go_wp2;go_ret;have e : ((r : Int) / 16) = ((r / 16 : Nat) : Int) := by omega
 refine ⟨br ?_, rfl⟩;rw [e, u32_xor_nat _ _ (by omega) (aiq _)]
 rfl
theorem abi (r c : Nat) (w : World) (T : Tab w) (hr : r < 4294967296) (hc : c < 256) :
  Calls prog 177 #[.int .u32 r, .int .u8 c] w fun e w' => e = .returned (.int .u32 (tak r c)) /\ w = w' := by
 have hx := u32_xor_nat r c hr (by omega);have hlt : r ^^^ c < 4294967296 := qJ hr (by omega);have hlt2 : hlf (r ^^^ c) < 4294967296 := aiE hlt;have HT : Hid (hlf (hlf (r ^^^ c)) = tak r c) := af (afE r c);go_enter func177, ntmps177;go_wp2_with fail;refine (uh (r ^^^ c) _ T hlt).mono ?_;rintro e w' ⟨rfl, rfl⟩;go_wp2_with fail;refine (uh (hlf (r ^^^ c)) _ T hlt2).mono ?_;rintro e w' ⟨rfl, rfl⟩;go_wp2;go_ret;exact ⟨br (by rw [HT.out]), rfl⟩
theorem tW (r : Nat) (w : World) (hr : r < 4294967296) :
  Calls prog 193 #[.int .u32 r] w fun e w' => e = .returned (.int .u32 (stp r)) /\ w = w' := by
 have e : ((r : Int) / 2) = ((r / 2 : Nat) : Int) := by omega
 have hx := u32_xor_nat (r / 2) 2197175160 (by omega) (by omega);have HX := af hx;have HE := af e;clear e hx;by_cases h : r % 2 = 1
 ·have hs : stp r = r / 2 ^^^ 2197175160 := by unfold stp; rw [if_pos h]
  have HS := af hs;have hb : ((r : Int) % 2 == 1) = true := by simp; omega
  clear h hs;go_enter func193, ntmps193;go_wp2;go_ret;exact ⟨br (by rw [HS.out, HE.out]; exact HX), rfl⟩
 ·have hs : stp r = r / 2 := by unfold stp; rw [if_neg h]
  have HS := af hs;have hb : ((r : Int) % 2 == 1) = false := by simp; omega
  clear h hs;go_enter func193, ntmps193;go_wp2;go_ret;exact ⟨br (by rw [HS.out, HE.out]), rfl⟩
theorem xT (n r : Nat) : steps (n + 1) r = stp (steps n r) := by rw [rQ]; rfl
theorem uB (r c : Nat) (w : World) (hr : r < 4294967296) (hc : c < 256) :
  Calls prog 181 #[.int .u32 r, .int .u8 c] w fun e w' => e = .returned (.int .u32 (tak r c)) /\ w = w' := by
 have hx := u32_xor_nat r c hr (by omega);have hlt : r ^^^ c < 4294967296 := qJ hr (by omega);go_enter func181, ntmps181;go_wp2;have HX := af hx;clear hx
 go_loop [0, 5] (fun x i => ∃ j : Nat, j <= 8 /\ i = .int .i64 j /\ x = .int .u32 (steps j (r ^^^ c))) (fun _ i => 8 - (intOf i).toNat)
 case atStart => exact ⟨0, by omega, rfl, by first | rfl | rw [HX.out]; rfl⟩
 case round =>
  obtain ⟨j, hj, rfl, rfl⟩ := hrel;have hl2 := qv j hlt;by_cases h8 : j < 8
  ·go_wp2_with fail;refine (tW (steps j (r ^^^ c)) _ hl2).mono ?_;rintro e w' ⟨rfl, rfl⟩;go_wp2
   go_round
   case rel => exact ⟨j + 1, by omega, by go_num, by rw [xT]⟩
   case measure => simp [intOf]; omega
  ·have h : j = 8 := by omega
   subst h;go_wp2;go_ret;exact ⟨rfl, rfl⟩
theorem ajj : prog.globalNamed "ashlar/crc.halves" = some 2 := by kernel_rfl
theorem abC : (prog.globals[2]?).map (·.type) = some 208 := by kernel_rfl
theorem ad9 : prog.cellsOf 208 = 16 := by kernel_rfl
theorem adJ : prog.cellsOf 105 = 1 := by kernel_rfl
def oZ : List Int := [0, 274646895, 549293790, 820201905, 1098587580, 1361435347, 1640403810, 1905808397, 2197175160, 2460548119, 2722870694, 2987750089, 3280807620, 3553878443, 3811616794, 4084100981]
theorem agP {W : World} {l : List (String × DataW Unit)} (hl : laidMetH prog l W) (hf : l.filter (fun x => x.1 == "ashlar/crc.halves") = [("ashlar/crc.halves", Rows.laid_ashlar_crc_halves)] := by kernel_rfl) : Tab W := by
 have h := laidMetH.filter (fun x => x.1 == "ashlar/crc.halves") hl;rw [hf] at h;have h1 : Lib.TabIs prog W "ashlar/crc.halves" .u32 oZ :=
  Lib.tabIs_of_head (rest := []) ajj abC underlying208 underlying105 adJ ad9 h
 intro i hi;rw [h1.cell ajj i (by simpa [oZ] using hi)];have : ∀ i, i < 16 -> oZ.getD i 0 = (tab i : Int) := by decide
 rw [this i hi]
theorem ajw : prog.globalNamed "ashlar/mark.sizes" = some 1 := by kernel_rfl
theorem ab9 : (prog.globals[1]?).map (·.type) = some 201 := by kernel_rfl
theorem acU : prog.cellsOf 201 = 4 := by kernel_rfl
theorem aae : prog.cellsOf 3 = 1 := by kernel_rfl
def mu : List Int := [8, 2, 8, 8]
theorem agB {W : World} {l : List (String × DataW Unit)} (hl : laidMetH prog l W) (hf : l.filter (fun x => x.1 == "ashlar/mark.sizes") = [("ashlar/mark.sizes", Rows.laid_ashlar_mark_sizes)] := by kernel_rfl) : W.rangeAt 1 0 (mu.map fun z => Value.int .i64 z) := by
 have h := laidMetH.filter (fun x => x.1 == "ashlar/mark.sizes") hl;rw [hf] at h;have h1 : Lib.TabIs prog W "ashlar/mark.sizes" .i64 mu :=
  Lib.tabIs_of_head (rest := []) ajw ab9 underlying201 underlying3 aae acU h
 intro i v hv;have hi : i < 4 := by simpa [mu] using (List.getElem?_eq_some_iff.1 hv).1
 rw [Nat.zero_add, h1.cell ajw i (by simpa [mu] using hi), <- hv]
 match i, hi with
 |0, _ => rfl
 |1, _ => rfl
 |2, _ => rfl
 |3, _ => rfl
theorem agU : prog.globalNamed "ashlar/note.sizes" = some 0 := by kernel_rfl
theorem y9 : (prog.globals[0]?).map (·.type) = some 198 := by kernel_rfl
theorem zW : prog.cellsOf 198 = 3 := by kernel_rfl
theorem xI : prog.cellsOf 3 = 1 := by kernel_rfl
def kG : List Int := [8, 2, 4]
theorem agm {W : World} {l : List (String × DataW Unit)} (hl : laidMetH prog l W) (hf : l.filter (fun x => x.1 == "ashlar/note.sizes") = [("ashlar/note.sizes", Rows.laid_ashlar_note_sizes)] := by kernel_rfl) : W.rangeAt 0 0 (kG.map fun z => Value.int .i64 z) := by
 have h := laidMetH.filter (fun x => x.1 == "ashlar/note.sizes") hl;rw [hf] at h;have h1 : Lib.TabIs prog W "ashlar/note.sizes" .i64 kG :=
  Lib.tabIs_of_head (rest := []) agU y9 underlying198 underlying3 xI zW h
 intro i v hv;have hi : i < 3 := by simpa [kG] using (List.getElem?_eq_some_iff.1 hv).1
 rw [Nat.zero_add, h1.cell agU i (by simpa [kG] using hi), <- hv]
 match i, hi with
 |0, _ => rfl
 |1, _ => rfl
 |2, _ => rfl
def xy (w : World) (g : Nat) (cs : Array Value) : World :=
 { w with heap := w.heap.modify g fun
   |.cells _ t frozen => .cells cs t frozen
   |o => o }
noncomputable def ajz (w : World) : World := xy w 1 (mu.map fun z => Value.int .i64 z).toArray
noncomputable def aiV (w : World) : World := xy w 0 (kG.map fun z => Value.int .i64 z).toArray
noncomputable def aiU (os : Os) : World :=
 aiV (ajz (xy (World.holding prog os ⟨#[], #[], []⟩) 2 (oZ.map fun z => Value.int .u32 z).toArray))
section
variable {ρ : Operand -> Value} {o : Oper} {x y : Operand} {w : World} {t r : TypeId} {i : Nat} {p q : Value}
theorem fj (ho : o.op = .move x) : (execOp ρ o).run prog w = .ok (.value (ρ x)) w := by
 unfold execOp;simp only [ho, Sem.run_pure]
theorem tF (ho : o.op = .assign x) : (execOp ρ o).run prog w = .ok (.value (ρ x)) w := by
 unfold execOp;simp only [ho, Sem.run_pure]
theorem aag {f : FuncId} {args : List Operand} {ats : Array TypeId} {a : Act} (hf : ∀ args w, (callFunc f args).run prog w = .ok (.enter f args) w) (ho : o.op = .call { callee := .value (.func f), args := args.toArray, argTypes := ats }) :
  (execOp a.eval o).run prog w = .ok (.enter f (args.map a.eval).toArray) w := by
 unfold execOp;simp [ho, resolve, Deferred.ofValue, Act.eval, invoke, hf]
theorem av (ho : o.op = .fieldAddr t x i) (hx : ρ x = p) (h : (Instr.fieldAt t p i).run prog w = .ok q w) : (execOp ρ o).run prog w = .ok (.value q) w := by
 unfold execOp;simp only [ho, hx, Sem.run_bind, h, Result.andThen_ok, Sem.run_pure]
theorem aA (ho : o.op = .load t x) (hx : ρ x = p) (h : (Instr.loadAt t p).run prog w = .ok q w) : (execOp ρ o).run prog w = .ok (.value q) w := by
 unfold execOp;simp only [ho, hx, Sem.run_bind, h, Result.andThen_ok, Sem.run_pure]
theorem dH (ho : o.op = .indexAddr t x y) {u : Value} (hx : ρ x = p) (hy : ρ y = u) (h : (Instr.indexAt t p u).run prog w = .ok q w) : (execOp ρ o).run prog w = .ok (.value q) w := by
 unfold execOp;simp only [ho, hx, hy, Sem.run_bind, h, Result.andThen_ok, Sem.run_pure]
theorem aM {b off : Nat} (ho : o.op = .nilCheck x) (hx : ρ x = .pointer (some ⟨b, off, none⟩)) : (execOp ρ o).run prog w = .ok (.value (.pointer (some ⟨b, off, none⟩))) w := by
 unfold execOp;simp only [ho, hx, Sem.run_pure]
theorem dU {u : Value} {w' : World} (ho : o.op = .store t x y) (hx : ρ x = p) (hy : ρ y = u) (h : (Instr.storeAt t p u).run prog w = .ok () w') : (execOp ρ o).run prog w = .ok .skip w' := by
 unfold execOp;simp only [ho, hx, hy, Sem.run_bind, h, Result.andThen_ok, Sem.run_pure]
theorem cQ {a b c : Int} (ho : o.op = .binOp .add t x y r) (hx : ρ x = .int .i64 a) (hy : ρ y = .int .i64 b) (h : IntKind.i64.wrap (a + b) = c) : (execOp ρ o).run prog w = .ok (.value (.int .i64 c)) w := by
 unfold execOp;simp [ho, hx, hy, eqGuard, binOp, Op.intArith, h]
theorem m6 {a b c : Int} (ho : o.op = .binOp .sub t x y r) (hx : ρ x = .int .i64 a) (hy : ρ y = .int .i64 b) (h : IntKind.i64.wrap (a - b) = c) : (execOp ρ o).run prog w = .ok (.value (.int .i64 c)) w := by
 unfold execOp;simp [ho, hx, hy, eqGuard, binOp, Op.intArith, h]
theorem gW {a b c : Int} (ho : o.op = .binOp .mul t x y r) (hx : ρ x = .int .i64 a) (hy : ρ y = .int .i64 b) (h : IntKind.i64.wrap (a * b) = c) : (execOp ρ o).run prog w = .ok (.value (.int .i64 c)) w := by
 unfold execOp;simp [ho, hx, hy, eqGuard, binOp, Op.intArith, h]
theorem uC {a b c : Int} (ho : o.op = .binOp .quo t x y r) (hx : ρ x = .int .i64 a) (hy : ρ y = .int .i64 b) (h0 : b ≠ 0) (h : IntKind.i64.wrap (a.tdiv b) = c) : (execOp ρ o).run prog w = .ok (.value (.int .i64 c)) w := by
 unfold execOp;simp [ho, hx, hy, eqGuard, binOp, Op.intDiv, h, h0]
theorem tt {a b c : Int} (ho : o.op = .binOp .rem t x y r) (hx : ρ x = .int .i64 a) (hy : ρ y = .int .i64 b) (h0 : b ≠ 0) (h : a.tmod b = c) : (execOp ρ o).run prog w = .ok (.value (.int .i64 c)) w := by
 unfold execOp;simp [ho, hx, hy, eqGuard, binOp, Op.intDiv, h, h0]
end
section
variable {P : Program} {ops : Array Oper} {rest : List Oper} {o : Oper} {a : Act} {w w' : World} {Q : Exit -> Act -> World -> Prop} {v : Value}
theorem ax (hw : Region.wanted o (yielded ops a.tmps) = true) (h : (execOp a.eval o).run P w = .ok (.value v) w') (hr : wpList P ops Q rest (a.put o.dst v) w') : wpList P ops Q (o :: rest) a w := by
 refine wpList_step fun K hK => ?_
 rw [if_pos hw];unfold Oper.wp;rw [h];exact hK _ _ hr
theorem ak8 {l0 l1 : List Value} {ds0 : List Deferred} {i0 : Nat} (h : (execOp (Act.mk l0.toArray ds0).eval o).run P w = .ok (.value v) w') (hk : wpList P ops Q rest ⟨l1.toArray, ds0⟩ w') (hd : o.dst = some i0 := by exact rfl) (hl : l0.set i0 v = l1 := by simp only [ai] <;> rfl) (hw : Region.wanted o (yielded ops l0.toArray) = true := by exact akW) : wpList P ops Q (o :: rest) ⟨l0.toArray, ds0⟩ w := ax hw h (by have e : Act.put (Act.mk l0.toArray ds0) o.dst v = ⟨l1.toArray, ds0⟩ := (by rw [hd, <- hl]; show Act.mk (l0.toArray.setIfInBounds i0 v) ds0 = _; rw [List.setIfInBounds_toArray]); rw [e]; exact hk)
theorem ak2 {l0 l1 : List Value} {ds0 : List Deferred} {i0 : Nat} (hw : Region.wanted o (yielded ops l0.toArray) = true) (h : (execOp (Act.mk l0.toArray ds0).eval o).run P w = .ok (.value v) w') (hk : wpList P ops Q rest ⟨l1.toArray, ds0⟩ w') (hd : o.dst = some i0 := by exact rfl) (hl : l0.set i0 v = l1 := by simp only [ai] <;> rfl) : wpList P ops Q (o :: rest) ⟨l0.toArray, ds0⟩ w := ax hw h (by have e : Act.put (Act.mk l0.toArray ds0) o.dst v = ⟨l1.toArray, ds0⟩ := (by rw [hd, <- hl]; show Act.mk (l0.toArray.setIfInBounds i0 v) ds0 = _; rw [List.setIfInBounds_toArray]); rw [e]; exact hk)
theorem aW (hw : Region.wanted o (yielded ops a.tmps) = true) (h : (execOp a.eval o).run P w = .ok .skip w') (hr : wpList P ops Q rest (a.put o.dst undef) w') : wpList P ops Q (o :: rest) a w := by
 refine wpList_step fun K hK => ?_
 rw [if_pos hw];unfold Oper.wp;rw [h];exact hK _ _ hr
end
section
variable {P : Program} {ops : Array Oper} {rest : List Oper} {o : Oper} {a : Act} {w w' : World} {Q : Exit -> Act -> World -> Prop} {v : Value}
theorem au (hg : o.guard = none) (h : (execOp a.eval o).run P w = .ok (.value v) w') (hr : wpList P ops Q rest (a.put o.dst v) w') : wpList P ops Q (o :: rest) a w := ax (by unfold Region.wanted; rw [hg]) h hr
theorem ak1 {l0 l1 : List Value} {ds0 : List Deferred} {i0 : Nat} (h : (execOp (Act.mk l0.toArray ds0).eval o).run P w = .ok (.value v) w') (hk : wpList P ops Q rest ⟨l1.toArray, ds0⟩ w') (hd : o.dst = some i0 := by exact rfl) (hl : l0.set i0 v = l1 := by simp only [ai] <;> rfl) (hg : o.guard = none := by exact rfl) : wpList P ops Q (o :: rest) ⟨l0.toArray, ds0⟩ w := au hg h (by have e : Act.put (Act.mk l0.toArray ds0) o.dst v = ⟨l1.toArray, ds0⟩ := (by rw [hd, <- hl]; show Act.mk (l0.toArray.setIfInBounds i0 v) ds0 = _; rw [List.setIfInBounds_toArray]); rw [e]; exact hk)
theorem aH (hg : o.guard = none) (h : (execOp a.eval o).run P w = .ok .skip w') (hr : wpList P ops Q rest (a.put o.dst undef) w') : wpList P ops Q (o :: rest) a w := aW (by unfold Region.wanted; rw [hg]) h hr
theorem aD {f : FuncId} {vs : Array Value} (hw : Region.wanted o (yielded ops a.tmps) = true) (h : (execOp a.eval o).run P w = .ok (.enter f vs) w) (hc : Calls P f vs w fun e w' => ∃ v, e = .returned v /\ wpList P ops Q rest (a.put o.dst v) w') : wpList P ops Q (o :: rest) a w := by
 refine wpList_step fun K hK => ?_
 rw [if_pos hw];unfold Oper.wp;rw [h];exact hc.mono fun e w'' ⟨v, he, hk⟩ => by subst he; exact hK _ _ hk
end
theorem aZ {B : Nat} {id : Nat} {Q : Exit -> Act -> World -> Prop} {a : Act} {w : World} {l : List Oper} (hB : Region.lexB .any l.toArray = true)
  (h : wpQuiet prog l.toArray (Below B w) (fun a' => ∀ w', Below B w w' -> Q .normal a' w') l a) : (Code.region id l.toArray true).wp prog Q a w :=
 wp_region_quiet (C := Below B w) (by kernel_rfl) hB (bd (Below.refl B w)) (by simpa using h)
section
variable {P : Program} {ops : Array Oper} {C : World -> Prop} {Q : Act -> Prop} {a : Act} {o : Oper} {rest : List Oper} {v : Value}
theorem aey (hw : Region.wanted o (yielded ops a.tmps) = false) (h : wpQuiet P ops C Q rest (a.put o.dst undef)) : wpQuiet P ops C Q (o :: rest) a :=
 wpQuiet_step fun K hK => by rw [if_neg (by rw [hw]; exact Bool.false_ne_true)]; exact hK _ h
theorem aF (hw : Region.wanted o (yielded ops a.tmps) = true) (h : ∀ w, C w -> (execOp a.eval o).run P w = .ok (.value v) w) (hr : wpQuiet P ops C Q rest (a.put o.dst v)) : wpQuiet P ops C Q (o :: rest) a :=
 wpQuiet_step fun K hK => by
  rw [if_pos hw];exact ⟨v, fun w hC => by unfold Oper.quietAt; rw [h w hC]; exact ⟨rfl, rfl⟩, hK _ hr⟩
theorem ala {l0 l1 : List Value} {ds0 : List Deferred} {i0 : Nat} (h : ∀ w, C w -> (execOp (Act.mk l0.toArray ds0).eval o).run P w = .ok (.value v) w) (hk : wpQuiet P ops C Q rest ⟨l1.toArray, ds0⟩) (hd : o.dst = some i0 := by exact rfl) (hl : l0.set i0 v = l1 := by simp only [ai] <;> rfl) (hw : Region.wanted o (yielded ops l0.toArray) = true := by exact akW) : wpQuiet P ops C Q (o :: rest) ⟨l0.toArray, ds0⟩ := aF hw h (by have e : Act.put (Act.mk l0.toArray ds0) o.dst v = ⟨l1.toArray, ds0⟩ := (by rw [hd, <- hl]; show Act.mk (l0.toArray.setIfInBounds i0 v) ds0 = _; rw [List.setIfInBounds_toArray]); rw [e]; exact hk)
theorem ak9 {l0 l1 : List Value} {ds0 : List Deferred} {i0 : Nat} (h : ∀ w, C w -> (execOp (Act.mk l0.toArray ds0).eval o).run P w = .ok (.value v) w) (hk : wpQuiet P ops C Q rest ⟨l1.toArray, ds0⟩) (hd : o.dst = some i0 := by exact rfl) (hl : l0.set i0 v = l1 := by simp only [ai] <;> rfl) (hw : Region.wanted o (yielded ops l0.toArray) = true := by exact rfl) : wpQuiet P ops C Q (o :: rest) ⟨l0.toArray, ds0⟩ := aF hw h (by have e : Act.put (Act.mk l0.toArray ds0) o.dst v = ⟨l1.toArray, ds0⟩ := (by rw [hd, <- hl]; show Act.mk (l0.toArray.setIfInBounds i0 v) ds0 = _; rw [List.setIfInBounds_toArray]); rw [e]; exact hk)
theorem bE {f : FuncId} {vs : Array Value} (hw : Region.wanted o (yielded ops a.tmps) = true) (h : ∀ w, (execOp a.eval o).run P w = .ok (.enter f vs) w) (hc : ∀ w, C w -> Calls P f vs w fun e w'' => e = .returned v /\ C w'') (hr : wpQuiet P ops C Q rest (a.put o.dst v)) : wpQuiet P ops C Q (o :: rest) a :=
 wpQuiet_step fun K hK => by
  rw [if_pos hw];exact ⟨v, fun w hC => by unfold Oper.quietAt; rw [h w]; exact ⟨rfl, hc w hC⟩, hK _ hr⟩
end
section
variable {P : Program} {ops : Array Oper} {w : World} {Q : Act -> Prop} {a : Act} {o : Oper} {rest : List Oper} {v : Value}
theorem aJ (hw : Region.wanted o (yielded ops a.tmps) = true) (h : (execOp a.eval o).run P w = .ok (.value v) w) (hr : wpStill P ops w Q rest (a.put o.dst v)) : wpStill P ops w Q (o :: rest) a :=
 wpStill_step fun K hK => by
  rw [if_pos hw];unfold Oper.still;rw [h, Oper.stillUpon_value];exact hK _ hr
end
section
variable {P : Program} {md : Region.Mode} {l : List Oper} {Q : Exit -> Act -> World -> Prop} {S : World -> Prop} {fuel : Nat} {listed : Array Bool} {a : Act} {w : World} {o : Oper} {v : Value}
theorem az (i : Nat) (hi : l[i]? = some o) (hs : Region.noSelect l.toArray = true) (hf : Region.free md l.toArray listed i = true) (hr : (Region.ready md l.toArray listed).contains i = true)
  (hw : Region.wanted o (yielded l.toArray a.tmps) = true) (h : ∀ w, S w -> (execOp a.eval o).run P w = .ok (.value v) w) (hQ : ∀ c a w, Q (.panic c) (a.put o.dst v) w -> Q (.panic c) a w) (hS : S w)
  (hk : wpAnyH P md l.toArray Q S fuel (listed.setIfInBounds i true) (a.put o.dst v) w) : wpAnyH P md l.toArray Q S (fuel + 1) listed a w :=
 wpAnyH_take (by simpa using hi) hs hf hr hQ (.inl ⟨hw, h⟩) hS hk
theorem akX (i : Nat) (hi : l[i]? = some o) (h : ∀ w, S w -> (execOp a.eval o).run P w = .ok (.value v) w) (hS : S w) (hk : wpAnyH P md l.toArray Q S fuel (listed.setIfInBounds i true) (a.put o.dst v) w) (hs : Region.noSelect l.toArray = true := by kernel_rfl) (hf : Region.free md l.toArray listed i = true := by kernel_rfl) (hr : (Region.ready md l.toArray listed).contains i = true := by kernel_rfl) (hw : Region.wanted o (yielded l.toArray a.tmps) = true := by exact rfl) (hQ : ∀ c a w, Q (.panic c) (a.put o.dst v) w -> Q (.panic c) a w := by exact fun _ _ _ h => h) : wpAnyH P md l.toArray Q S (fuel + 1) listed a w := az i hi hs hf hr hw h hQ hS hk
theorem ak4 {l0 l1 : List Value} {ds0 : List Deferred} {i0 : Nat} (i : Nat) (hi : l[i]? = some o) (h : ∀ w, S w -> (execOp (Act.mk l0.toArray ds0).eval o).run P w = .ok (.value v) w) (hS : S w) (hk : wpAnyH P md l.toArray Q S fuel (listed.setIfInBounds i true) ⟨l1.toArray, ds0⟩ w) (hd : o.dst = some i0 := by exact rfl) (hl : l0.set i0 v = l1 := by simp only [ai] <;> rfl) (hs : Region.noSelect l.toArray = true := by kernel_rfl) (hf : Region.free md l.toArray listed i = true := by kernel_rfl) (hr : (Region.ready md l.toArray listed).contains i = true := by kernel_rfl) (hw : Region.wanted o (yielded l.toArray l0.toArray) = true := by exact rfl) (hQ : ∀ c a w, Q (.panic c) (a.put o.dst v) w -> Q (.panic c) a w := by exact fun _ _ _ h => h) : wpAnyH P md l.toArray Q S (fuel + 1) listed ⟨l0.toArray, ds0⟩ w := akX i hi h hS (by have e : Act.put (Act.mk l0.toArray ds0) o.dst v = ⟨l1.toArray, ds0⟩ := (by rw [hd, <- hl]; show Act.mk (l0.toArray.setIfInBounds i0 v) ds0 = _; rw [List.setIfInBounds_toArray]); rw [e]; exact hk) hs hf hr hw hQ
theorem dd (i : Nat) {f : FuncId} {vs : Array Value} (hi : l[i]? = some o) (hr : Region.ready md l.toArray listed = [i]) (hw : Region.wanted o (yielded l.toArray a.tmps) = true) (h : (execOp a.eval o).run P w = .ok (.enter f vs) w)
  (hc : Calls P f vs w fun e w' => ∃ v, e = .returned v /\ S w' /\ wpAnyH P md l.toArray Q S fuel (listed.setIfInBounds i true) (a.put o.dst v) w') : wpAnyH P md l.toArray Q S (fuel + 1) listed a w :=
 wpAnyH_all hr (by simp) fun j hj => by
  obtain rfl : j = i := by simpa using hj
  unfold wpOp;simp only [List.getElem?_toArray, hi, hw, if_true];refine .inl ?_;unfold Oper.wp;rw [h];exact hc.mono fun e w' ⟨v, he, hk⟩ => by subst he; exact hk
theorem ex (i : Nat) {w' : World} (hi : l[i]? = some o) (hr : Region.ready md l.toArray listed = [i]) (hw : Region.wanted o (yielded l.toArray a.tmps) = true) (h : (execOp a.eval o).run P w = .ok .skip w')
  (hS : S w') (hk : wpAnyH P md l.toArray Q S fuel (listed.setIfInBounds i true) (a.put o.dst undef) w') : wpAnyH P md l.toArray Q S (fuel + 1) listed a w :=
 wpAnyH_all hr (by simp) fun j hj => by
  obtain rfl : j = i := by simpa using hj
  unfold wpOp;simp only [List.getElem?_toArray, hi, hw, if_true];refine .inl ?_;unfold Oper.wp;rw [h];exact ⟨hS, hk⟩
end
section
variable {ρ : Operand -> Value} {o : Oper} {x y z : Operand} {w : World} {t r : TypeId} {k : IntKind}
theorem uo (ho : o.op = .pick x y z) (hx : ρ x = .bool true) : (execOp ρ o).run prog w = .ok (.value (ρ y)) w := by
 unfold execOp;simp [ho, hx, asBool]
theorem un (ho : o.op = .pick x y z) (hx : ρ x = .bool false) : (execOp ρ o).run prog w = .ok (.value (ρ z)) w := by
 unfold execOp;simp [ho, hx, asBool]
theorem tA (b : Bool) (ho : o.op = .unOp .not t x) (hx : ρ x = .bool b) : (execOp ρ o).run prog w = .ok (.value (.bool (!b))) w := by
 unfold execOp;simp [ho, hx, Op.unary]
theorem aN {a b : Int} (c : Bool) (ho : o.op = .binOp .eql t x y r) (hx : ρ x = .int k a) (hy : ρ y = .int k b) (h : (a == b) = c) : (execOp ρ o).run prog w = .ok (.value (.bool c)) w := by
 unfold execOp;simp [ho, hx, hy, eqGuard, binOp, Op.intCmp, h]
theorem bG {a b : Int} (c : Bool) (ho : o.op = .binOp .neq t x y r) (hx : ρ x = .int k a) (hy : ρ y = .int k b) (h : (a != b) = c) : (execOp ρ o).run prog w = .ok (.value (.bool c)) w := by
 unfold execOp;simp [ho, hx, hy, eqGuard, binOp, Op.intCmp, h]
theorem gT {a b : Bool} (c : Bool) (ho : o.op = .binOp .eql 4 x y r) (hx : ρ x = .bool a) (hy : ρ y = .bool b) (h : (a == b) = c) : (execOp ρ o).run prog w = .ok (.value (.bool c)) w := by
 have he := run_equalIn_bool' (P := prog) w 9999 4 a b underlying4;unfold execOp;simp [ho, hx, hy, eqGuard, binOp, Op.equal, Op.maxDepth, he, h]
end
theorem ev {ts : List Value} {ds : List Deferred} {d : Nat} {v : Value} (h : ts[d]? = some v) : (Act.mk ts.toArray ds).eval (.tmp d) = v := by
 simp [Act.eval, h]
theorem alb {ts : List Value} {ds : List Deferred} {d : Nat} {v : Value} (h : ts[d]? = some v := by exact rfl) : (Act.mk ts.toArray ds).eval (.tmp d) = v := ev h
theorem evk {a : Act} {v : Value} : a.eval (.const v) = v := rfl
theorem evc {ρ : Operand -> Value} {x : Operand} {xs : List Operand} {v : Value} {vs : List Value} (h : ρ x = v) (hs : xs.map ρ = vs) : (x :: xs).map ρ = v :: vs := by
 rw [List.map_cons, h, hs]
theorem evn {ρ : Operand -> Value} : ([] : List Operand).map ρ = [] := rfl
theorem aw {l : List Oper} {ts : List Value} {o oj : Oper} {j d : Nat} {b : Bool} (hg : o.guard = some (j, b)) (hj : l[j]? = some oj) (hd : oj.dst = some d) (hv : ts[d]? = some (.bool b)) : Region.wanted o (yielded l.toArray ts.toArray) = true := by
 unfold Region.wanted yielded;simp [hg, hj, hd, hv]
theorem akW {l : List Oper} {ts : List Value} {o oj : Oper} {j d : Nat} {b : Bool} (hg : o.guard = some (j, b) := by exact rfl) (hj : l[j]? = some oj := by exact rfl) (hd : oj.dst = some d := by exact rfl) (hv : ts[d]? = some (.bool b) := by exact rfl) : Region.wanted o (yielded l.toArray ts.toArray) = true := aw hg hj hd hv
section
variable {ρ : Operand -> Value} {o : Oper} {x y z : Operand} {w : World} {v : Value}
theorem aB (ho : o.op = .move x) (hx : ρ x = v) : (execOp ρ o).run prog w = .ok (.value v) w := by rw [fj ho, hx]
theorem bu (ho : o.op = .assign x) (hx : ρ x = v) : (execOp ρ o).run prog w = .ok (.value v) w := by rw [tF ho, hx]
theorem af2 (ho : o.op = .pick x y z) (hx : ρ x = .bool true) (hy : ρ y = v) : (execOp ρ o).run prog w = .ok (.value v) w := by rw [uo ho hx, hy]
theorem aet (ho : o.op = .pick x y z) (hx : ρ x = .bool false) (hz : ρ z = v) : (execOp ρ o).run prog w = .ok (.value v) w := by rw [un ho hx, hz]
theorem aC {f : FuncId} {args : List Operand} {vs : List Value} {ats : Array TypeId} {a : Act} (hf : ∀ args w, (callFunc f args).run prog w = .ok (.enter f args) w) (ho : o.op = .call { callee := .value (.func f), args := args.toArray, argTypes := ats }) (hv : args.map a.eval = vs) :
  (execOp a.eval o).run prog w = .ok (.enter f vs.toArray) w := by rw [aag hf ho, hv]
end
theorem bl {f : FuncId} {vs : Array Value} {w0 : World} {B : Nat} {v : Value} (hB : B <= w0.heap.size) (h : ∀ w', Below B w0 w' -> Calls prog f vs w' fun e w'' => e = .returned v /\ Below w'.heap.size w' w'') :
  ∀ w', Below B w0 w' -> Calls prog f vs w' fun e w'' => e = .returned v /\ Below B w0 w'' :=
 fun w' hw => (h w' hw).mono fun _ _ hh => ⟨hh.1, hw.trans (hh.2.mono (ap hB hw.size))⟩
section
variable {ρ : Operand -> Value} {o : Oper} {x : Operand} {w : World}
theorem bx {i : Nat} {vs : List Value} {v : Value} (ho : o.op = .extract x i) (hx : ρ x = .tuple vs.toArray) (hv : vs[i]? = some v) : (execOp ρ o).run prog w = .ok (.value v) w := by
 have h : (Instr.extract (.tuple vs.toArray) i).run prog w = .ok v w := by simp [Instr.extract, hv]
 unfold execOp;simp only [ho, hx, Sem.run_bind, h, Result.andThen_ok, Sem.run_pure]
theorem alp {l0 l1 : List Value} {ds0 : List Deferred} {i0 : Nat} {md : Region.Mode} {l : List Oper} {Q : Exit -> Act -> World -> Prop} {S : World -> Prop} {fuel : Nat} {listed : Array Bool} {o : Oper} {w : World} {x : Operand} {v : Value} (i' : Nat) (hi : l[i']? = some o) (hS : S w) (hk : wpAnyH prog md l.toArray Q S fuel (listed.setIfInBounds i' true) ⟨l1.toArray, ds0⟩ w) (ho : o.op = .move x := by exact rfl) (hx : (Act.mk l0.toArray ds0).eval x = v := by exact ev rfl) (hd : o.dst = some i0 := by exact rfl) (hl : l0.set i0 v = l1 := by simp only [ai] <;> rfl) (hs : Region.noSelect l.toArray = true := by kernel_rfl) (hf : Region.free md l.toArray listed i' = true := by kernel_rfl) (hr : (Region.ready md l.toArray listed).contains i' = true := by kernel_rfl) (hw : Region.wanted o (yielded l.toArray l0.toArray) = true := by exact rfl) (hQ : ∀ c a w, Q (.panic c) (a.put o.dst v) w -> Q (.panic c) a w := by exact fun _ _ _ h => h) : wpAnyH prog md l.toArray Q S (fuel + 1) listed ⟨l0.toArray, ds0⟩ w := ak4 i' hi (fun w hw => aB ho hx) hS hk hd hl hs hf hr hw hQ
theorem alq {l0 l1 : List Value} {ds0 : List Deferred} {i0 : Nat} {md : Region.Mode} {l : List Oper} {Q : Exit -> Act -> World -> Prop} {S : World -> Prop} {fuel : Nat} {listed : Array Bool} {o : Oper} {w : World} {x : Operand} {v : Value} (i' : Nat) (hi : l[i']? = some o) (hS : S w) (hk : wpAnyH prog md l.toArray Q S fuel (listed.setIfInBounds i' true) ⟨l1.toArray, ds0⟩ w) (ho : o.op = .assign x := by exact rfl) (hx : (Act.mk l0.toArray ds0).eval x = v := by exact ev rfl) (hd : o.dst = some i0 := by exact rfl) (hl : l0.set i0 v = l1 := by simp only [ai] <;> rfl) (hs : Region.noSelect l.toArray = true := by kernel_rfl) (hf : Region.free md l.toArray listed i' = true := by kernel_rfl) (hr : (Region.ready md l.toArray listed).contains i' = true := by kernel_rfl) (hw : Region.wanted o (yielded l.toArray l0.toArray) = true := by exact rfl) (hQ : ∀ c a w, Q (.panic c) (a.put o.dst v) w -> Q (.panic c) a w := by exact fun _ _ _ h => h) : wpAnyH prog md l.toArray Q S (fuel + 1) listed ⟨l0.toArray, ds0⟩ w := ak4 i' hi (fun w hw => bu ho hx) hS hk hd hl hs hf hr hw hQ
theorem alr {l0 l1 : List Value} {ds0 : List Deferred} {i0 : Nat} {md : Region.Mode} {l : List Oper} {Q : Exit -> Act -> World -> Prop} {S : World -> Prop} {fuel : Nat} {listed : Array Bool} {o : Oper} {w : World} {x : Operand} {b off : Nat} (i' : Nat) (hi : l[i']? = some o) (hS : S w) (hk : wpAnyH prog md l.toArray Q S fuel (listed.setIfInBounds i' true) ⟨l1.toArray, ds0⟩ w) (ho : o.op = .nilCheck x := by exact rfl) (hx : (Act.mk l0.toArray ds0).eval x = .pointer (some ⟨b, off, none⟩) := by exact ev rfl) (hd : o.dst = some i0 := by exact rfl) (hl : l0.set i0 (.pointer (some ⟨b, off, none⟩)) = l1 := by simp only [ai] <;> rfl) (hs : Region.noSelect l.toArray = true := by kernel_rfl) (hf : Region.free md l.toArray listed i' = true := by kernel_rfl) (hr : (Region.ready md l.toArray listed).contains i' = true := by kernel_rfl) (hw : Region.wanted o (yielded l.toArray l0.toArray) = true := by exact rfl) (hQ : ∀ c a w, Q (.panic c) (a.put o.dst (.pointer (some ⟨b, off, none⟩))) w -> Q (.panic c) a w := by exact fun _ _ _ h => h) : wpAnyH prog md l.toArray Q S (fuel + 1) listed ⟨l0.toArray, ds0⟩ w := ak4 i' hi (fun w hw => aM ho hx) hS hk hd hl hs hf hr hw hQ
theorem als {l0 l1 : List Value} {ds0 : List Deferred} {i0 : Nat} {md : Region.Mode} {l : List Oper} {Q : Exit -> Act -> World -> Prop} {S : World -> Prop} {fuel : Nat} {listed : Array Bool} {o : Oper} {w : World} {x : Operand} {i : Nat} {vs : List Value} {v : Value} (i' : Nat) (hi : l[i']? = some o) (hS : S w) (hk : wpAnyH prog md l.toArray Q S fuel (listed.setIfInBounds i' true) ⟨l1.toArray, ds0⟩ w) (ho : o.op = .extract x i := by exact rfl) (hx : (Act.mk l0.toArray ds0).eval x = .tuple vs.toArray := by exact ev rfl) (hv : vs[i]? = some v := by exact rfl) (hd : o.dst = some i0 := by exact rfl) (hl : l0.set i0 v = l1 := by simp only [ai] <;> rfl) (hs : Region.noSelect l.toArray = true := by kernel_rfl) (hf : Region.free md l.toArray listed i' = true := by kernel_rfl) (hr : (Region.ready md l.toArray listed).contains i' = true := by kernel_rfl) (hw : Region.wanted o (yielded l.toArray l0.toArray) = true := by exact rfl) (hQ : ∀ c a w, Q (.panic c) (a.put o.dst v) w -> Q (.panic c) a w := by exact fun _ _ _ h => h) : wpAnyH prog md l.toArray Q S (fuel + 1) listed ⟨l0.toArray, ds0⟩ w := ak4 i' hi (fun w hw => bx ho hx hv) hS hk hd hl hs hf hr hw hQ
end
set_option linter.unusedSimpArgs false
def evL (ts : List Value) : Operand -> Option Value
 |.tmp d => ts[d]?
 |.const v => some v
 |_ => none
def ahz (l : List Oper) (ts : List Value) (o : Oper) : Option Bool :=
 match o.guard with
 |none => some true
 |some (j, b) => match l[j]? with
  |some oj => match oj.dst with
   |some d => match ts[d]? with
    |some (.bool c) => match c, b with
     |true, true => some true
     |false, false => some true
     |true, false => some false
     |false, true => some false
    |some (.tuple _) => some false
    |_ => none
   |none => none
  |none => none
def evO (ts : List Value) : Op -> Option Value
 |.move x => evL ts x
 |.assign x => evL ts x
 |.nilCheck x => match evL ts x with
  |some (.pointer (some ⟨b, off, none⟩)) => some (.pointer (some ⟨b, off, none⟩))
  |_ => none
 |.extract x i => match evL ts x with
  |some (.tuple vs) => vs.toList[i]?
  |_ => none
 |.pick c x y => match evL ts c with
  |some (.bool true) => evL ts x
  |some (.bool false) => evL ts y
  |_ => none
 |.unOp .not _ x => match evL ts x with
  |some (.bool true) => some (.bool false)
  |some (.bool false) => some (.bool true)
  |_ => none
 |_ => none
def tz (d : Option Tmp) (v : Value) (ts : List Value) : List Value := match d with
 |some i => ts.set i v
 |none => ts
def pU (l0 : List Oper) : Nat -> List Oper -> List Value -> Option (List Oper × List Value)
 |0, l, ts => some (l, ts)
 |n + 1, o :: l, ts => match ahz l0 ts o with
  |some true => match evO ts o.op with
   |some v => pU l0 n l (tz o.dst v ts)
   |none => none
  |some false => pU l0 n l (tz o.dst undef ts)
  |none => none
 |_ + 1, [], _ => none
theorem jt {ts : List Value} {ds : List Deferred} {x : Operand} {v : Value} (h : evL ts x = some v) : (Act.mk ts.toArray ds).eval x = v := by
 cases x with
 |tmp d => exact ev h
 |const u => exact Option.some.inj h
 |global g => cases h
 |func f => cases h
theorem oF {l : List Oper} {ts : List Value} {o : Oper} {b : Bool} (h : ahz l ts o = some b) : Region.wanted o (yielded l.toArray ts.toArray) = b := by
 unfold ahz at h;unfold Region.wanted yielded
 split at h
 ·rename_i hg
  rw [hg];exact Option.some.inj h
 ·rename_i j b' hg
  rw [hg]
  split at h
  ·rename_i oj hj
   split at h
   ·rename_i d hd
    split at h
    ·rename_i c hv
     have e : ((l.toArray[j]?).bind (·.dst)).bind (ts.toArray[·]?) = some (.bool c) := by simp [hj, hd, hv]
     simp only [e];cases c <;> cases b' <;> simp at h <;> subst h <;> rfl
    ·rename_i vs hv
     have e : ((l.toArray[j]?).bind (·.dst)).bind (ts.toArray[·]?) = some (.tuple vs) := by simp [hj, hd, hv]
     simp only [e];cases b' <;> simp at h <;> subst h <;> rfl
    ·cases h
   ·cases h
  ·cases h
theorem acD {ts : List Value} {ds : List Deferred} {o : Oper} {v : Value} {w : World} (h : evO ts o.op = some v) : (execOp (Act.mk ts.toArray ds).eval o).run prog w = .ok (.value v) w := by
 unfold evO at h
 split at h
 ·rename_i x ho; exact aB ho (jt h)
 ·rename_i x ho; exact bu ho (jt h)
 ·rename_i x ho
  split at h
  ·rename_i b off hx
   obtain rfl := Option.some.inj h;exact aM ho (jt hx)
  ·cases h
 ·rename_i x i ho
  split at h
  ·rename_i vs hx
   exact bx (ρ := (Act.mk ts.toArray ds).eval) (vs := vs.toList) ho (by rw [jt hx]) h
  ·cases h
 ·rename_i c x y ho
  split at h
  ·rename_i hx; exact af2 ho (jt hx) (jt h)
  ·rename_i hx; exact aet ho (jt hx) (jt h)
  ·cases h
 ·rename_i t x ho
  split at h
  ·rename_i hx; obtain rfl := Option.some.inj h; exact tA true ho (jt hx)
  ·rename_i hx; obtain rfl := Option.some.inj h; exact tA false ho (jt hx)
  ·cases h
 ·cases h
theorem oL {d : Option Tmp} {v : Value} {ts : List Value} {ds : List Deferred} : (Act.mk ts.toArray ds).put d v = ⟨(tz d v ts).toArray, ds⟩ := by
 cases d with
 |none => rfl
 |some i => show Act.mk (ts.toArray.setIfInBounds i v) ds = _; rw [List.setIfInBounds_toArray]; rfl
theorem gD {l0 : List Oper} {Q : Exit -> Act -> World -> Prop} {ds : List Deferred} {w : World} : ∀ (n : Nat) (l : List Oper) (ts : List Value) (l' : List Oper) (ts' : List Value), pU l0 n l ts = some (l', ts') -> wpList prog l0.toArray Q l' ⟨ts'.toArray, ds⟩ w -> wpList prog l0.toArray Q l ⟨ts.toArray, ds⟩ w
 |0, l, ts, l', ts', h, hk => by cases h; exact hk
 |n + 1, [], ts, l', ts', h, hk => by cases h
 |n + 1, o :: l, ts, l', ts', h, hk => by
  unfold pU at h
  split at h
  ·rename_i hw
   split at h
   ·rename_i v hv
    exact ax (oF hw) (acD hv) (by rw [oL]; exact gD n l _ l' ts' h hk)
   ·cases h
  ·rename_i hw
   refine wpList_step fun K hK => ?_
   rw [if_neg (by rw [show Region.wanted o (yielded l0.toArray (Act.mk ts.toArray ds).tmps) = false from oF hw]; exact Bool.false_ne_true)];refine hK _ _ ?_;rw [oL];exact gD n l _ l' ts' h hk
  ·cases h
theorem kU {l0 : List Oper} {C : World -> Prop} {Q : Act -> Prop} {ds : List Deferred} : ∀ (n : Nat) (l : List Oper) (ts : List Value) (l' : List Oper) (ts' : List Value), pU l0 n l ts = some (l', ts') -> wpQuiet prog l0.toArray C Q l' ⟨ts'.toArray, ds⟩ -> wpQuiet prog l0.toArray C Q l ⟨ts.toArray, ds⟩
 |0, l, ts, l', ts', h, hk => by cases h; exact hk
 |n + 1, [], ts, l', ts', h, hk => by cases h
 |n + 1, o :: l, ts, l', ts', h, hk => by
  unfold pU at h
  split at h
  ·rename_i hw
   split at h
   ·rename_i v hv
    exact aF (oF hw) (fun w hC => acD hv) (by rw [oL]; exact kU n l _ l' ts' h hk)
   ·cases h
  ·rename_i hw
   refine wpQuiet_step fun K hK => ?_
   rw [if_neg (by rw [show Region.wanted o (yielded l0.toArray (Act.mk ts.toArray ds).tmps) = false from oF hw]; exact Bool.false_ne_true)];refine hK _ ?_;rw [oL];exact kU n l _ l' ts' h hk
  ·cases h
theorem runs {l0 l l' : List Oper} {ts t1 t2 : List Value} {Q : Exit -> Act -> World -> Prop} {ds : List Deferred} {w : World} (n : Nat) (hk : wpList prog l0.toArray Q l' ⟨t2.toArray, ds⟩ w) (h : pU l0 n l ts = some (l', t1) := by exact rfl) (hn : t1 = t2 := by simp only [tz, List.set_cons_succ, List.set_cons_zero] <;> rfl) : wpList prog l0.toArray Q l ⟨ts.toArray, ds⟩ w :=
 gD n l ts l' t1 h (by rw [hn]; exact hk)
theorem bC {l0 l l' : List Oper} {ts t1 t2 : List Value} {C : World -> Prop} {Q : Act -> Prop} {ds : List Deferred} (n : Nat) (hk : wpQuiet prog l0.toArray C Q l' ⟨t2.toArray, ds⟩) (h : pU l0 n l ts = some (l', t1) := by exact rfl) (hn : t1 = t2 := by simp only [tz, List.set_cons_succ, List.set_cons_zero] <;> rfl) : wpQuiet prog l0.toArray C Q l ⟨ts.toArray, ds⟩ :=
 kU n l ts l' t1 h (by rw [hn]; exact hk)
theorem aY {l0 l' : List Oper} {ts t1 t2 : List Value} {Q : Exit -> Act -> World -> Prop} {ds : List Deferred} {w : World} {id : Nat} (n : Nat) (hk : wpList prog l0.toArray Q l' ⟨t2.toArray, ds⟩ w) (h : pU l0 n l0 ts = some (l', t1) := by exact rfl) (hn : t1 = t2 := by simp only [tz, List.set_cons_succ, List.set_cons_zero] <;> rfl) : (Code.region id l0.toArray false).wp prog Q ⟨ts.toArray, ds⟩ w :=
 wp_region_lit (gD n l0 ts l' t1 h (by rw [hn]; exact hk))
theorem aQ {l0 l : List Oper} {ts t1 t2 : List Value} {Q : Exit -> Act -> World -> Prop} {ds : List Deferred} {w : World} (n : Nat) (hk : Q .normal ⟨t2.toArray, ds⟩ w) (h : pU l0 n l ts = some ([], t1) := by exact rfl) (hn : t1 = t2 := by simp only [tz, List.set_cons_succ, List.set_cons_zero] <;> rfl) : wpList prog l0.toArray Q l ⟨ts.toArray, ds⟩ w :=
 gD n l ts [] t1 h (by rw [hn]; exact wpList_nil hk)
theorem nl {l0 : List Oper} {ts t1 t2 : List Value} {Q : Exit -> Act -> World -> Prop} {ds : List Deferred} {w : World} {id : Nat} (n : Nat) (hk : Q .normal ⟨t2.toArray, ds⟩ w) (h : pU l0 n l0 ts = some ([], t1) := by exact rfl) (hn : t1 = t2 := by simp only [tz, List.set_cons_succ, List.set_cons_zero] <;> rfl) : (Code.region id l0.toArray false).wp prog Q ⟨ts.toArray, ds⟩ w :=
 wp_region_lit (gD n l0 ts [] t1 h (by rw [hn]; exact wpList_nil hk))
theorem bp {ops : Array Oper} {l0 l1 : List Value} {ds0 : List Deferred} {i0 : Nat} {rest : List Oper} {o : Oper} {Q : Exit -> Act -> World -> Prop} {w : World} {v : Value} (hk : wpList prog ops Q rest ⟨l1.toArray, ds0⟩ w) (hd : o.dst = some i0 := by exact rfl) (hl : l0.set i0 v = l1 := by simp only [List.set_cons_succ, List.set_cons_zero] <;> rfl) : ∃ v', Ending.returned v = .returned v' /\ wpList prog ops Q rest (Act.put ⟨l0.toArray, ds0⟩ o.dst v') w := by
 have e : Act.put (Act.mk l0.toArray ds0) o.dst v = ⟨l1.toArray, ds0⟩ := (by rw [hd, <- hl]; show Act.mk (l0.toArray.setIfInBounds i0 v) ds0 = _; rw [List.setIfInBounds_toArray]);exact ⟨v, rfl, by rw [e]; exact hk⟩
abbrev Blk := Vector UInt8 64
def aE : Blk := Vector.replicate 64 0
def cel (b : Blk) : List Value := b.toList.map fun u => .int .u8 (u.toNat : Int)
def blk (b : Blk) : Value := .agg (cel b).toArray
def byt (b : Blk) (j : Nat) : Int := bt b.toList j
theorem gK (b : Blk) {j : Nat} (h : j < 64) : byt b j = (b[j].toNat : Int) := by
 unfold byt;rw [fW (by simpa using h)];simp
theorem aG (b : Blk) : (cel b).length = 64 := by simp [cel]
theorem fx (b : Blk) {j : Nat} (h : j < 64) : (cel b)[j]? = some (.int .u8 (byt b j)) := by
 rw [gK b h];simp [cel, h]
theorem je (b : Blk) : ∀ v ∈ cel b, v.oneCell' = true := by
 intro v hv;simp only [cel, List.mem_map] at hv;obtain ⟨u, _, rfl⟩ := hv
 rfl
theorem yi {a b : Blk} (h : ∀ j, j < 64 -> byt a j = byt b j) : a = b := by
 apply Vector.ext;intro i hi;have := h i hi;rw [gK a hi, gK b hi] at this;exact UInt8.toNat_inj.1 (by omega)
theorem fm (b : Blk) : (blk b).cells = (cel b).toArray := rfl
theorem qT : (prog.info? 64).map (fun i => (i.zero, i.size, i.bytes)) = some (some (blk aE), 64, 64) := by kernel_rfl
theorem nD : prog.underlying 64 = some (.array 64 5) := underlying64
theorem rq : (prog.info? 64).map (·.size) = some 64 := by kernel_rfl
theorem aiD : prog.eqGuardType prog.depth 64 = false := by kernel_rfl
section
variable {w : World} {b off : Nat} {c : Blk}
theorem run_load (hc : w.rangeAt b off (cel c)) : (Instr.loadAt 64 (.pointer (some ⟨b, off, none⟩))).run prog w = .ok (blk c) w :=
 run_loadAt_mid w b off 64 (cel c) _ hc nD rfl (by rw [aG]; exact rq)
theorem run_store (ht : w.there b off 64) : (Instr.storeAt 64 (.pointer (some ⟨b, off, none⟩)) (blk c)).run prog w = .ok () (w.setCells b off (cel c)) := by
 have := run_storeAt_mid (P := prog) w b off 64 (cel c).toArray (by simpa [aG] using ht) (by simpa [aG] using rq) (all_oneCell_toArray (je c))
 simpa [blk] using this
theorem nd (w : World) : (zeroValue 64).run prog w = .ok (blk aE) w := by
 have h := qT;cases hq : prog.info? 64 with
 |none => rw [hq] at h; cases h
 |some i =>
  rw [hq] at h;simp only [Option.map_some, Option.some.injEq, Prod.mk.injEq] at h;simp [zeroValue, typeInfo, hq, h.1]
theorem pO (w : World) (v : Value) : (newVar 64 v).run prog w = .ok ⟨w.heap.size, 0, none⟩ (w.alloc (.cells v.cells 64)) := by
 simp [newVar, newRow]
theorem afT (w : World) (c : Blk) : (Instr.box 64 (blk c)).run prog w = .ok (.pointer (some ⟨w.heap.size, 0, none⟩)) (w.alloc (.cells (cel c).toArray 64)) := by
 simp [Instr.box, pO, fm]
theorem zr (w : World) : (Instr.alloc 64 true (.tuple #[])).run prog w = .ok (.pointer (some ⟨w.heap.size, 0, none⟩)) (w.alloc (.cells (cel aE).toArray 64)) := by
 simp only [Instr.alloc, Sem.run_bind, nd, Result.andThen_ok, pO, Sem.run_pure, fm]
end
theorem rW (w : World) (c : Blk) (i : Nat) (hi : i < 64) : (part 5 (cel c).toArray (i * 1)).run prog w = .ok (.int .u8 (byt c i)) w := by
 have := fx c hi;simp [part, this]
theorem yU (w : World) (a b : Blk) (d : Nat) : (Op.equalIn (d + 2) 64 (blk a) (blk b)).run prog w = .ok (decide (a = b)) w := by
 have he : ∀ x y : Int, (Op.equalIn (d + 1) 5 (.int .u8 x) (.int .u8 y)).run prog w = .ok (x == y) w := fun x y => run_equalIn_int w d 5 .u8 .u8 x y underlying5
 show (Op.equalIn ((d + 1) + 1) 64 (blk a) (blk b)).run prog w = .ok (decide (a = b)) w
 generalize d + 1 = e at *;have key : ∀ (l : List Nat), (∀ i ∈ l, i < 64) ->
   ((forIn l ((none : Option Bool), ()) fun i r => do
    let x <- part 5 (cel a).toArray (i * 1)
    let y <- part 5 (cel b).toArray (i * 1)
    let z <- Op.equalIn e 5 x y
    if (!z) = true then pure (ForInStep.done (some false, ())) else pure (ForInStep.yield (none, ())) : Sem _)).run prog w =
   .ok (if l.all (fun i => byt a i == byt b i) then (none, ()) else (some false, ())) w := by
  intro l
  induction l with
  |nil => intro _; simp
  |cons i l ih =>
   intro hl;have hi := hl i (by simp);simp only [List.forIn_cons, Sem.run_bind, rW w a i hi, rW w b i hi, Result.andThen_ok, he];by_cases h : byt a i = byt b i
   ·have hb : (byt a i == byt b i) = true := by simpa using h
    simp only [hb, Bool.not_true, Bool.false_eq_true, if_false, Sem.run_pure, Result.andThen_ok, List.all_cons, Bool.true_and];exact ih fun j hj => hl j (by simp [hj])
   ·have hb : (byt a i == byt b i) = false := by simpa using h
    simp [hb]
 have hall : ((List.range' 0 64).all fun i => byt a i == byt b i) = decide (a = b) := by
  rw [Bool.eq_iff_iff, List.all_eq_true, decide_eq_true_iff]
  constructor
  ·intro h;exact yi fun j hj => by simpa using h j (by simp [List.mem_range']; omega)
  ·rintro rfl i _;simp
 have hk := key (List.range' 0 64) (fun i hi => by simp [List.mem_range'] at hi; omega);rw [hall] at hk;simp only [Op.equalIn, blk, Sem.run_bind, run_underlying nD, Result.andThen_ok, Tryz.sizeOf5, Std.Legacy.Range.forIn_eq_forIn_range'];simp only [Std.Legacy.Range.size, Nat.sub_zero, Nat.add_sub_cancel, Nat.div_one];rw [hk];by_cases h : a = b
 ·simp [h]
 ·simp [h]
def piece (b : List UInt8) (at_ k : Nat) : List UInt8 := (b.drop at_).take k
theorem bU {b : List UInt8} {p k : Nat} (h : p + k <= b.length) : (piece b p k).length = k := by simp [piece]; omega
def ofL (l : List UInt8) : Blk := Vector.ofFn fun i => l.getD i.val 0
theorem o6 (l : List UInt8) {j : Nat} (h : j < 64) : byt (ofL l) j = bt l j := by
 rw [gK _ h];simp [ofL, bt]
theorem bR (b : Blk) : b.toList.length = 64 := by simp
theorem gi {l : List UInt8} {p k j : Nat} (h : j < k) : bt (piece l p k) j = bt l (p + j) := by
 unfold bt piece;simp [List.getD, List.getElem?_take_of_lt h, List.getElem?_drop]
theorem ra (x y z : List UInt8) {p k : Nat} (hp : x.length = p) (hk : y.length = k) : piece (x ++ (y ++ z)) p k = y := by
 subst hp hk;simp [piece]
theorem pI (y z : List UInt8) {k : Nat} (hk : y.length = k) : piece (y ++ z) 0 k = y := by
 subst hk;simp [piece]
theorem dc {x y : List UInt8} {j : Nat} (h : j < x.length) : bt (x ++ y) j = bt x j := by
 unfold bt;simp [List.getD, List.getElem?_append_left h]
theorem cR {x y : List UInt8} {j : Nat} (h : x.length <= j) : bt (x ++ y) j = bt y (j - x.length) := by
 unfold bt;simp [List.getD, List.getElem?_append_right h]
theorem j8 {n j : Nat} : bt (List.replicate n 0) j = 0 := by
 unfold bt;by_cases h : j < n
 ·simp [List.getD, h]
 ·simp [List.getD, h]
theorem lg {l x : List UInt8} {off j : Nat} (h : off + x.length <= l.length) : bt (splice l off x) j = if off <= j /\ j < off + x.length then bt x (j - off) else bt l j := by
 unfold splice;have h1 : (l.take off).length = off := by simp; omega
 by_cases hlo : j < off
 ·rw [if_neg (by omega), dc (by omega)];unfold bt;simp [List.getD, List.getElem?_take_of_lt hlo]
 ·rw [cR (by omega), h1];by_cases hhi : j < off + x.length
  ·rw [if_pos (by omega), dc (by omega)]
  ·rw [if_neg (by omega), cR (by omega)];unfold bt;simp only [List.getD, List.getElem?_drop];rw [show off + x.length + (j - off - x.length) = j from by omega]
end Go.Proofs.YtcpbekopbeaflaaGreatDoor
