import Derived.Below
import Derived.Laws.OwnMore
import Derived.Deep.Draws
import Derived.Laws.Rows
import Derived.OwnWalk
import Derived.Deep.OwnRows
import Derived.Test.YtbbcdhkinbmdnaaGreatDoorRows
import Derived.WalkKit
import Derived.ProofKit
import Derived.OpenShut
import Derived.ShutString
import Derived.ChangeOld
import Derived.SizedLaws
import Derived.JoinedCond
import Derived.Test.YtbbcdhkinbmdnaaGreatDoorProg
import Derived.RegionTactic
import Derived.ChangeAlike
import Derived.Deep.QuietTactic
import Derived.BigQuiet
import Derived.Lib.Hide
import Derived.WalkLawsBesides
import Derived.WalkSpells
import Derived.Laws.BitsAllLaws
import Derived.Deep.DeepHandedRow
import Derived.Lib.LaidTab
import Derived.Lib.SmallJoins
import Derived.LaidSub
import Derived.Deep.MidRow
import Derived.Deep.Quiet
import Derived.Laws.StructEq
import Derived.Laws.IdiomCopy
import Derived.Laws.NewBlocks
import Derived.Laws.CopyOwn
import Derived.Test.YtbbcdhkinbmdnaaGreatDoorLoZ
namespace Go.Proofs.YtbbcdhkinbmdnaaGreatDoor
open Go.RowKit
set_option maxRecDepth 100000
def bt (l : List UInt8) (k : Nat) : Int := ((l.getD k 0).toNat : Int)
theorem bt_lo (l : List UInt8) (k : Nat) : 0 ≤ bt l k := by unfold bt; omega
theorem bt_hi (l : List UInt8) (k : Nat) : bt l k ≤ 255 := by
 unfold bt
 have := UInt8.toNat_lt (l.getD k 0)
 omega
theorem fi {l : List UInt8} {k : Nat} (h : k < l.length) : bt l k = (l[k].toNat : Int) := by
 unfold bt
 simp [List.getD, List.getElem?_eq_getElem h]
theorem eC {a b : List UInt8} (hl : a.length = b.length) (h : ∀ k, k < a.length → bt a k = bt b k) : a = b := by
 apply List.ext_getElem hl
 intro k h1 h2
 have := h k h1
 rw [fi h1, fi h2] at this
 exact UInt8.toNat_inj.1 (by omega)
def Rd (w : World) (B : Nat) (A : Option Addr) (n : Nat) (l : List UInt8) : Prop :=
 l.length = n ∧ ∀ k, k < n → ∃ b off, A = some ⟨b, off, none⟩ ∧ b < B ∧ w.cell? ⟨b, off + k, none⟩ = some (.int .u8 (bt l k))
section
variable {w w' : World} {B B' n : Nat} {A : Option Addr} {l : List UInt8}
theorem Rd.nil (w : World) (B : Nat) (A : Option Addr) : Rd w B A 0 [] := ⟨rfl, fun k hk => absurd hk (by omega)⟩
theorem Rd.keep (h : Rd w B A n l) (hk : ∀ p : Addr, p.block < B → w'.cell? p = w.cell? p) : Rd w' B A n l :=
 ⟨h.1, fun k hn => by
  obtain ⟨b, off, e, hb, hc⟩ := h.2 k hn
  exact ⟨b, off, e, hb, (hk _ hb).trans hc⟩⟩
theorem Rd.below (h : Rd w B A n l) (hb : Below B w w') : Rd w' B A n l := h.keep fun _ hp => hb.cell hp
end
theorem bd {B : Nat} {a w : World} (h : Below B a w) : Below B a w.drew := ⟨h.os, h.tape, h.output, h.size, h.block⟩
theorem bm {a b : Bool} (h : a = b) : Ending.returned (.bool a) = .returned (.bool b) := by rw [h]
theorem bD {k : IntKind} {a b : Int} (h : a = b) : Ending.returned (.int k a) = .returned (.int k b) := by rw [h]
def Made (w : World) (base : Nat) (v : Value) (l : List UInt8) : Prop :=
 w.ownsRow base 5 1 v l.length (l.map fun u => .int .u8 (u.toNat : Int))
theorem Made.form {w : World} {base : Nat} {v : Value} {l : List UInt8} (h : Made w base v l) : ∃ A c, v = .slice A l.length c ∧ l.length ≤ c ∧ c ≤ maxLen := by
 rcases h.2 with ⟨rfl, h0⟩ | ⟨g, cap, cur, rfl, _, _, h1, h2, _⟩
 ·exact ⟨none, 0, by rw [h0], by omega, by simp [maxLen]⟩
 ·exact ⟨_, cap, rfl, h1, h2⟩
theorem Made.rd {w : World} {base n c : Nat} {A : Option Addr} {l : List UInt8} (h : Made w base (.slice A n c) l) : Rd w w.heap.size A n l := by
 rcases h.2 with ⟨hv, h0⟩ | ⟨g, cap, cur, hv, _, hg, _, _, _, ht⟩
 ·have hl : l = [] := List.eq_nil_of_length_eq_zero h0
  subst hl
  injection hv with h1 h2 h3
  subst h2
  exact Rd.nil _ _ _
 ·injection hv with h1 h2 h3
  subst h1 h2 h3
  refine ⟨rfl, fun k hk => ⟨g, 0, rfl, (Array.getElem?_eq_some_iff.1 hg).1, ?_⟩⟩
  rw [cell_of_row w g (0 + k) cur 5 (0, 0) hg]
  have h2 : (cur.toList.take (l.length * 1))[k]? = (l.map fun u => Value.int .u8 (u.toNat : Int))[k]? := by rw [ht]
  rw [List.getElem?_take_of_lt (by omega), List.getElem?_map, List.getElem?_eq_getElem hk] at h2
  rw [fi hk, Nat.zero_add]
  simpa using h2
theorem Made.below {w w' : World} {base : Nat} {v : Value} {l : List UInt8} (h : Made w base v l) (hb : Below w.heap.size w w') : Made w' base v l := by
 refine ⟨h.1, ?_⟩
 rcases h.2 with hn | ⟨g, cap, cur, rfl, hbg, hg, rest⟩
 ·exact .inl hn
 ·exact .inr ⟨g, cap, cur, rfl, hbg, by rw [hb.block g (Array.getElem?_eq_some_iff.1 hg).1]; exact hg, rest⟩
theorem Made.own {w : World} {base n : Nat} {v : Value} {l : List UInt8} (h : Made w base v l) (hn : l.length = n) : w.ownsRow base 5 1 v n (l.map fun u => .int .u8 (u.toNat : Int)) := by
 subst hn; exact h
theorem Made.of_own {w : World} {base n : Nat} {v : Value} {l : List UInt8} (h : w.ownsRow base 5 1 v n (l.map fun u => .int .u8 (u.toNat : Int))) : Made w base v l := by
 have hn : l.length = n := by have := h.1; simpa using this
 subst hn; exact h
theorem Made.push {w0 wr w' : World} {B n : Nat} {v v' : Value} {l : List UInt8} {u : UInt8} {x : Int} {o : Obj} (hm : Made wr B v l) (hbl : Below B w0 wr) (hsz : B ≤ wr.heap.size) (hx : x = (u.toNat : Int))
  (hown : w'.ownsRow B 5 1 v' n ((l.map fun u => .int .u8 (u.toNat : Int)) ++ [.int .u8 x])) (hg : (wr.alloc o).grownBy w' v.ownBlock) : Made w' B v' (l ++ [u]) ∧ Below B w0 w' := by
 subst hx
 refine ⟨Made.of_own (n := n) ?_, ((hbl.alloc hsz o).grown hg (by simp; omega) fun k hk => ?_)⟩
 ·rw [List.map_append]; exact hown
 ·exact (hm.lt k hk).1
theorem Made.base {w : World} {b b' : Nat} {v : Value} {l : List UInt8} (h : Made w b v l) (hb : b' ≤ b) : Made w b' v l := by
 refine ⟨h.1, ?_⟩
 rcases h.2 with hn | ⟨g, cap, cur, rfl, hbg, rest⟩
 ·exact .inl hn
 ·exact .inr ⟨g, cap, cur, rfl, Nat.le_trans hb hbg, rest⟩
theorem Made.open_ {w : World} {base n : Nat} {v : Value} {l : List UInt8} (h : Made w base v l) (hn : l.length = n) : ∃ A c, v = .slice A n c ∧ Rd w w.heap.size A n l ∧ n ≤ c ∧ c ≤ maxLen := by
 subst hn
 obtain ⟨A, c, rfl, h1, h2⟩ := h.form
 exact ⟨A, c, rfl, h.rd, h1, h2⟩
def upd (f : Nat → Int) (i : Nat) (x : Int) : Nat → Int := fun j => if j = i then x else f j
theorem upd_at (f : Nat → Int) (i : Nat) (x : Int) : upd f i x i = x := by unfold upd; rw [if_pos rfl]
theorem upd_off (f : Nat → Int) {i j : Nat} (x : Int) (h : j ≠ i) : upd f i x j = f j := by unfold upd; rw [if_neg h]
theorem row_put {w : World} {g c i : Nat} {f : Nat → Int} {e : TypeId} (h : w.rowIs g e c (fun j => .int .u8 (f j))) (x : Int) : (w.setCell ⟨g, i, none⟩ (.int .u8 x)).rowIs g e c (fun j => .int .u8 (upd f i x j)) :=
 (h.set i _).congr fun j _ => by
  unfold upd
  split
  ·rfl
  ·rfl
def Own (w : World) (base : Nat) (v : Value) (l : List UInt8) : Prop :=
 ∃ (g c : Nat) (f : Nat → Int), v = .slice (some ⟨g, 0, none⟩) l.length c ∧ base ≤ g ∧ w.rowIs g 5 c (fun j => .int .u8 (f j)) ∧ l.length ≤ c ∧ c ≤ maxLen ∧ (∀ j, j < l.length → f j = bt l j) ∧ ∀ j, 0 ≤ f j ∧ f j ≤ 255
theorem Own.made {w : World} {base : Nat} {v : Value} {l : List UInt8} (h : Own w base v l) : Made w base v l := by
 obtain ⟨g, c, f, rfl, hb, ⟨cur, hg, hn, hc⟩, h1, h2, hf, _⟩ := h
 refine ⟨by simp, .inr ⟨g, c, cur, rfl, hb, hg, h1, h2, by simpa using hn, ?_⟩⟩
 apply List.ext_getElem?
 intro k
 by_cases hk : k < l.length
 ·rw [List.getElem?_take_of_lt (by omega), List.getElem?_map, List.getElem?_eq_getElem hk, Array.getElem?_toList, hc k (by omega)]
  show some (Value.int .u8 (f k)) = _
  rw [hf k hk, fi hk]
  rfl
 ·rw [List.getElem?_eq_none (by simp; omega), List.getElem?_eq_none (by simp; omega)]
theorem Own.of_row {w : World} {base g c : Nat} {f : Nat → Int} {l : List UInt8} {n : Nat} (hn : l.length = n) (hb : base ≤ g) (h : w.rowIs g 5 c (fun j => .int .u8 (f j))) (h1 : n ≤ c) (h2 : c ≤ maxLen)
  (hf : ∀ j, j < n → f j = bt l j) (hr : ∀ j, 0 ≤ f j ∧ f j ≤ 255) : Own w base (.slice (some ⟨g, 0, none⟩) n c) l := by
 subst hn
 exact ⟨g, c, f, rfl, hb, h, h1, h2, hf, hr⟩
open Go.RowKit Go.ChangeShapes Go.WideShapes Go.ChangeAt
theorem own_knob : ownKnob Tryz.prog.godebug = none := by kernel_rfl
theorem laid_out : laidOutB Tryz.prog = true := by kernel_rfl
theorem u8cells : Tryz.prog.cellsOf 5 = 1 := by kernel_rfl
def val (w : Nat) : List UInt8 → Nat
 | [] => 0
 | u :: r => u.toNat + 2 ^ w * val w r
def aX (w n V : Nat) : List UInt8 := (List.range n).map fun j => UInt8.ofNat (V / 2 ^ (w * j) % 2 ^ w)
theorem ay (w n V : Nat) : (aX w n V).length = n := by simp [aX]
theorem mod_pow_le {w : Nat} (hw : w ≤ 8) (x : Nat) : x % 2 ^ w < 256 := by
 have h1 : x % 2 ^ w < 2 ^ w := Nat.mod_lt _ (Nat.pow_pos (by omega))
 have h2 : 2 ^ w ≤ 2 ^ 8 := Nat.pow_le_pow_right (by omega) hw
 omega
theorem getElem_digL {w n V j : Nat} (hw : w ≤ 8) (h : j < (aX w n V).length) : ((aX w n V)[j]).toNat = V / 2 ^ (w * j) % 2 ^ w := by
 simp only [aX, List.getElem_map, List.getElem_range, UInt8.toNat_ofNat']
 exact Nat.mod_eq_of_lt (mod_pow_le hw _)
theorem digL_succ (w n V : Nat) : aX w (n + 1) V = UInt8.ofNat (V % 2 ^ w) :: aX w n (V / 2 ^ w) := by
 simp only [aX, List.range_succ_eq_map, List.map_cons, List.map_map]
 congr 1
 ·simp
 ·apply List.map_congr_left
  intro j _
  simp only [Function.comp]
  rw [Nat.div_div_eq_div_mul, ← Nat.pow_add]
  congr 3
  rw [Nat.mul_succ, Nat.add_comm]
theorem digL_snoc (w n V : Nat) : aX w (n + 1) V = aX w n V ++ [UInt8.ofNat (V / 2 ^ (w * n) % 2 ^ w)] := by
 simp [aX, List.range_succ]
theorem val_digL {w : Nat} (hw : w ≤ 8) (n V : Nat) : val w (aX w n V) = V % 2 ^ (w * n) := by
 induction n generalizing V with
 | zero => simp [aX, val, Nat.mod_one]
 | succ n ih =>
  rw [digL_succ, val, ih, UInt8.toNat_ofNat', Nat.mod_eq_of_lt (mod_pow_le hw _), Nat.mul_succ, Nat.add_comm (w * n) w, Nat.pow_add, Nat.mod_mul]
theorem val_lt {w : Nat} {l : List UInt8} (h : ∀ u ∈ l, u.toNat < 2 ^ w) : val w l < 2 ^ (w * l.length) := by
 induction l with
 | nil => simp [val]
 | cons u r ih =>
  have h1 := ih fun x hx => h x (List.mem_cons_of_mem _ hx)
  have h2 := h u List.mem_cons_self
  rw [val, List.length_cons, Nat.mul_succ, Nat.add_comm (w * r.length) w, Nat.pow_add]
  have h3 : 2 ^ w * (val w r + 1) ≤ 2 ^ w * 2 ^ (w * r.length) := Nat.mul_le_mul_left _ h1
  rw [Nat.mul_succ] at h3
  omega
theorem val_one (w : Nat) (u : UInt8) : val w [u] = u.toNat := by rw [val, val, Nat.mul_zero, Nat.add_zero]
theorem val_append (w : Nat) (a b : List UInt8) : val w (a ++ b) = val w a + 2 ^ (w * a.length) * val w b := by
 induction a with
 | nil => simp [val]
 | cons u r ih =>
  rw [List.cons_append, val, val, ih, List.length_cons, Nat.mul_succ, Nat.add_comm (w * r.length) w, Nat.pow_add, Nat.mul_add, Nat.mul_assoc, Nat.add_assoc]
theorem val_digit {w : Nat} {l : List UInt8} (h : ∀ u ∈ l, u.toNat < 2 ^ w) (j : Nat) : val w l / 2 ^ (w * j) % 2 ^ w = (l.getD j 0).toNat := by
 induction l generalizing j with
 | nil => simp [val]
 | cons u r ih =>
  have h2 := h u List.mem_cons_self
  have h0 : 0 < 2 ^ w := Nat.pow_pos (by omega)
  cases j with
  | zero =>
   rw [val, Nat.mul_zero, Nat.pow_zero, Nat.div_one, Nat.add_mul_mod_self_left, Nat.mod_eq_of_lt h2]
   rfl
  | succ j =>
   rw [val, Nat.mul_succ, Nat.add_comm (w * j) w, Nat.pow_add, ← Nat.div_div_eq_div_mul, Nat.add_mul_div_left _ _ h0, Nat.div_eq_of_lt h2, Nat.zero_add, ih fun x hx => h x (List.mem_cons_of_mem _ hx)]
   simp
theorem digL_val {w : Nat} {l : List UInt8} (h : ∀ u ∈ l, u.toNat < 2 ^ w) : aX w l.length (val w l) = l := by
 apply List.ext_getElem (ay _ _ _)
 intro j h1 h2
 simp only [aX, List.getElem_map, List.getElem_range]
 rw [val_digit h]
 simp [List.getD, List.getElem?_eq_getElem h2]
theorem all_256 (l : List UInt8) : ∀ u ∈ l, u.toNat < 2 ^ 8 := fun u _ => UInt8.toNat_lt u
theorem u8info : (Tryz.prog.info? 5).map (fun i => (i.zero, i.size, i.bytes)) = some (some (.int .u8 0), 1, 1) := by kernel_rfl
theorem rd_new (w : World) (l : List UInt8) (cs : Array Value) (h : cs.toList = l.map fun u => Value.int .u8 (u.toNat : Int)) : Rd (w.alloc (.cells cs 5)) (w.heap.size + 1) (some ⟨w.heap.size, 0, none⟩) l.length l := by
 refine ⟨rfl, fun k hk => ⟨w.heap.size, 0, rfl, by omega, ?_⟩⟩
 rw [cell_of_row (w.alloc (.cells cs 5)) w.heap.size (0 + k) cs 5 (0, 0) (heap_alloc_new w _), Nat.zero_add, ← Array.getElem?_toList, h, List.getElem?_map, List.getElem?_eq_getElem hk, fi hk]
 rfl
def stp (r : Nat) : Nat := if r % 2 = 1 then r / 2 ^^^ 2197175160 else r / 2
def steps : Nat → Nat → Nat
 | 0, r => r
 | n + 1, r => steps n (stp r)
def tak (r c : Nat) : Nat := steps 8 (r ^^^ c)
def run (r : Nat) (l : List UInt8) : Nat := l.foldl (fun r u => tak r u.toNat) r
def negm (m r : Nat) : Nat := m ^^^ r
def neg (r : Nat) : Nat := negm 4294967295 r
def more (s : Nat) (l : List UInt8) : Nat := neg (run (neg s) l)
def tab (i : Nat) : Nat := [0, 274646895, 549293790, 820201905, 1098587580, 1361435347, 1640403810, 1905808397, 2197175160, 2460548119, 2722870694, 2987750089, 3280807620, 3553878443, 3811616794, 4084100981].getD i 0
def hlf (r : Nat) : Nat := r / 16 ^^^ tab (r % 16)
theorem xor_lt {a b : Nat} (ha : a < 4294967296) (hb : b < 4294967296) : a ^^^ b < 4294967296 := Nat.xor_lt_two_pow (n := 32) ha hb
theorem stp_lt {r : Nat} (h : r < 4294967296) : stp r < 4294967296 := by
 unfold stp
 split
 ·exact xor_lt (by omega) (by omega)
 ·omega
theorem steps_lt (n : Nat) {r : Nat} (h : r < 4294967296) : steps n r < 4294967296 := by
 induction n generalizing r with
 | zero => exact h
 | succ n ih => exact ih (stp_lt h)
theorem tak_lt {r c : Nat} (h : r < 4294967296) (hc : c < 256) : tak r c < 4294967296 := steps_lt 8 (xor_lt h (by omega))
theorem run_lt {r : Nat} (h : r < 4294967296) (l : List UInt8) : run r l < 4294967296 := by
 induction l generalizing r with
 | nil => exact h
 | cons u l ih => exact ih (tak_lt h (UInt8.toNat_lt u))
theorem neg_lt {r : Nat} (h : r < 4294967296) : neg r < 4294967296 := xor_lt (by omega) h
theorem more_lt {s : Nat} (h : s < 4294967296) (l : List UInt8) : more s l < 4294967296 := neg_lt (run_lt (neg_lt h) l)
theorem negm_negm (m r : Nat) : negm m (negm m r) = r := by
 unfold negm
 rw [← Nat.xor_assoc, Nat.xor_self, Nat.zero_xor]
theorem neg_neg (r : Nat) : neg (neg r) = r := negm_negm 4294967295 r
theorem run_append (r : Nat) (a b : List UInt8) : run r (a ++ b) = run (run r a) b := by unfold run; rw [List.foldl_append]
theorem more_append (s : Nat) (a b : List UInt8) : more s (a ++ b) = more (more s a) b := by
 unfold more
 rw [neg_neg, run_append]
theorem half_xor (a b : Nat) : (a ^^^ b) / 2 = a / 2 ^^^ b / 2 := by
 have h : (a ^^^ b) >>> 1 = a >>> 1 ^^^ b >>> 1 := Nat.shiftRight_xor_distrib
 simpa [Nat.shiftRight_succ] using h
theorem low_xor (a b : Nat) : (a ^^^ b) % 2 = 1 ↔ ¬ (a % 2 = 1 ↔ b % 2 = 1) := by
 have h : ((a ^^^ b) % 2 ^ 1) = (a % 2 ^ 1) ^^^ (b % 2 ^ 1) := Nat.xor_mod_two_pow
 rw [show (2 : Nat) ^ 1 = 2 from rfl] at h
 rw [h]
 rcases Nat.mod_two_eq_zero_or_one a with ha | ha <;> rcases Nat.mod_two_eq_zero_or_one b with hb | hb <;> rw [ha, hb] <;> decide
theorem xor4 (a b c d : Nat) : (a ^^^ b) ^^^ (c ^^^ d) = (a ^^^ c) ^^^ (b ^^^ d) := by
 rw [Nat.xor_assoc, ← Nat.xor_assoc b c d, Nat.xor_comm b c, Nat.xor_assoc c b d, ← Nat.xor_assoc]
theorem stp_xor (a b : Nat) : stp (a ^^^ b) = stp a ^^^ stp b := by
 unfold stp
 rw [half_xor]
 have hl := low_xor a b
 by_cases ha : a % 2 = 1 <;> by_cases hb : b % 2 = 1
 ·rw [if_neg (by rw [hl]; simp [ha, hb]), if_pos ha, if_pos hb, xor4, Nat.xor_self, Nat.xor_zero]
 ·rw [if_pos (by rw [hl]; simp [ha, hb]), if_pos ha, if_neg hb, Nat.xor_assoc, Nat.xor_comm (b / 2), ← Nat.xor_assoc]
 ·rw [if_pos (by rw [hl]; simp [ha, hb]), if_neg ha, if_pos hb, Nat.xor_assoc]
 ·rw [if_neg (by rw [hl]; simp [ha, hb]), if_neg ha, if_neg hb]
theorem steps_xor (n a b : Nat) : steps n (a ^^^ b) = steps n a ^^^ steps n b := by
 induction n generalizing a b with
 | zero => rfl
 | succ n ih => rw [steps, stp_xor, ih]; rfl
theorem steps_add (m n r : Nat) : steps (m + n) r = steps n (steps m r) := by
 induction m generalizing r with
 | zero => rw [Nat.zero_add]; rfl
 | succ m ih => rw [Nat.succ_add, steps, ih]; rfl
theorem stp_double (x : Nat) : stp (2 * x) = x := by
 unfold stp
 rw [if_neg (by omega)]
 omega
theorem steps_shift (n x : Nat) : steps n (2 ^ n * x) = x := by
 induction n with
 | zero => simp [steps]
 | succ n ih => rw [steps, Nat.pow_succ, Nat.mul_comm (2 ^ n) 2, Nat.mul_assoc, stp_double, ih]
theorem parts_xor {n t : Nat} (q : Nat) (h : t < 2 ^ n) : 2 ^ n * q ^^^ t = 2 ^ n * q + t := by
 apply Nat.eq_of_testBit_eq
 intro i
 rw [Nat.testBit_xor, Nat.testBit_two_pow_mul_add q h, Nat.testBit_two_pow_mul]
 by_cases hi : i < n
 ·simp [hi, Nat.not_le.2 hi]
 ·have : t.testBit i = false := Nat.testBit_lt_two_pow (Nat.lt_of_lt_of_le h (Nat.pow_le_pow_right (by omega) (by omega)))
  simp [hi, this, Nat.le_of_not_lt hi]
theorem hlf_steps (r : Nat) : hlf r = steps 4 r := by
 have e : r = 2 ^ 4 * (r / 16) ^^^ r % 16 := by
  rw [parts_xor (n := 4) _ (by omega)]
  omega
 have h : ∀ t, t < 16 → tab t = steps 4 t := by decide
 conv => rhs; rw [e, steps_xor, steps_shift]
 unfold hlf
 rw [h _ (by omega)]
theorem tak_hlf (r c : Nat) : hlf (hlf (r ^^^ c)) = tak r c := by
 rw [hlf_steps, hlf_steps, ← steps_add]
 rfl
theorem val8_inj {a b : List UInt8} (hl : a.length = b.length) (h : val 8 a = val 8 b) : a = b := by
 rw [← digL_val (all_256 a), ← digL_val (all_256 b), hl, h]
set_option linter.unusedVariables false
def Tab (w : World) : Prop := ∀ i, i < 16 → w.cell? ⟨2, i, none⟩ = some (.int .u32 (tab i : Int))
theorem Tab.below {w w' : World} (h : Tab w) (hb : Below w.heap.size w w') : Tab w' := fun i hi => by
 rw [hb.cell (p := ⟨2, i, none⟩) (World.block_lt_of_cell? w _ (h i hi))]
 exact h i hi
theorem tab_lt (i : Nat) : tab i < 4294967296 := by
 by_cases h : i < 16
 ·have : ∀ i, i < 16 → tab i < 4294967296 := by decide
  exact this i h
 ·unfold tab
  rw [List.getD, List.getElem?_eq_none (by simp; omega)]
  simp
theorem hlf_lt {r : Nat} (h : r < 4294967296) : hlf r < 4294967296 := by
 rw [hlf_steps]
 exact steps_lt 4 h
theorem low_and (r : Nat) (h : r < 4294967296) : bits .and .u32 (r : Int) 15 = ((r % 16 : Nat) : Int) := by
 have h2 := u32_and_nat r 15 h (by omega)
 have h3 : r &&& 15 = r % 16 := Nat.and_two_pow_sub_one_eq_mod r 4
 rw [h3] at h2
 exact h2
set_option maxHeartbeats 400000 in
theorem half_any (r : Nat) (w : World) (T : Tab w) (hr : r < 4294967296) :
  Calls Tryz.prog 168 #[.int .u32 r] w fun e w' => e = .returned (.int .u32 (hlf r)) ∧ w = w' := by
 have hl := low_and r hr
 have ht := T (r % 16) (by omega)
 have hlo : r % 16 < 16 := by omega
 go_enter Tryz.func168, Tryz.ntmps168
 go_wp2
 go_ret
 have e : ((r : Int) / 16) = ((r / 16 : Nat) : Int) := by omega
 refine ⟨bD ?_, rfl⟩
 rw [e, u32_xor_nat _ _ (by omega) (tab_lt _)]
 rfl
set_option maxHeartbeats 400000 in
theorem take_any (r c : Nat) (w : World) (T : Tab w) (hr : r < 4294967296) (hc : c < 256) :
  Calls Tryz.prog 156 #[.int .u32 r, .int .u8 c] w fun e w' => e = .returned (.int .u32 (tak r c)) ∧ w = w' := by
 have hx := u32_xor_nat r c hr (by omega)
 have hlt : r ^^^ c < 4294967296 := xor_lt hr (by omega)
 have hlt2 : hlf (r ^^^ c) < 4294967296 := hlf_lt hlt
 have HT : Hid (hlf (hlf (r ^^^ c)) = tak r c) := af (tak_hlf r c)
 go_enter Tryz.func156, Tryz.ntmps156
 go_wp2_with fail
 refine (half_any (r ^^^ c) _ T hlt).mono ?_
 rintro e w' ⟨rfl, rfl⟩
 go_wp2_with fail
 refine (half_any (hlf (r ^^^ c)) _ T hlt2).mono ?_
 rintro e w' ⟨rfl, rfl⟩
 go_wp2
 go_ret
 exact ⟨bD (by rw [HT.out]), rfl⟩
set_option maxHeartbeats 400000 in
theorem refStep_any (r : Nat) (w : World) (hr : r < 4294967296) :
  Calls Tryz.prog 171 #[.int .u32 r] w fun e w' => e = .returned (.int .u32 (stp r)) ∧ w = w' := by
 have e : ((r : Int) / 2) = ((r / 2 : Nat) : Int) := by omega
 have hx := u32_xor_nat (r / 2) 2197175160 (by omega) (by omega)
 have HX := af hx
 have HE := af e
 clear e hx
 by_cases h : r % 2 = 1
 ·have hs : stp r = r / 2 ^^^ 2197175160 := by unfold stp; rw [if_pos h]
  have HS := af hs
  have hb : ((r : Int) % 2 == 1) = true := by simp; omega
  clear h hs
  go_enter Tryz.func171, Tryz.ntmps171
  go_wp2
  go_ret
  exact ⟨bD (by rw [HS.out, HE.out]; exact HX.out), rfl⟩
 ·have hs : stp r = r / 2 := by unfold stp; rw [if_neg h]
  have HS := af hs
  have hb : ((r : Int) % 2 == 1) = false := by simp; omega
  clear h hs
  go_enter Tryz.func171, Tryz.ntmps171
  go_wp2
  go_ret
  exact ⟨bD (by rw [HS.out, HE.out]), rfl⟩
theorem steps_snoc (n r : Nat) : steps (n + 1) r = stp (steps n r) := by rw [steps_add]; rfl
set_option maxHeartbeats 400000 in
theorem refTake_any (r c : Nat) (w : World) (hr : r < 4294967296) (hc : c < 256) :
  Calls Tryz.prog 163 #[.int .u32 r, .int .u8 c] w fun e w' => e = .returned (.int .u32 (tak r c)) ∧ w = w' := by
 have hx := u32_xor_nat r c hr (by omega)
 have hlt : r ^^^ c < 4294967296 := xor_lt hr (by omega)
 go_enter Tryz.func163, Tryz.ntmps163
 go_wp2
 have HX := af hx
 clear hx
 go_loop [0, 5] (fun x i => ∃ j : Nat, j ≤ 8 ∧ i = .int .i64 j ∧ x = .int .u32 (steps j (r ^^^ c))) (fun _ i => 8 - (intOf i).toNat)
 case atStart => exact ⟨0, by omega, rfl, by first | rfl | rw [HX.out]; rfl⟩
 case round =>
  obtain ⟨j, hj, rfl, rfl⟩ := hrel
  have hl2 := steps_lt j hlt
  by_cases h8 : j < 8
  ·go_wp2_with fail
   refine (refStep_any (steps j (r ^^^ c)) _ hl2).mono ?_
   rintro e w' ⟨rfl, rfl⟩
   go_wp2
   go_round
   case rel => exact ⟨j + 1, by omega, by go_num, by rw [steps_snoc]⟩
   case measure => simp [intOf]; omega
  ·have h : j = 8 := by omega
   subst h
   go_wp2
   go_ret
   exact ⟨rfl, rfl⟩
theorem gTab : Tryz.prog.globalNamed "ashlar/crc.halves" = some 2 := by kernel_rfl
theorem gTabType : (Tryz.prog.globals[2]?).map (·.type) = some 204 := by kernel_rfl
theorem cellsTab : Tryz.prog.cellsOf 204 = 16 := by kernel_rfl
theorem cellsU32 : Tryz.prog.cellsOf 33 = 1 := by kernel_rfl
def tabInts : List Int := [0, 274646895, 549293790, 820201905, 1098587580, 1361435347, 1640403810, 1905808397, 2197175160, 2460548119, 2722870694, 2987750089, 3280807620, 3553878443, 3811616794, 4084100981]
theorem tab_of_laid {W : World} {l : List (String × DataW Unit)} (hl : laidMetH Tryz.prog l W) (hf : l.filter (fun x => x.1 == "ashlar/crc.halves") = [("ashlar/crc.halves", Rows.laid_ashlar_crc_halves)] := by kernel_rfl) : Tab W := by
 have h := laidMetH.filter (fun x => x.1 == "ashlar/crc.halves") hl
 rw [hf] at h
 have h1 : Lib.TabIs Tryz.prog W "ashlar/crc.halves" .u32 tabInts :=
  Lib.tabIs_of_head (rest := []) gTab gTabType Tryz.underlying204 Tryz.underlying33 cellsU32 cellsTab h
 intro i hi
 rw [h1.cell gTab i (by simpa [tabInts] using hi)]
 have : ∀ i, i < 16 → tabInts.getD i 0 = (tab i : Int) := by decide
 rw [this i hi]
theorem gSiz : Tryz.prog.globalNamed "ashlar/mark.sizes" = some 1 := by kernel_rfl
theorem gSizType : (Tryz.prog.globals[1]?).map (·.type) = some 198 := by kernel_rfl
theorem cellsSiz : Tryz.prog.cellsOf 198 = 4 := by kernel_rfl
theorem cellsInt1 : Tryz.prog.cellsOf 3 = 1 := by kernel_rfl
def sizInts : List Int := [8, 2, 8, 8]
theorem siz_of_laid {W : World} {l : List (String × DataW Unit)} (hl : laidMetH Tryz.prog l W) (hf : l.filter (fun x => x.1 == "ashlar/mark.sizes") = [("ashlar/mark.sizes", Rows.laid_ashlar_mark_sizes)] := by kernel_rfl) : W.rangeAt 1 0 (sizInts.map fun z => Value.int .i64 z) := by
 have h := laidMetH.filter (fun x => x.1 == "ashlar/mark.sizes") hl
 rw [hf] at h
 have h1 : Lib.TabIs Tryz.prog W "ashlar/mark.sizes" .i64 sizInts :=
  Lib.tabIs_of_head (rest := []) gSiz gSizType Tryz.underlying198 Tryz.underlying3 cellsInt1 cellsSiz h
 intro i v hv
 have hi : i < 4 := by simpa [sizInts] using (List.getElem?_eq_some_iff.1 hv).1
 rw [Nat.zero_add, h1.cell gSiz i (by simpa [sizInts] using hi), ← hv]
 match i, hi with
 | 0, _ => rfl
 | 1, _ => rfl
 | 2, _ => rfl
 | 3, _ => rfl
theorem gSizn : Tryz.prog.globalNamed "ashlar/note.sizes" = some 0 := by kernel_rfl
theorem gSiznType : (Tryz.prog.globals[0]?).map (·.type) = some 188 := by kernel_rfl
theorem cellsSizn : Tryz.prog.cellsOf 188 = 3 := by kernel_rfl
theorem cellsInt1n : Tryz.prog.cellsOf 3 = 1 := by kernel_rfl
def siznInts : List Int := [8, 2, 4]
theorem sizn_of_laid {W : World} {l : List (String × DataW Unit)} (hl : laidMetH Tryz.prog l W) (hf : l.filter (fun x => x.1 == "ashlar/note.sizes") = [("ashlar/note.sizes", Rows.laid_ashlar_note_sizes)] := by kernel_rfl) : W.rangeAt 0 0 (siznInts.map fun z => Value.int .i64 z) := by
 have h := laidMetH.filter (fun x => x.1 == "ashlar/note.sizes") hl
 rw [hf] at h
 have h1 : Lib.TabIs Tryz.prog W "ashlar/note.sizes" .i64 siznInts :=
  Lib.tabIs_of_head (rest := []) gSizn gSiznType Tryz.underlying188 Tryz.underlying3 cellsInt1n cellsSizn h
 intro i v hv
 have hi : i < 3 := by simpa [siznInts] using (List.getElem?_eq_some_iff.1 hv).1
 rw [Nat.zero_add, h1.cell gSizn i (by simpa [siznInts] using hi), ← hv]
 match i, hi with
 | 0, _ => rfl
 | 1, _ => rfl
 | 2, _ => rfl
def layTab (w : World) (g : Nat) (cs : Array Value) : World :=
 { w with heap := w.heap.modify g fun
   | .cells _ t frozen => .cells cs t frozen
   | o => o }
noncomputable def laidM (w : World) : World := layTab w 1 (sizInts.map fun z => Value.int .i64 z).toArray
noncomputable def laidN (w : World) : World := layTab w 0 (siznInts.map fun z => Value.int .i64 z).toArray
noncomputable def laidWorld (os : Os) : World :=
 laidN (laidM (layTab (World.holding Tryz.prog os ⟨#[], #[], []⟩) 2 (tabInts.map fun z => Value.int .u32 z).toArray))
abbrev Blk := Vector UInt8 64
def ap : Blk := Vector.replicate 64 0
def cel (b : Blk) : List Value := b.toList.map fun u => .int .u8 (u.toNat : Int)
def blk (b : Blk) : Value := .agg (cel b).toArray
def byt (b : Blk) (j : Nat) : Int := bt b.toList j
theorem byt_get (b : Blk) {j : Nat} (h : j < 64) : byt b j = (b[j].toNat : Int) := by
 unfold byt
 rw [fi (by simpa using h)]
 simp
theorem aA (b : Blk) : (cel b).length = 64 := by simp [cel]
theorem cel_at (b : Blk) {j : Nat} (h : j < 64) : (cel b)[j]? = some (.int .u8 (byt b j)) := by
 rw [byt_get b h]
 simp [cel, h]
theorem cel_one (b : Blk) : ∀ v ∈ cel b, v.oneCell' = true := by
 intro v hv
 simp only [cel, List.mem_map] at hv
 obtain ⟨u, _, rfl⟩ := hv
 rfl
theorem blk_ext {a b : Blk} (h : ∀ j, j < 64 → byt a j = byt b j) : a = b := by
 apply Vector.ext
 intro i hi
 have := h i hi
 rw [byt_get a hi, byt_get b hi] at this
 exact UInt8.toNat_inj.1 (by omega)
theorem er (b : Blk) : (blk b).cells = (cel b).toArray := rfl
theorem infoB : (Tryz.prog.info? 29).map (fun i => (i.zero, i.size, i.bytes)) = some (some (blk ap), 64, 64) := by kernel_rfl
theorem undB : Tryz.prog.underlying 29 = some (.array 64 5) := Tryz.underlying29
theorem sizeB : (Tryz.prog.info? 29).map (·.size) = some 64 := by kernel_rfl
theorem guardB : Tryz.prog.eqGuardType Tryz.prog.depth 29 = false := by kernel_rfl
section
variable {w : World} {b off : Nat} {c : Blk}
theorem run_load (hc : w.rangeAt b off (cel c)) : (Instr.loadAt 29 (.pointer (some ⟨b, off, none⟩))).run Tryz.prog w = .ok (blk c) w :=
 run_loadAt_mid w b off 29 (cel c) _ hc undB rfl (by rw [aA]; exact sizeB)
theorem run_store (ht : w.there b off 64) : (Instr.storeAt 29 (.pointer (some ⟨b, off, none⟩)) (blk c)).run Tryz.prog w = .ok () (w.setCells b off (cel c)) := by
 have := run_storeAt_mid (P := Tryz.prog) w b off 29 (cel c).toArray (by simpa [aA] using ht) (by simpa [aA] using sizeB) (all_oneCell_toArray (cel_one c))
 simpa [blk] using this
theorem run_zeroB (w : World) : (zeroValue 29).run Tryz.prog w = .ok (blk ap) w := by
 have h := infoB
 cases hq : Tryz.prog.info? 29 with
 | none => rw [hq] at h; cases h
 | some i =>
  rw [hq] at h
  simp only [Option.map_some, Option.some.injEq, Prod.mk.injEq] at h
  simp [zeroValue, typeInfo, hq, h.1]
theorem run_newVar (w : World) (v : Value) : (newVar 29 v).run Tryz.prog w = .ok ⟨w.heap.size, 0, none⟩ (w.alloc (.cells v.cells 29)) := by
 simp [newVar, newRow]
theorem run_box (w : World) (c : Blk) : (Instr.box 29 (blk c)).run Tryz.prog w = .ok (.pointer (some ⟨w.heap.size, 0, none⟩)) (w.alloc (.cells (cel c).toArray 29)) := by
 simp [Instr.box, run_newVar, er]
theorem run_alloc (w : World) : (Instr.alloc 29 true (.tuple #[])).run Tryz.prog w = .ok (.pointer (some ⟨w.heap.size, 0, none⟩)) (w.alloc (.cells (cel ap).toArray 29)) := by
 simp only [Instr.alloc, Sem.run_bind, run_zeroB, Result.andThen_ok, run_newVar, Sem.run_pure, er]
end
theorem run_partB (w : World) (c : Blk) (i : Nat) (hi : i < 64) : (part 5 (cel c).toArray (i * 1)).run Tryz.prog w = .ok (.int .u8 (byt c i)) w := by
 have := cel_at c hi
 simp [part, this]
theorem run_eqB (w : World) (a b : Blk) (d : Nat) : (Op.equalIn (d + 2) 29 (blk a) (blk b)).run Tryz.prog w = .ok (decide (a = b)) w := by
 have he : ∀ x y : Int, (Op.equalIn (d + 1) 5 (.int .u8 x) (.int .u8 y)).run Tryz.prog w = .ok (x == y) w := fun x y => run_equalIn_int w d 5 .u8 .u8 x y Tryz.underlying5
 show (Op.equalIn ((d + 1) + 1) 29 (blk a) (blk b)).run Tryz.prog w = .ok (decide (a = b)) w
 generalize d + 1 = e at *
 have key : ∀ (l : List Nat), (∀ i ∈ l, i < 64) →
   ((forIn l ((none : Option Bool), ()) fun i r => do
    let x ← part 5 (cel a).toArray (i * 1)
    let y ← part 5 (cel b).toArray (i * 1)
    let z ← Op.equalIn e 5 x y
    if (!z) = true then pure (ForInStep.done (some false, ())) else pure (ForInStep.yield (none, ())) : Sem _)).run Tryz.prog w =
   .ok (if l.all (fun i => byt a i == byt b i) then (none, ()) else (some false, ())) w := by
  intro l
  induction l with
  | nil => intro _; simp
  | cons i l ih =>
   intro hl
   have hi := hl i (by simp)
   simp only [List.forIn_cons, Sem.run_bind, run_partB w a i hi, run_partB w b i hi, Result.andThen_ok, he]
   by_cases h : byt a i = byt b i
   ·have hb : (byt a i == byt b i) = true := by simpa using h
    simp only [hb, Bool.not_true, Bool.false_eq_true, if_false, Sem.run_pure, Result.andThen_ok, List.all_cons, Bool.true_and]
    exact ih fun j hj => hl j (by simp [hj])
   ·have hb : (byt a i == byt b i) = false := by simpa using h
    simp [hb]
 have hall : ((List.range' 0 64).all fun i => byt a i == byt b i) = decide (a = b) := by
  rw [Bool.eq_iff_iff, List.all_eq_true, decide_eq_true_iff]
  constructor
  ·intro h
   exact blk_ext fun j hj => by simpa using h j (by simp [List.mem_range']; omega)
  ·rintro rfl i _
   simp
 have hk := key (List.range' 0 64) (fun i hi => by simp [List.mem_range'] at hi; omega)
 rw [hall] at hk
 simp only [Op.equalIn, blk, Sem.run_bind, run_underlying undB, Result.andThen_ok, Tryz.sizeOf5, Std.Legacy.Range.forIn_eq_forIn_range']
 simp only [Std.Legacy.Range.size, Nat.sub_zero, Nat.add_sub_cancel, Nat.div_one]
 rw [hk]
 by_cases h : a = b
 ·simp [h]
 ·simp [h]
def piece (b : List UInt8) (at_ k : Nat) : List UInt8 := (b.drop at_).take k
theorem bi {b : List UInt8} {p k : Nat} (h : p + k ≤ b.length) : (piece b p k).length = k := by simp [piece]; omega
def ofL (l : List UInt8) : Blk := Vector.ofFn fun i => l.getD i.val 0
theorem ofL_byt (l : List UInt8) {j : Nat} (h : j < 64) : byt (ofL l) j = bt l j := by
 rw [byt_get _ h]
 simp [ofL, bt]
theorem toList_ofL {l : List UInt8} (h : l.length = 64) : (ofL l).toList = l := eC (by simp [h]) fun k hk => ofL_byt l (by simpa using hk)
theorem bz (b : Blk) : b.toList.length = 64 := by simp
theorem dy {l : List UInt8} {p k j : Nat} (h : j < k) : bt (piece l p k) j = bt l (p + j) := by
 unfold bt piece
 simp [List.getD, List.getElem?_take_of_lt h, List.getElem?_drop]
theorem piece_eq {a b : List UInt8} {p q k : Nat} (ha : p + k ≤ a.length) (hb : q + k ≤ b.length) (h : ∀ j, j < k → bt a (p + j) = bt b (q + j)) : piece a p k = piece b q k :=
 eC (by rw [bi ha, bi hb]) fun j hj => by
  rw [bi ha] at hj
  rw [dy hj, dy hj, h j hj]
theorem of_piece_eq {a b : List UInt8} {p q k j : Nat} (h : piece a p k = piece b q k) (hj : j < k) : bt a (p + j) = bt b (q + j) := by
 rw [← dy hj, ← dy (l := b) hj, h]
theorem piece_mid (x y z : List UInt8) {p k : Nat} (hp : x.length = p) (hk : y.length = k) : piece (x ++ (y ++ z)) p k = y := by
 subst hp hk
 simp [piece]
theorem piece_head (y z : List UInt8) {k : Nat} (hk : y.length = k) : piece (y ++ z) 0 k = y := by
 subst hk
 simp [piece]
theorem bX {x y : List UInt8} {j : Nat} (h : j < x.length) : bt (x ++ y) j = bt x j := by
 unfold bt
 simp [List.getD, List.getElem?_append_left h]
theorem ct {x y : List UInt8} {j : Nat} (h : x.length ≤ j) : bt (x ++ y) j = bt y (j - x.length) := by
 unfold bt
 simp [List.getD, List.getElem?_append_right h]
theorem bt_noughts {n j : Nat} : bt (List.replicate n 0) j = 0 := by
 unfold bt
 by_cases h : j < n
 ·simp [List.getD, h]
 ·simp [List.getD, h]
theorem bt_splice {l x : List UInt8} {off j : Nat} (h : off + x.length ≤ l.length) : bt (splice l off x) j = if off ≤ j ∧ j < off + x.length then bt x (j - off) else bt l j := by
 unfold splice
 have h1 : (l.take off).length = off := by simp; omega
 by_cases hlo : j < off
 ·rw [if_neg (by omega), bX (by omega)]
  unfold bt
  simp [List.getD, List.getElem?_take_of_lt hlo]
 ·rw [ct (by omega), h1]
  by_cases hhi : j < off + x.length
  ·rw [if_pos (by omega), bX (by omega)]
  ·rw [if_neg (by omega), ct (by omega)]
   unfold bt
   simp only [List.getD, List.getElem?_drop]
   rw [show off + x.length + (j - off - x.length) = j from by omega]
end Go.Proofs.YtbbcdhkinbmdnaaGreatDoor
