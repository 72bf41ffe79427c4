/-
  The steps that are alike in all rows of this seat.
  A byte slice that came in reads as a list of bytes; how its length is bounded by the form's own reach.
  Plain mathematics of the sum, no program: a step, what so many steps make of a number, a byte that is taken in, bytes one behind the other.
  crc.Step, half, Take and the document's Step, Take: a step, half a byte, a byte taken in.
  crc.More, Of, Zeros and the document's: sums of whatever bytes behind whatever sum.
  The package-level table of crc: what the row's list gives the walks; a world in which it lies.
  Sealed sectors as lists of bytes, no program: what Put lays, what Get reads, what a torn one, and one with a byte changed, comes to.
  A block of memory that holds bytes, known whole: what copy lays into it; pieces of it.
  Blocks, and slices of blocks, that came in.
-/
import Derived.Test.YtiilclncedipiaaDoorRows
import Derived.Test.YtiilclncedipiaaDoorMA
import Derived.WalkKit
import Derived.ProofKit
import Derived.OpenShut
import Derived.ShutString
import Derived.ChangeOld
import Derived.SizedLaws
import Derived.JoinedCond
import Derived.Laws.BitsAllLaws
import Derived.Deep.DeepHandedRow
import Derived.Lib.LaidTab
import Derived.Lib.SmallJoins
import Derived.Laws.CopyOwn
import Derived.Deep.Slices
namespace Go.Proofs.YtiilclncedipiaaDoor
open Go.RowKit Go.ChangeShapes Go.WideShapes Go.ChangeAt

theorem own_knob : ownKnob Tryd.prog.godebug = none := by kernel_rfl
theorem laid_out : laidOutB Tryd.prog = true := by kernel_rfl
theorem u8cells : Tryd.prog.cellsOf 5 = 1 := by kernel_rfl
theorem u8bytes : Tryd.prog.bytesOf 5 = 1 := by kernel_rfl

/-- The bytes of a list of numbers that each fit a byte. -/
def toBytes (zs : List Int) : List UInt8 := zs.map fun z => UInt8.ofNat z.toNat
theorem bt_toBytes {zs : List Int} (h : ∀ z ∈ zs, (Lit.int .u8 z).wf = true) {k : Nat} (hk : k < zs.length) : bt (toBytes zs) k = zs.getD k 0 := by
  have hl : k < (toBytes zs).length := by simpa [toBytes] using hk
  have hb := h zs[k] (List.getElem_mem hk)
  have hr : 0 ≤ zs[k] ∧ zs[k] ≤ 255 := bounds_u8 hb
  rw [bt_get hl]
  simp only [toBytes, List.getElem_map, UInt8.toNat_ofNat', List.getD, List.getElem?_eq_getElem hk, Option.getD_some]
  omega

/-! What the bound of an '..UptoSaid' gives: the length of each slice. -/
theorem bulk_pos {H : Type} (d : DataW H) : 1 ≤ Rows.uptoBulk d := by
  cases d with
  | lit l => cases l <;> simp [Rows.uptoBulk]
  | _ => simp [Rows.uptoBulk]
theorem bulk_length {H : Type} (l : List (DataW H)) : l.length ≤ Rows.uptoBulkAll l := by
  induction l with
  | nil => simp [Rows.uptoBulkAll]
  | cons d r ih =>
    have h := bulk_pos d
    simp only [Rows.uptoBulkAll, List.length_cons]
    omega
theorem bulk_mem {H : Type} {d : DataW H} {l : List (DataW H)} (h : d ∈ l) : Rows.uptoBulk d ≤ Rows.uptoBulkAll l := by
  induction l with
  | nil => cases h
  | cons x r ih =>
    simp only [Rows.uptoBulkAll]
    rcases List.mem_cons.1 h with e | e
    · subst e; omega
    · have := ih e; omega
theorem bulk_all {H : Type} {l : List (DataW H)} (h : Rows.uptoSmall H l = true) : Rows.uptoBulkAll l ≤ 1048576 := of_decide_eq_true h

end Go.Proofs.YtiilclncedipiaaDoor
namespace Go.Proofs.YtiilclncedipiaaDoor
open Go.RowKit Go.ChangeShapes Go.WideShapes Go.ChangeAt
section
variable {H : Type} {enc : TypeId × Value → H} {W : World} {base : Nat} {v : Value} {d : DataW H} {p : List MemPlace}
theorem open_bytes (hv : Value.okWide Tryd.prog W .any base 39 v) (h : DataW.Trod enc Tryd.prog W 0 (fun _ => true) true 39 v d p) (hz : ∀ x ∈ DataW.weights Tryd.prog 39 d, x ≤ reachBytes) :
    ∃ (A : Option Addr) (n c : Nat) (l : List UInt8), v = .slice A n c ∧ Rd W W.heap.size A n l ∧ n ≤ 140737488351232 := by
  obtain ⟨a0, len0, cap0, rfl⟩ := okWide_slice Tryd.underlying39 hv
  obtain ⟨fuel, hf⟩ := h
  rcases open_ints Tryd.underlying39 Tryd.underlying5 u8cells hf with ⟨hcs, hx⟩ | ⟨x, l, c, zs, hcs, _, hl, hm, hzl, hx, hcell, hwz⟩
  · simp [Value.cells] at hcs
    obtain ⟨rfl, rfl, rfl⟩ := hcs
    exact ⟨none, 0, 0, [], rfl, Rd.nil _ _ _, by omega⟩
  · simp [Value.cells] at hcs
    obtain ⟨rfl, rfl, rfl⟩ := hcs
    simp only [Prod.mk.injEq] at hx
    obtain ⟨rfl, rfl⟩ := hx
    simp only [if_true] at hzl
    have hr := hz ((((lits (H := H) .u8 (zs.take len0)).length + (lits (H := H) .u8 (zs.drop len0)).length)) * Tryd.prog.bytesOf 5) (by simp [DataW.weights, Tryd.underlying39])
    rw [u8bytes] at hr
    simp only [lits, List.length_map, List.length_take, List.length_drop, reachBytes] at hr
    refine ⟨some x, len0, cap0, toBytes (zs.take len0), rfl, ⟨by simp [toBytes]; omega, fun k hk => ?_⟩, by omega⟩
    have hc := hcell k (by omega)
    obtain ⟨b, off, spot⟩ := x
    have hspot : spot = none := by
      have := World.cell?_spot (hcell 0 (by omega))
      simpa [Addr.add] using this
    subst hspot
    have hadd : (⟨b, off, none⟩ : Addr).add k = ⟨b, off + k, none⟩ := by unfold Addr.add; split <;> simp_all
    rw [hadd] at hc
    refine ⟨b, off, rfl, World.block_lt_of_cell? W _ hc, ?_⟩
    rw [hc, bt_toBytes (fun z hz => hwz z (List.mem_of_mem_take hz)) (by simp; omega)]
    congr 2
    simp [List.getD, List.getElem?_take_of_lt hk]
theorem open_small (hv : Value.okWide Tryd.prog W .any base 39 v) (h : DataW.Trod enc Tryd.prog W 0 (fun _ => true) true 39 v d p) (hz : Rows.uptoBulk d ≤ 1048576) :
    ∃ (A : Option Addr) (n c : Nat) (l : List UInt8), v = .slice A n c ∧ Rd W W.heap.size A n l ∧ n ≤ 1048576 := by
  obtain ⟨a0, len0, cap0, rfl⟩ := okWide_slice Tryd.underlying39 hv
  obtain ⟨fuel, hf⟩ := h
  rcases open_ints Tryd.underlying39 Tryd.underlying5 u8cells hf with ⟨hcs, hx⟩ | ⟨x, l, c, zs, hcs, _, hl, hm, hzl, hx, hcell, hwz⟩
  · simp [Value.cells] at hcs
    obtain ⟨rfl, rfl, rfl⟩ := hcs
    exact ⟨none, 0, 0, [], rfl, Rd.nil _ _ _, by omega⟩
  · simp [Value.cells] at hcs
    obtain ⟨rfl, rfl, rfl⟩ := hcs
    simp only [Prod.mk.injEq] at hx
    obtain ⟨rfl, rfl⟩ := hx
    simp only [if_true] at hzl
    have h1 := bulk_length (lits (H := H) .u8 (zs.take len0))
    simp only [Rows.uptoBulk] at hz
    simp only [lits, List.length_map, List.length_take] at h1 hz
    refine ⟨some x, len0, cap0, toBytes (zs.take len0), rfl, ⟨by simp [toBytes]; omega, fun k hk => ?_⟩, by omega⟩
    have hc := hcell k (by omega)
    obtain ⟨b, off, spot⟩ := x
    have hspot : spot = none := by
      have := World.cell?_spot (hcell 0 (by omega))
      simpa [Addr.add] using this
    subst hspot
    have hadd : (⟨b, off, none⟩ : Addr).add k = ⟨b, off + k, none⟩ := by unfold Addr.add; split <;> simp_all
    rw [hadd] at hc
    refine ⟨b, off, rfl, World.block_lt_of_cell? W _ hc, ?_⟩
    rw [hc, bt_toBytes (fun z hz => hwz z (List.mem_of_mem_take hz)) (by simp; omega)]
    congr 2
    simp [List.getD, List.getElem?_take_of_lt hk]
end
end Go.Proofs.YtiilclncedipiaaDoor
namespace Go.Proofs.YtiilclncedipiaaDoor

/-- A step of a number. -/
def stp (r : Nat) : Nat := if r % 2 = 1 then r / 2 ^^^ 2197175160 else r / 2
/-- So many steps. -/
def steps : Nat → Nat → Nat
  | 0, r => r
  | n + 1, r => steps n (stp r)
/-- A byte is taken in. -/
def tak (r c : Nat) : Nat := steps 8 (r ^^^ c)
/-- Bytes are taken in, one behind the other. -/
def run (r : Nat) (l : List UInt8) : Nat := l.foldl (fun r u => tak r u.toNat) r
def negm (m r : Nat) : Nat := m ^^^ r
def neg (r : Nat) : Nat := negm 4294967295 r
/-- The sum that goes on behind a sum. -/
def more (s : Nat) (l : List UInt8) : Nat := neg (run (neg s) l)
/-- What four steps make of half a byte. -/
def tab (i : Nat) : Nat := [0, 274646895, 549293790, 820201905, 1098587580, 1361435347, 1640403810, 1905808397, 2197175160, 2460548119, 2722870694, 2987750089, 3280807620, 3553878443, 3811616794, 4084100981].getD i 0
def hlf (r : Nat) : Nat := r / 16 ^^^ tab (r % 16)

theorem xor_lt {a b : Nat} (ha : a < 4294967296) (hb : b < 4294967296) : a ^^^ b < 4294967296 := Nat.xor_lt_two_pow (n := 32) ha hb
theorem stp_lt {r : Nat} (h : r < 4294967296) : stp r < 4294967296 := by
  unfold stp
  split
  · exact xor_lt (by omega) (by omega)
  · omega
theorem steps_lt (n : Nat) {r : Nat} (h : r < 4294967296) : steps n r < 4294967296 := by
  induction n generalizing r with
  | zero => exact h
  | succ n ih => exact ih (stp_lt h)
theorem tak_lt {r c : Nat} (h : r < 4294967296) (hc : c < 256) : tak r c < 4294967296 := steps_lt 8 (xor_lt h (by omega))
theorem run_lt {r : Nat} (h : r < 4294967296) (l : List UInt8) : run r l < 4294967296 := by
  induction l generalizing r with
  | nil => exact h
  | cons u l ih => exact ih (tak_lt h (UInt8.toNat_lt u))
theorem neg_lt {r : Nat} (h : r < 4294967296) : neg r < 4294967296 := xor_lt (by omega) h
theorem more_lt {s : Nat} (h : s < 4294967296) (l : List UInt8) : more s l < 4294967296 := neg_lt (run_lt (neg_lt h) l)
theorem negm_negm (m r : Nat) : negm m (negm m r) = r := by
  unfold negm
  rw [← Nat.xor_assoc, Nat.xor_self, Nat.zero_xor]
theorem neg_neg (r : Nat) : neg (neg r) = r := negm_negm 4294967295 r
theorem xor_negm (m r : Nat) : r ^^^ negm m r = m := by
  unfold negm
  rw [Nat.xor_comm m, ← Nat.xor_assoc, Nat.xor_self, Nat.zero_xor]
theorem xor_neg (r : Nat) : r ^^^ neg r = 4294967295 := xor_negm 4294967295 r
theorem neg_inj {a b : Nat} (h : neg a = neg b) : a = b := by
  rw [← neg_neg a, h, neg_neg]
theorem run_append (r : Nat) (a b : List UInt8) : run r (a ++ b) = run (run r a) b := by unfold run; rw [List.foldl_append]
theorem more_append (s : Nat) (a b : List UInt8) : more s (a ++ b) = more (more s a) b := by
  unfold more
  rw [neg_neg, run_append]

/-! Steps leave the exclusive or of two numbers. -/
theorem half_xor (a b : Nat) : (a ^^^ b) / 2 = a / 2 ^^^ b / 2 := by
  have h : (a ^^^ b) >>> 1 = a >>> 1 ^^^ b >>> 1 := Nat.shiftRight_xor_distrib
  simpa [Nat.shiftRight_succ] using h
theorem low_xor (a b : Nat) : (a ^^^ b) % 2 = 1 ↔ ¬ (a % 2 = 1 ↔ b % 2 = 1) := by
  have h : ((a ^^^ b) % 2 ^ 1) = (a % 2 ^ 1) ^^^ (b % 2 ^ 1) := Nat.xor_mod_two_pow
  rw [show (2 : Nat) ^ 1 = 2 from rfl] at h
  rw [h]
  rcases Nat.mod_two_eq_zero_or_one a with ha | ha <;> rcases Nat.mod_two_eq_zero_or_one b with hb | hb <;> rw [ha, hb] <;> decide
theorem xor4 (a b c d : Nat) : (a ^^^ b) ^^^ (c ^^^ d) = (a ^^^ c) ^^^ (b ^^^ d) := by
  rw [Nat.xor_assoc, ← Nat.xor_assoc b c d, Nat.xor_comm b c, Nat.xor_assoc c b d, ← Nat.xor_assoc]
theorem stp_xor (a b : Nat) : stp (a ^^^ b) = stp a ^^^ stp b := by
  unfold stp
  rw [half_xor]
  have hl := low_xor a b
  by_cases ha : a % 2 = 1 <;> by_cases hb : b % 2 = 1
  · rw [if_neg (by rw [hl]; simp [ha, hb]), if_pos ha, if_pos hb, xor4, Nat.xor_self, Nat.xor_zero]
  · rw [if_pos (by rw [hl]; simp [ha, hb]), if_pos ha, if_neg hb, Nat.xor_assoc, Nat.xor_comm (b / 2), ← Nat.xor_assoc]
  · rw [if_pos (by rw [hl]; simp [ha, hb]), if_neg ha, if_pos hb, Nat.xor_assoc]
  · rw [if_neg (by rw [hl]; simp [ha, hb]), if_neg ha, if_neg hb]
theorem steps_xor (n a b : Nat) : steps n (a ^^^ b) = steps n a ^^^ steps n b := by
  induction n generalizing a b with
  | zero => rfl
  | succ n ih => rw [steps, stp_xor, ih]; rfl
theorem steps_add (m n r : Nat) : steps (m + n) r = steps n (steps m r) := by
  induction m generalizing r with
  | zero => rw [Nat.zero_add]; rfl
  | succ m ih => rw [Nat.succ_add, steps, ih]; rfl
theorem stp_double (x : Nat) : stp (2 * x) = x := by
  unfold stp
  rw [if_neg (by omega)]
  omega
theorem steps_shift (n x : Nat) : steps n (2 ^ n * x) = x := by
  induction n with
  | zero => simp [steps]
  | succ n ih => rw [steps, Nat.pow_succ, Nat.mul_comm (2 ^ n) 2, Nat.mul_assoc, stp_double, ih]
theorem steps_zero (n : Nat) : steps n 0 = 0 := by
  have := steps_shift n 0
  simpa using this
/-- A number's low bits beside the others. -/
theorem parts_xor {n t : Nat} (q : Nat) (h : t < 2 ^ n) : 2 ^ n * q ^^^ t = 2 ^ n * q + t := by
  apply Nat.eq_of_testBit_eq
  intro i
  rw [Nat.testBit_xor, Nat.testBit_two_pow_mul_add q h, Nat.testBit_two_pow_mul]
  by_cases hi : i < n
  · simp [hi, Nat.not_le.2 hi]
  · have : t.testBit i = false := Nat.testBit_lt_two_pow (Nat.lt_of_lt_of_le h (Nat.pow_le_pow_right (by omega) (by omega)))
    simp [hi, this, Nat.le_of_not_lt hi]
theorem hlf_steps (r : Nat) : hlf r = steps 4 r := by
  have e : r = 2 ^ 4 * (r / 16) ^^^ r % 16 := by
    rw [parts_xor (n := 4) _ (by omega)]
    omega
  have h : ∀ t, t < 16 → tab t = steps 4 t := by decide
  conv => rhs; rw [e, steps_xor, steps_shift]
  unfold hlf
  rw [h _ (by omega)]
theorem tak_hlf (r c : Nat) : hlf (hlf (r ^^^ c)) = tak r c := by
  rw [hlf_steps, hlf_steps, ← steps_add]
  rfl

/-! Bytes that are taken in one behind the other are a number that is stepped. -/
theorem run_steps (r : Nat) (l : List UInt8) : run r l = steps (8 * l.length) (r ^^^ val 8 l) := by
  induction l generalizing r with
  | nil => simp [run, steps, val]
  | cons u l ih =>
    have e : run r (u :: l) = run (tak r u.toNat) l := rfl
    have hv : val 8 (u :: l) = 2 ^ 8 * val 8 l ^^^ u.toNat := by
      rw [parts_xor (n := 8) _ (UInt8.toNat_lt u), val]
      omega
    rw [e, ih, List.length_cons, Nat.mul_succ, Nat.add_comm, steps_add, hv, Nat.xor_comm (2 ^ 8 * val 8 l), ← Nat.xor_assoc, steps_xor 8 (r ^^^ u.toNat), steps_shift]
    rfl
theorem stp_inj {a b : Nat} (ha : a < 4294967296) (hb : b < 4294967296) (h : stp a = stp b) : a = b := by
  have hx : stp (a ^^^ b) = 0 := by rw [stp_xor, h, Nat.xor_self]
  have hl := xor_lt ha hb
  have hz : a ^^^ b = 0 := by
    generalize a ^^^ b = x at *
    unfold stp at hx
    split at hx
    · have h1 : x / 2 = 2197175160 := by
        have := congrArg (· ^^^ 2197175160) hx
        simpa [Nat.xor_assoc] using this
      omega
    · omega
  have := congrArg (· ^^^ b) hz
  simpa [Nat.xor_assoc] using this
theorem steps_inj (n : Nat) {a b : Nat} (ha : a < 4294967296) (hb : b < 4294967296) (h : steps n a = steps n b) : a = b := by
  induction n generalizing a b with
  | zero => exact h
  | succ n ih => exact stp_inj ha hb (ih (stp_lt ha) (stp_lt hb) h)
theorem xor_inj {r a b : Nat} (h : r ^^^ a = r ^^^ b) : a = b := by
  have := congrArg (r ^^^ ·) h
  simpa [← Nat.xor_assoc] using this
theorem run_inj {a b : Nat} (ha : a < 4294967296) (hb : b < 4294967296) (l : List UInt8) (h : run a l = run b l) : a = b := by
  induction l generalizing a b with
  | nil => exact h
  | cons u l ih =>
    have h2 := ih (tak_lt ha (UInt8.toNat_lt u)) (tak_lt hb (UInt8.toNat_lt u)) h
    have hu := UInt8.toNat_lt u
    have h3 := steps_inj 8 (xor_lt ha (by omega)) (xor_lt hb (by omega)) h2
    rw [Nat.xor_comm a, Nat.xor_comm b] at h3
    exact xor_inj h3
theorem val8_lt {l : List UInt8} (h : l.length ≤ 4) : val 8 l < 4294967296 := by
  have h1 := val_lt (all_256 l)
  have h2 : 2 ^ (8 * l.length) ≤ 2 ^ (8 * 4) := Nat.pow_le_pow_right (by omega) (Nat.mul_le_mul_left 8 h)
  exact Nat.lt_of_lt_of_le h1 h2
theorem val8_inj {a b : List UInt8} (hl : a.length = b.length) (h : val 8 a = val 8 b) : a = b := by
  rw [← digL_val (all_256 a), ← digL_val (all_256 b), hl, h]
/-- One row of up to four bytes changed is told. -/
theorem run_row {r : Nat} (hr : r < 4294967296) (p q q' s : List UInt8) (hl : q.length = q'.length) (h4 : q.length ≤ 4) (h : run r (p ++ q ++ s) = run r (p ++ q' ++ s)) : q = q' := by
  have hp := run_lt hr p
  rw [run_append, run_append, run_append, run_append] at h
  have h2 := run_inj (run_lt hp q) (run_lt hp q') s h
  rw [run_steps (run r p) q, run_steps (run r p) q', ← hl] at h2
  exact val8_inj hl (xor_inj (steps_inj _ (xor_lt hp (val8_lt h4)) (xor_lt hp (val8_lt (by omega))) h2))
/-- Bytes with their sum behind them have one sum. -/
theorem run_behind (r : Nat) (q : List UInt8) (h4 : q.length = 4) (hv : val 8 q = neg r) : run r q = run 4294967295 [0, 0, 0, 0] := by
  rw [run_steps, run_steps, hv, h4, xor_neg]
  rfl
end Go.Proofs.YtiilclncedipiaaDoor
namespace Go.Proofs.YtiilclncedipiaaDoor
open Go.RowKit
set_option linter.unusedVariables false

/-- The table lies in its variable. -/
def Tab (w : World) : Prop := ∀ i, i < 16 → w.cell? ⟨0, i, none⟩ = some (.int .u32 (tab i : Int))
theorem Tab.below {w w' : World} (h : Tab w) (hb : Below w.heap.size w w') : Tab w' := fun i hi => by
  rw [hb.cell (p := ⟨0, i, none⟩) (World.block_lt_of_cell? w _ (h i hi))]
  exact h i hi
theorem tab_lt (i : Nat) : tab i < 4294967296 := by
  by_cases h : i < 16
  · have : ∀ i, i < 16 → tab i < 4294967296 := by decide
    exact this i h
  · unfold tab
    rw [List.getD, List.getElem?_eq_none (by simp; omega)]
    simp
theorem hlf_lt {r : Nat} (h : r < 4294967296) : hlf r < 4294967296 := by
  rw [hlf_steps]
  exact steps_lt 4 h

theorem low_and (r : Nat) (h : r < 4294967296) : bits .and .u32 (r : Int) 15 = ((r % 16 : Nat) : Int) := by
  have h2 := u32_and_nat r 15 h (by omega)
  have h3 : r &&& 15 = r % 16 := Nat.and_two_pow_sub_one_eq_mod r 4
  rw [h3] at h2
  exact h2
theorem one_and (r : Nat) (h : r < 4294967296) : bits .and .u32 (r : Int) 1 = ((r % 2 : Nat) : Int) := by
  have h2 := u32_and_nat r 1 h (by omega)
  rw [Nat.and_one_is_mod] at h2
  exact h2

set_option maxHeartbeats 400000 in
theorem half_any (r : Nat) (w : World) (T : Tab w) (hr : r < 4294967296) :
    Calls Tryd.prog 72 #[.int .u32 r] w fun e w' => e = .returned (.int .u32 (hlf r)) ∧ w = w' := by
  have hl := low_and r hr
  have ht := T (r % 16) (by omega)
  have hlo : r % 16 < 16 := by omega
  go_enter Tryd.func72, Tryd.ntmps72
  go_wp2
  go_ret
  have e : ((r : Int) / 16) = ((r / 16 : Nat) : Int) := by omega
  refine ⟨ret_int ?_, rfl⟩
  rw [e, u32_xor_nat _ _ (by omega) (tab_lt _)]
  rfl

set_option maxHeartbeats 400000 in
theorem take_any (r c : Nat) (w : World) (T : Tab w) (hr : r < 4294967296) (hc : c < 256) :
    Calls Tryd.prog 70 #[.int .u32 r, .int .u8 c] w fun e w' => e = .returned (.int .u32 (tak r c)) ∧ w = w' := by
  have hx := u32_xor_nat r c hr (by omega)
  have hlt : r ^^^ c < 4294967296 := xor_lt hr (by omega)
  have hlt2 : hlf (r ^^^ c) < 4294967296 := hlf_lt hlt
  have HT : Hid (hlf (hlf (r ^^^ c)) = tak r c) := Lib.hid (tak_hlf r c)
  go_enter Tryd.func70, Tryd.ntmps70
  go_wp2_with fail
  refine (half_any (r ^^^ c) _ T hlt).mono ?_
  rintro e w' ⟨rfl, rfl⟩
  go_wp2_with fail
  refine (half_any (hlf (r ^^^ c)) _ T hlt2).mono ?_
  rintro e w' ⟨rfl, rfl⟩
  go_wp2
  go_ret
  exact ⟨ret_int (by rw [HT.out]), rfl⟩

set_option maxHeartbeats 400000 in
theorem refStep_any (r : Nat) (w : World) (hr : r < 4294967296) :
    Calls Tryd.prog 71 #[.int .u32 r] w fun e w' => e = .returned (.int .u32 (stp r)) ∧ w = w' := by
  have e : ((r : Int) / 2) = ((r / 2 : Nat) : Int) := by omega
  have hx := u32_xor_nat (r / 2) 2197175160 (by omega) (by omega)
  have HX := Lib.hid hx
  have HE := Lib.hid e
  clear e hx
  by_cases h : r % 2 = 1
  · have hs : stp r = r / 2 ^^^ 2197175160 := by unfold stp; rw [if_pos h]
    have HS := Lib.hid hs
    have hb : ((r : Int) % 2 == 1) = true := by simp; omega
    clear h hs
    go_enter Tryd.func71, Tryd.ntmps71
    go_wp2
    go_ret
    exact ⟨ret_int (by rw [HS.out, HE.out]; exact HX.out), rfl⟩
  · have hs : stp r = r / 2 := by unfold stp; rw [if_neg h]
    have HS := Lib.hid hs
    have hb : ((r : Int) % 2 == 1) = false := by simp; omega
    clear h hs
    go_enter Tryd.func71, Tryd.ntmps71
    go_wp2
    go_ret
    exact ⟨ret_int (by rw [HS.out, HE.out]), rfl⟩

theorem steps_snoc (n r : Nat) : steps (n + 1) r = stp (steps n r) := by rw [steps_add]; rfl
set_option maxHeartbeats 400000 in
theorem refTake_any (r c : Nat) (w : World) (hr : r < 4294967296) (hc : c < 256) :
    Calls Tryd.prog 69 #[.int .u32 r, .int .u8 c] w fun e w' => e = .returned (.int .u32 (tak r c)) ∧ w = w' := by
  have hx := u32_xor_nat r c hr (by omega)
  have hlt : r ^^^ c < 4294967296 := xor_lt hr (by omega)
  go_enter Tryd.func69, Tryd.ntmps69
  go_wp2
  have HX := Lib.hid hx
  clear hx
  go_loop [0, 5] (fun x i => ∃ j : Nat, j ≤ 8 ∧ i = .int .i64 j ∧ x = .int .u32 (steps j (r ^^^ c))) (fun _ i => 8 - (intOf i).toNat)
  case atStart => exact ⟨0, by omega, rfl, by first | rfl | rw [HX.out]; rfl⟩
  case round =>
    obtain ⟨j, hj, rfl, rfl⟩ := hrel
    have hl2 := steps_lt j hlt
    by_cases h8 : j < 8
    · go_wp2_with fail
      refine (refStep_any (steps j (r ^^^ c)) _ hl2).mono ?_
      rintro e w' ⟨rfl, rfl⟩
      go_wp2
      go_round
      case rel => exact ⟨j + 1, by omega, by go_num, by rw [steps_snoc]⟩
      case measure => simp [intOf]; omega
    · have h : j = 8 := by omega
      subst h
      go_wp2
      go_ret
      exact ⟨rfl, rfl⟩
end Go.Proofs.YtiilclncedipiaaDoor
namespace Go.Proofs.YtiilclncedipiaaDoor
open Go.RowKit
set_option linter.unusedVariables false

theorem max_u32 : IntKind.u32.max = 4294967295 := by decide
theorem neg_bits (r : Nat) (h : r < 4294967296) : bits .xor .u32 IntKind.u32.max (r : Int) = ((neg r : Nat) : Int) := by
  rw [max_u32]
  exact u32_xor_nat 4294967295 r (by omega) h
theorem run_snoc (r : Nat) (l : List UInt8) {k : Nat} (h : k < l.length) : tak (run r (l.take k)) l[k].toNat = run r (l.take (k + 1)) := by
  rw [List.take_succ_eq_append_getElem h, run_append]
  rfl

set_option maxHeartbeats 400000 in
theorem more_any (s : Nat) (A : Option Addr) (n c N : Nat) (b : List UInt8) (w : World) (T : Tab w) (hs : s < 4294967296) (hb : Rd w N A n b) (hn : n ≤ maxLen) :
    Calls Tryd.prog 67 #[.int .u32 s, .slice A n c] w fun e w' => e = .returned (.int .u32 (more s b)) ∧ w = w' := by
  have hnb := neg_bits s hs
  have hnl := neg_lt hs
  have hlen := hb.1
  unfold maxLen at hn
  have HL := Lib.hid hlen
  clear hlen
  go_enter Tryd.func67, Tryd.ntmps67
  go_wp2
  clear hnb
  have HM : Hid (more s b = neg (run (neg s) b)) := Lib.hid rfl
  generalize neg s = r0 at *
  go_loop [5, 12] (fun x i => ∃ j : Nat, j ≤ n ∧ i = .int .i64 j ∧ x = .int .u32 (run r0 (b.take j))) (fun _ i => n - (intOf i).toNat)
  case atStart => exact ⟨0, by omega, rfl, rfl⟩
  case round =>
    obtain ⟨j, hj, rfl, rfl⟩ := hrel
    by_cases hlt : j < n
    · obtain ⟨bA, oA, rfl, hA, cA⟩ := hb.2 j hlt
      have hjl : j < b.length := by have := HL.out; omega
      rw [bt_get hjl] at cA
      have HS := Lib.hid (run_snoc r0 b hjl)
      have hu := UInt8.toNat_lt b[j]
      generalize b[j].toNat = u at *
      have hrl := run_lt hnl (b.take j)
      go_wp2_with fail
      refine (take_any (run r0 (b.take j)) u _ T hrl hu).mono ?_
      rintro e w' ⟨rfl, rfl⟩
      go_wp2
      go_round
      case rel => exact ⟨j + 1, by omega, by go_num, by rw [HS.out]⟩
      case measure => simp [intOf]; omega
    · have h : j = n := by omega
      subst h
      have ht : b.take j = b := List.take_of_length_le (Nat.le_of_eq HL.out)
      rw [ht]
      have hrl := run_lt hnl b
      have hnb := neg_bits (run r0 b) hrl
      clear ht
      go_wp2
      go_ret
      exact ⟨ret_int (by first | rw [HM.out] | rw [HM.out, hnb]), rfl⟩

set_option maxHeartbeats 400000 in
theorem refMore_any (s : Nat) (A : Option Addr) (n c N : Nat) (b : List UInt8) (w : World) (hs : s < 4294967296) (hb : Rd w N A n b) (hn : n ≤ maxLen) :
    Calls Tryd.prog 59 #[.int .u32 s, .slice A n c] w fun e w' => e = .returned (.int .u32 (more s b)) ∧ w = w' := by
  have hnb := neg_bits s hs
  have hnl := neg_lt hs
  have hlen := hb.1
  unfold maxLen at hn
  have HL := Lib.hid hlen
  clear hlen
  go_enter Tryd.func59, Tryd.ntmps59
  go_wp2
  clear hnb
  have HM : Hid (more s b = neg (run (neg s) b)) := Lib.hid rfl
  generalize neg s = r0 at *
  go_loop [5, 6] (fun x i => ∃ j : Nat, j ≤ n ∧ i = .int .i64 j ∧ x = .int .u32 (run r0 (b.take j))) (fun _ i => n - (intOf i).toNat)
  case atStart => exact ⟨0, by omega, rfl, rfl⟩
  case round =>
    obtain ⟨j, hj, rfl, rfl⟩ := hrel
    by_cases hlt : j < n
    · obtain ⟨bA, oA, rfl, hA, cA⟩ := hb.2 j hlt
      have hjl : j < b.length := by have := HL.out; omega
      rw [bt_get hjl] at cA
      have HS := Lib.hid (run_snoc r0 b hjl)
      have hu := UInt8.toNat_lt b[j]
      generalize b[j].toNat = u at *
      have hrl := run_lt hnl (b.take j)
      go_wp2_with fail
      refine (refTake_any (run r0 (b.take j)) u _ hrl hu).mono ?_
      rintro e w' ⟨rfl, rfl⟩
      go_wp2
      go_round
      case rel => exact ⟨j + 1, by omega, by go_num, by rw [HS.out]⟩
      case measure => simp [intOf]; omega
    · have h : j = n := by omega
      subst h
      have ht : b.take j = b := List.take_of_length_le (Nat.le_of_eq HL.out)
      rw [ht]
      have hrl := run_lt hnl b
      have hnb := neg_bits (run r0 b) hrl
      clear ht
      go_wp2
      go_ret
      exact ⟨ret_int (by first | rw [HM.out] | rw [HM.out, hnb]), rfl⟩

theorem of_any (A : Option Addr) (n c N : Nat) (b : List UInt8) (w : World) (T : Tab w) (hb : Rd w N A n b) (hn : n ≤ maxLen) :
    Calls Tryd.prog 48 #[.slice A n c] w fun e w' => e = .returned (.int .u32 (more 0 b)) ∧ w = w' := by
  go_enter Tryd.func48, Tryd.ntmps48
  go_wp2_with fail
  refine (more_any 0 A n c N b _ T (by omega) hb hn).mono ?_
  rintro e w' ⟨rfl, rfl⟩
  go_wp2
  go_ret
  exact ⟨rfl, rfl⟩
theorem refOf_any (A : Option Addr) (n c N : Nat) (b : List UInt8) (w : World) (hb : Rd w N A n b) (hn : n ≤ maxLen) :
    Calls Tryd.prog 40 #[.slice A n c] w fun e w' => e = .returned (.int .u32 (more 0 b)) ∧ w = w' := by
  go_enter Tryd.func40, Tryd.ntmps40
  go_wp2_with fail
  refine (refMore_any 0 A n c N b _ (by omega) hb hn).mono ?_
  rintro e w' ⟨rfl, rfl⟩
  go_wp2
  go_ret
  exact ⟨rfl, rfl⟩

/-- So many bytes 0. -/
def noughts (n : Nat) : List UInt8 := List.replicate n 0
theorem run_noughts (r k : Nat) : tak (run r (noughts k)) 0 = run r (noughts (k + 1)) := by
  unfold noughts
  rw [List.replicate_succ', run_append]
  rfl
end Go.Proofs.YtiilclncedipiaaDoor
namespace Go.Proofs.YtiilclncedipiaaDoor
open Go.RowKit Go.ChangeShapes Go.WideShapes Go.ChangeAt

theorem gTab : Tryd.prog.globalNamed "ashlar/crc.halves" = some 0 := by kernel_rfl
theorem gTabType : (Tryd.prog.globals[0]?).map (·.type) = some 98 := by kernel_rfl
theorem cellsTab : Tryd.prog.cellsOf 98 = 16 := by kernel_rfl
theorem cellsU32 : Tryd.prog.cellsOf 68 = 1 := by kernel_rfl
def tabInts : List Int := [0, 274646895, 549293790, 820201905, 1098587580, 1361435347, 1640403810, 1905808397, 2197175160, 2460548119, 2722870694, 2987750089, 3280807620, 3553878443, 3811616794, 4084100981]
theorem tab_of_laid {W : World} (h : laidMetH Tryd.prog [("ashlar/crc.halves", Rows.laid_ashlar_crc_halves)] W) : Tab W := by
  have h1 : Lib.TabIs Tryd.prog W "ashlar/crc.halves" .u32 tabInts :=
    Lib.tabIs_of_head (rest := []) gTab gTabType Tryd.underlying98 Tryd.underlying68 cellsU32 cellsTab h
  intro i hi
  rw [h1.cell gTab i (by simpa [tabInts] using hi)]
  have : ∀ i, i < 16 → tabInts.getD i 0 = (tab i : Int) := by decide
  rw [this i hi]

/-- A world for the witness: the table holds what its initialiser lays. -/
noncomputable def laidWorld (os : Os) : World :=
  { World.holding Tryd.prog os ⟨#[], #[], []⟩ with heap := (World.holding Tryd.prog os ⟨#[], #[], []⟩).heap.modify 0 fun
      | .cells _ t frozen => .cells (tabInts.map fun z => Value.int .u32 z).toArray t frozen
      | o => o }

section
variable {H : Type} {enc : TypeId × Value → H} {W : World} {base : Nat} {v : Value} {d : DataW H} {p : List MemPlace}
theorem one_byte {m : Nat} {x : Value} {y : DataW H × List MemPlace} (h : DataW.trod enc Tryd.prog W 0 (fun _ => true) true m 5 [x] = some y) : ∃ u : UInt8, x = .int .u8 (u.toNat : Int) := by
  obtain ⟨k, e, _, hw⟩ := DataW.trod_int Tryd.underlying5 h
  have hr : 0 ≤ k ∧ k ≤ 255 := bounds_u8 hw
  injection e with e
  refine ⟨UInt8.ofNat k.toNat, ?_⟩
  rw [e, UInt8.toNat_ofNat']
  congr 1
  omega
end
end Go.Proofs.YtiilclncedipiaaDoor
namespace Go.Proofs.YtiilclncedipiaaDoor
open Go.RowKit
set_option linter.unusedVariables false

/-- A body with 0s behind it. -/
def padL (b : List UInt8) : List UInt8 := b ++ List.replicate (44 - b.length) 0
/-- All ahead of the sum. -/
def headL (n : Nat) (b : List UInt8) : List UInt8 := digL 8 8 n ++ padL b
/-- A sealed sector's bytes. -/
def sealL (n : Nat) (b : List UInt8) : List UInt8 := headL n b ++ (digL 8 4 (more 0 (headL n b)) ++ digL 8 8 n)
theorem padL_length {b : List UInt8} (h : b.length ≤ 44) : (padL b).length = 44 := by simp [padL]; omega
theorem headL_length {b : List UInt8} (n : Nat) (h : b.length ≤ 44) : (headL n b).length = 52 := by simp [headL, length_digL, padL_length h]
theorem sealL_length {b : List UInt8} (n : Nat) (h : b.length ≤ 44) : (sealL n b).length = 64 := by simp [sealL, length_digL, headL_length n h]

/-! A list of 64 bytes as a block. -/
def ofL (l : List UInt8) : Blk := Vector.ofFn fun i => l.getD i.val 0
theorem ofL_byt (l : List UInt8) {j : Nat} (h : j < 64) : byt (ofL l) j = bt l j := by
  rw [byt_get _ h]
  simp [ofL, bt]
theorem toList_ofL {l : List UInt8} (h : l.length = 64) : (ofL l).toList = l := eq_of_bt (by simp [h]) fun k hk => ofL_byt l (by simpa using hk)
theorem ofL_toList (b : Blk) : ofL b.toList = b := blk_ext fun j h => ofL_byt _ h
theorem toList_len (b : Blk) : b.toList.length = 64 := by simp

/-! Pieces. -/
theorem bt_piece {l : List UInt8} {p k j : Nat} (h : j < k) : bt (piece l p k) j = bt l (p + j) := by
  unfold bt piece
  simp [List.getD, List.getElem?_take_of_lt h, List.getElem?_drop]
theorem piece_eq {a b : List UInt8} {p q k : Nat} (ha : p + k ≤ a.length) (hb : q + k ≤ b.length) (h : ∀ j, j < k → bt a (p + j) = bt b (q + j)) : piece a p k = piece b q k :=
  eq_of_bt (by rw [length_piece ha, length_piece hb]) fun j hj => by
    rw [length_piece ha] at hj
    rw [bt_piece hj, bt_piece hj, h j hj]
theorem of_piece_eq {a b : List UInt8} {p q k j : Nat} (h : piece a p k = piece b q k) (hj : j < k) : bt a (p + j) = bt b (q + j) := by
  rw [← bt_piece hj, ← bt_piece (l := b) hj, h]
theorem piece_mid (x y z : List UInt8) {p k : Nat} (hp : x.length = p) (hk : y.length = k) : piece (x ++ (y ++ z)) p k = y := by
  subst hp hk
  simp [piece]
theorem piece_head (y z : List UInt8) {k : Nat} (hk : y.length = k) : piece (y ++ z) 0 k = y := by
  subst hk
  simp [piece]
theorem val_piece_inj {a b : List UInt8} {p q k : Nat} (ha : p + k ≤ a.length) (hb : q + k ≤ b.length) (h : val 8 (piece a p k) = val 8 (piece b q k)) : piece a p k = piece b q k :=
  val8_inj (by rw [length_piece ha, length_piece hb]) h

/-! What Get reads. -/
def numO (l : List UInt8) : Nat := val 8 (piece l 0 8)
def agO (l : List UInt8) : Nat := val 8 (piece l 56 8)
def sumO (l : List UInt8) : Nat := val 8 (piece l 52 4)
def crcO (l : List UInt8) : Nat := more 0 (piece l 0 52)
def getE (l : List UInt8) : Nat := if numO l = 0 ∨ numO l ≠ agO l then 5 else if sumO l ≠ crcO l then 6 else 0
def getN (l : List UInt8) : Nat := if getE l = 0 then numO l else 0
def getB (l : List UInt8) : List UInt8 := if getE l = 0 then piece l 8 44 else []
theorem getE_form {l : List UInt8} (h : numO l = 0 ∨ numO l ≠ agO l) : getE l = 5 := by unfold getE; rw [if_pos h]
theorem getE_sum {l : List UInt8} (h0 : numO l ≠ 0) (h1 : numO l = agO l) (h : sumO l ≠ crcO l) : getE l = 6 := by
  unfold getE
  rw [if_neg (by omega), if_pos h]
theorem getE_ok {l : List UInt8} (h0 : numO l ≠ 0) (h1 : numO l = agO l) (h : sumO l = crcO l) : getE l = 0 := by
  unfold getE
  rw [if_neg (by omega), if_neg (by omega)]
theorem of_getE {l : List UInt8} (h : getE l = 0) : numO l ≠ 0 ∧ numO l = agO l ∧ sumO l = crcO l := by
  unfold getE at h
  split at h
  · omega
  · split at h
    · omega
    · omega
theorem getE_three (l : List UInt8) : getE l = 0 ∨ getE l = 5 ∨ getE l = 6 := by
  unfold getE
  split
  · omega
  · split <;> omega
theorem getN_of {l : List UInt8} (h : getE l = 0) : getN l = numO l := if_pos h
theorem getN_no {l : List UInt8} (h : getE l ≠ 0) : getN l = 0 := if_neg h
theorem getB_of {l : List UInt8} (h : getE l = 0) : getB l = piece l 8 44 := if_pos h
theorem getB_no {l : List UInt8} (h : getE l ≠ 0) : getB l = [] := if_neg h
theorem getN_zero {l : List UInt8} : getN l = 0 ↔ getE l ≠ 0 := by
  constructor
  · intro h e
    rw [getN_of e] at h
    exact (of_getE e).1 h
  · exact getN_no
theorem numO_lt {l : List UInt8} (h : l.length = 64) : numO l < 18446744073709551616 := val_piece_lt (b := l) (p := 0) (k := 8) (by omega)
theorem agO_lt {l : List UInt8} (h : l.length = 64) : agO l < 18446744073709551616 := val_piece_lt (b := l) (p := 56) (k := 8) (by omega)
theorem sumO_lt {l : List UInt8} (h : l.length = 64) : sumO l < 4294967296 := val_piece_lt (b := l) (p := 52) (k := 4) (by omega)
theorem crcO_lt (l : List UInt8) : crcO l < 4294967296 := more_lt (by omega) _
theorem getN_lt {l : List UInt8} (h : l.length = 64) : getN l < 18446744073709551616 := by
  have := numO_lt h
  unfold getN
  split <;> omega
/-- Which of two is the newest. -/
def newW (a b : List UInt8) : Nat := if getN a < getN b then 1 else 0
def newE (a b : List UInt8) : Nat := if getN a = 0 ∧ getN b = 0 then 7 else 0

/-! What Put lays is got. -/
theorem seal_first (n : Nat) (b : List UInt8) : piece (sealL n b) 0 8 = digL 8 8 n := by
  rw [show sealL n b = digL 8 8 n ++ (padL b ++ (digL 8 4 (more 0 (headL n b)) ++ digL 8 8 n)) from by simp [sealL, headL]]
  exact piece_head _ _ (length_digL _ _ _)
theorem seal_num {n : Nat} {b : List UInt8} (hn : n < 18446744073709551616) : numO (sealL n b) = n := by
  unfold numO
  rw [seal_first, val_digL (by omega)]
  exact Nat.mod_eq_of_lt hn
section
variable {n : Nat} {b : List UInt8} (hb : b.length ≤ 44)
include hb
theorem seal_last : piece (sealL n b) 56 8 = digL 8 8 n := by
  rw [show sealL n b = (headL n b ++ digL 8 4 (more 0 (headL n b))) ++ (digL 8 8 n ++ []) from by simp [sealL]]
  exact piece_mid _ _ _ (by simp [headL_length n hb, length_digL]) (length_digL _ _ _)
theorem seal_sum : piece (sealL n b) 52 4 = digL 8 4 (more 0 (headL n b)) := piece_mid _ _ _ (headL_length n hb) (length_digL _ _ _)
theorem seal_head : piece (sealL n b) 0 52 = headL n b := piece_head _ _ (headL_length n hb)
theorem seal_body : piece (sealL n b) 8 44 = padL b := by
  rw [show sealL n b = digL 8 8 n ++ (padL b ++ (digL 8 4 (more 0 (headL n b)) ++ digL 8 8 n)) from by simp [sealL, headL]]
  exact piece_mid _ _ _ (length_digL _ _ _) (padL_length hb)
theorem seal_ag (hn : n < 18446744073709551616) : agO (sealL n b) = n := by
  unfold agO
  rw [seal_last hb, val_digL (by omega)]
  exact Nat.mod_eq_of_lt hn
theorem seal_ok (hn : n < 18446744073709551616) (h0 : n ≠ 0) : getE (sealL n b) = 0 := by
  refine getE_ok (by rw [seal_num hn]; exact h0) (by rw [seal_num hn, seal_ag hb hn]) ?_
  unfold sumO crcO
  rw [seal_sum hb, seal_head hb, val_digL (by omega)]
  exact Nat.mod_eq_of_lt (more_lt (by omega) _)
theorem seal_getN (hn : n < 18446744073709551616) (h0 : n ≠ 0) : getN (sealL n b) = n := by rw [getN_of (seal_ok hb hn h0), seal_num hn]
theorem seal_getB (hn : n < 18446744073709551616) (h0 : n ≠ 0) : getB (sealL n b) = padL b := by rw [getB_of (seal_ok hb hn h0), seal_body hb]
end

/-! What Put answers. -/
def putE (n : Nat) (b : List UInt8) : Nat := if n = 0 then 2 else if 44 < b.length then 3 else 0
def putB (n : Nat) (b : List UInt8) : Blk := if putE n b = 0 then ofL (sealL n b) else zeroB
theorem putE_ok {n : Nat} {b : List UInt8} (h0 : n ≠ 0) (hb : b.length ≤ 44) : putE n b = 0 := by unfold putE; rw [if_neg h0, if_neg (by omega)]
theorem of_putE {n : Nat} {b : List UInt8} (h : putE n b = 0) : n ≠ 0 ∧ b.length ≤ 44 := by
  unfold putE at h
  split at h
  · omega
  · split at h <;> omega
theorem putB_ok {n : Nat} {b : List UInt8} (h : putE n b = 0) : putB n b = ofL (sealL n b) := if_pos h
theorem putB_list {n : Nat} {b : List UInt8} (h : putE n b = 0) : (putB n b).toList = sealL n b := by
  rw [putB_ok h, toList_ofL (sealL_length n (of_putE h).2)]
theorem put_getE {n : Nat} {b : List UInt8} (hn : n < 18446744073709551616) (h : putE n b = 0) : getE (putB n b).toList = 0 := by
  rw [putB_list h]; exact seal_ok (of_putE h).2 hn (of_putE h).1
theorem put_getN {n : Nat} {b : List UInt8} (hn : n < 18446744073709551616) (h : putE n b = 0) : getN (putB n b).toList = n := by
  rw [putB_list h]; exact seal_getN (of_putE h).2 hn (of_putE h).1
theorem put_getB {n : Nat} {b : List UInt8} (hn : n < 18446744073709551616) (h : putE n b = 0) : getB (putB n b).toList = padL b := by
  rw [putB_list h]; exact seal_getB (of_putE h).2 hn (of_putE h).1
theorem zero_getE : getE zeroB.toList = 5 := getE_form (.inl (by decide +kernel))

/-! What is refused. -/
theorem ends_of {b : Blk} (h : numO b.toList = agO b.toList) {j : Nat} (hj : j < 8) : byt b j = byt b (56 + j) := by
  have := of_piece_eq (val_piece_inj (by simp) (by simp) h) hj
  rwa [Nat.zero_add] at this
theorem num_of_ends {a b : Blk} (h : ∀ j, j < 8 → byt a j = byt b j) : numO a.toList = numO b.toList := by
  unfold numO
  rw [piece_eq (a := a.toList) (b := b.toList) (p := 0) (q := 0) (k := 8) (by simp) (by simp) fun j hj => by rw [Nat.zero_add]; exact h j hj]
/-- A torn sector whose numbers are alike is the old one, or the new one. -/
theorem torn_whole {old now : Blk} {n : Int} (hn : numO now.toList = agO now.toList) (ho : numO old.toList = agO old.toList) (hne : numO now.toList ≠ numO old.toList) (h : numO (torn old now n).toList = agO (torn old now n).toList) :
    torn old now n = now ∨ torn old now n = old := by
  by_cases hk : 56 < n
  · left
    apply blk_ext
    intro j hj
    rw [torn_byt _ _ _ hj]
    split
    · rfl
    · rename_i hlt
      have e := ends_of h (j := j - 56) (by omega)
      rw [torn_byt _ _ _ (by omega), torn_byt _ _ _ (by omega), if_pos (by omega), if_neg (by omega), ends_of hn (by omega)] at e
      rw [show 56 + (j - 56) = j from by omega] at e
      exact e.symm
  · by_cases h8 : 8 ≤ n
    · exfalso
      apply hne
      apply num_of_ends
      intro j hj
      have e := ends_of h hj
      rw [torn_byt _ _ _ (by omega), torn_byt _ _ _ (by omega), if_pos (by omega), if_neg (by omega), ← ends_of ho hj] at e
      exact e
    · right
      apply blk_ext
      intro j hj
      rw [torn_byt _ _ _ hj]
      split
      · rename_i hlt
        have hj8 : j < 8 := by omega
        have e := ends_of h hj8
        rw [torn_byt _ _ _ (by omega), torn_byt _ _ _ (by omega), if_pos (by omega), if_neg (by omega), ← ends_of ho hj8] at e
        exact e
      · rfl
theorem piece_split {l : List UInt8} {k : Nat} (hk : k < 52) (hl : l.length = 64) : piece l 0 52 = l.take k ++ [l.getD k 0] ++ (l.drop (k + 1)).take (51 - k) := by
  have hlt : k < l.length := by omega
  have e : l = l.take k ++ ([l.getD k 0] ++ l.drop (k + 1)) := by
    rw [List.getD, List.getElem?_eq_getElem hlt]
    simp [List.take_append_drop]
  unfold piece
  rw [List.drop_zero]
  conv => lhs; rw [e]
  rw [List.take_append, List.take_append, List.length_take, Nat.min_eq_left (by omega), List.take_take, Nat.min_eq_right (by omega)]
  rw [show 52 - k = (51 - k) + 1 from by omega]
  simp
/-- A sealed sector with one byte changed is refused. -/
theorem byte_no {b c : Blk} {k : Nat} (hk : k < 64) (h : getE b.toList = 0) (hother : ∀ j, j < 64 → j ≠ k → byt c j = byt b j) (hne : byt c k ≠ byt b k) : getE c.toList ≠ 0 := by
  intro hc
  obtain ⟨_, hb1, hb2⟩ := of_getE h
  obtain ⟨_, hc1, hc2⟩ := of_getE hc
  by_cases h8 : k < 8
  · have e1 := ends_of hb1 h8
    have e2 := ends_of hc1 h8
    rw [hother (56 + k) (by omega) (by omega)] at e2
    exact hne (by rw [e2, e1])
  · by_cases h56 : 56 ≤ k
    · have e1 := ends_of hb1 (j := k - 56) (by omega)
      have e2 := ends_of hc1 (j := k - 56) (by omega)
      rw [hother (k - 56) (by omega) (by omega)] at e2
      rw [show 56 + (k - 56) = k from by omega] at e1 e2
      exact hne (by rw [← e2, e1])
    · by_cases h52 : 52 ≤ k
      · have e : crcO c.toList = crcO b.toList := by
          unfold crcO
          rw [piece_eq (a := c.toList) (b := b.toList) (p := 0) (q := 0) (k := 52) (by simp) (by simp) fun j hj => by rw [Nat.zero_add]; exact hother j (by omega) (by omega)]
        have e2 : val 8 (piece c.toList 52 4) = val 8 (piece b.toList 52 4) := by
          have : sumO c.toList = sumO b.toList := by rw [hc2, hb2, e]
          exact this
        have e3 := of_piece_eq (val_piece_inj (by simp) (by simp) e2) (j := k - 52) (by omega)
        rw [show 52 + (k - 52) = k from by omega] at e3
        exact hne e3
      · have e : sumO c.toList = sumO b.toList := by
          unfold sumO
          rw [piece_eq (a := c.toList) (b := b.toList) (p := 52) (q := 52) (k := 4) (by simp) (by simp) fun j hj => hother (52 + j) (by omega) (by omega)]
        have e2 : more 0 (piece c.toList 0 52) = more 0 (piece b.toList 0 52) := by
          have : crcO c.toList = crcO b.toList := by rw [← hc2, ← hb2, e]
          exact this
        rw [piece_split (k := k) (by omega) (by simp), piece_split (l := b.toList) (k := k) (by omega) (by simp)] at e2
        have hp : c.toList.take k = b.toList.take k := by
          apply eq_of_bt (by simp)
          intro j hj
          have hj' : j < k := by simp at hj; omega
          have e4 := hother j (by omega) (by omega)
          unfold byt bt at e4
          unfold bt
          simpa [List.getD, List.getElem?_take_of_lt hj'] using e4
        have hs : (c.toList.drop (k + 1)).take (51 - k) = (b.toList.drop (k + 1)).take (51 - k) := by
          apply piece_eq (a := c.toList) (b := b.toList) (p := k + 1) (q := k + 1) (k := 51 - k) (by simp; omega) (by simp; omega)
          intro j hj
          exact hother (k + 1 + j) (by omega) (by omega)
        rw [hp, hs] at e2
        unfold more at e2
        have e5 := run_row (neg_lt (by omega)) _ [c.toList.getD k 0] [b.toList.getD k 0] _ rfl (by simp) (neg_inj e2)
        apply hne
        unfold byt bt
        rw [List.cons_eq_cons.1 e5 |>.1]
end Go.Proofs.YtiilclncedipiaaDoor
namespace Go.Proofs.YtiilclncedipiaaDoor
open Go.RowKit
set_option linter.unusedVariables false

/-- Bytes as cells. -/
def vals (l : List UInt8) : List Value := l.map fun u => .int .u8 (u.toNat : Int)
theorem vals_length (l : List UInt8) : (vals l).length = l.length := by simp [vals]
theorem vals_one (l : List UInt8) : ∀ v ∈ vals l, v.oneCell' = true := by
  intro v hv
  simp only [vals, List.mem_map] at hv
  obtain ⟨u, _, rfl⟩ := hv
  rfl
theorem vals_at {l : List UInt8} {j : Nat} (h : j < l.length) : (vals l)[j]? = some (.int .u8 (bt l j)) := by
  rw [bt_get h]
  simp [vals, h]
theorem vals_cel (b : Blk) : vals b.toList = cel b := rfl
theorem splice_vals (l x : List UInt8) (off : Nat) : splice (vals l) off (vals x) = vals (splice l off x) := by
  unfold splice vals
  simp [List.map_take, List.map_drop]
/-- Block g holds just these bytes. -/
def RowL (w : World) (g : Nat) (t : TypeId) (l : List UInt8) : Prop := w.heap[g]? = some (.cells (vals l).toArray t (0, 0))
section
variable {w w' : World} {g : Nat} {t : TypeId} {l : List UInt8}
theorem RowL.lt (h : RowL w g t l) : g < w.heap.size := (Array.getElem?_eq_some_iff.1 h).1
theorem RowL.below {B : Nat} (h : RowL w g t l) (hB : g < B) (hb : Below B w w') : RowL w' g t l := (hb.block g hB).trans h
theorem RowL.grown {k : Nat} (h : RowL w g t l) (hk : g ≠ k) (hb : w.grownBy w' (some k)) : RowL w' g t l := (hb.block g h.lt (fun e => hk (by injection e))).trans h
theorem RowL.draw (h : RowL w g t l) : RowL w.drew g t l := h
theorem RowL.past (h : RowL w g t l) (o : Obj) : RowL (w.alloc o) g t l := blk_past h o
theorem RowL.cell (h : RowL w g t l) {j : Nat} (hj : j < l.length) : w.cell? ⟨g, j, none⟩ = some (.int .u8 (bt l j)) := by
  rw [cell_of_row w g j _ t (0, 0) h, List.getElem?_toArray, vals_at hj]
theorem RowL.rd (h : RowL w g t l) {p k : Nat} (hp : p + k ≤ l.length) : Rd w w.heap.size (some ⟨g, p, none⟩) k (piece l p k) :=
  ⟨length_piece hp, fun j hj => ⟨g, p, rfl, h.lt, by rw [h.cell (by omega), bt_piece hj]⟩⟩
theorem RowL.range (h : RowL w g t l) (hl : l.length = 64) : w.rangeAt g 0 (cel (ofL l)) := fun j v hj => by
  have hlt : j < 64 := by have := (List.getElem?_eq_some_iff.1 hj).1; rwa [cel_length] at this
  rw [Nat.zero_add, h.cell (by omega), ← hj, cel_at _ hlt, ofL_byt _ hlt]
theorem RowL.new (w : World) (l : List UInt8) (t : TypeId) : RowL (w.alloc (.cells (vals l).toArray t)) w.heap.size t l := heap_alloc_new w _
theorem RowL.blk (w : World) (b : Blk) (t : TypeId) : RowL (w.alloc (.cells (cel b).toArray t)) w.heap.size t b.toList := heap_alloc_new w _
theorem RowL.row (h : RowL w g t l) : w.rowIs g t l.length (fun j => .int .u8 (bt l j)) :=
  ⟨_, h, by simp [vals_length], fun j hj => by rw [List.getElem?_toArray, vals_at hj]⟩
theorem RowL.own (h : RowL w g 5 l) {base : Nat} (hb : base ≤ g) (hm : l.length ≤ maxLen) : Own w base (.slice (some ⟨g, 0, none⟩) l.length l.length) l :=
  Own.of_row rfl hb h.row (Nat.le_refl _) hm (fun j hj => rfl) fun j => ⟨bt_lo l j, bt_hi l j⟩
end
/-- A copy of bytes, none among them, into a block that is known whole. -/
theorem wpList_copyL {w : World} {ops : Array Oper} {rest : List Oper} {o : Oper} {a : Act} {Q : Exit → Act → World → Prop} (hgd : o.guard = none) (d s : Operand)
    (ho : o.op = .call { callee := .builtin .copy, args := #[d, s], argTypes := #[39, 39] }) (g off n c m c' N : Nat) (A : Option Addr) (t : TypeId) (l x : List UInt8)
    (hd : a.eval d = .slice (some ⟨g, off, none⟩) n c) (hs : a.eval s = .slice A m c') (hS : RowL w g t l) (hr : Rd w N A m x) (hmn : m ≤ n) (hfit : off + m ≤ l.length)
    (h : ∀ w', RowL w' g t (splice l off x) → w.grownBy w' (some g) → wpList Tryd.prog ops Q rest (a.put o.dst (goInt m)) w') : wpList Tryd.prog ops Q (o :: rest) a w := by
  have hx := hr.1
  rcases A with _ | ad
  · have h0 : m = 0 := by
      rcases Nat.eq_zero_or_pos m with h | h
      · exact h
      · obtain ⟨b, off, e, _⟩ := hr.2 0 h
        cases e
    subst h0
    obtain rfl : x = [] := List.eq_nil_of_length_eq_zero hx
    refine wpList_copy_nothing hgd d s _ _ ho 5 Tryd.underlying39 (by kernel_rfl) _ _ _ _ _ _ hd hs (Nat.zero_min _) ?_
    exact h w (by simpa [splice] using hS) (World.grownBy.refl w _)
  · have hcl : (vals x).length = m := by rw [vals_length, hx]
    refine wpList_copy_own hgd d s _ _ ho 5 Tryd.underlying39 (by kernel_rfl) g off n c ad m c' hd hs _ t hS (vals x) (by rw [hcl]; exact (Nat.min_eq_left hmn).symm) (fun j v hj => ?_) (by simp [hcl, vals_length]; omega) (vals_one x) ?_
    · have hlt : j < m := by have := (List.getElem?_eq_some_iff.1 hj).1; omega
      obtain ⟨b, o2, e, _, hc⟩ := hr.2 j hlt
      injection e with e
      subst e
      rw [Addr.add_mid, hc, ← hj, vals_at (by omega)]
    · have hrow := setRow_heap w g (vals l).toArray ((vals l).toArray.toList.take off ++ (vals x ++ (vals l).toArray.toList.drop (off + (vals x).length))).toArray t (0, 0) hS
      have e : (vals l).toArray.toList.take off ++ (vals x ++ (vals l).toArray.toList.drop (off + (vals x).length)) = vals (splice l off x) := by
        rw [← splice_vals]
        rfl
      rw [hcl]
      rw [hcl] at hrow e
      refine h _ ?_ ⟨rfl, rfl, rfl, by simp [World.setRow], fun k hk hne => setRow_other w g k _ (fun e => hne (by rw [e]))⟩
      unfold RowL
      rw [e] at hrow ⊢
      exact hrow
end Go.Proofs.YtiilclncedipiaaDoor
namespace Go.Proofs.YtiilclncedipiaaDoor
open Go.RowKit Go.ChangeShapes Go.WideShapes Go.ChangeAt Go.Deep

theorem cellsB : Tryd.prog.cellsOf 31 = 64 := by kernel_rfl
theorem bytesB : Tryd.prog.bytesOf 31 = 64 := by kernel_rfl
section
variable {H : Type} {enc : TypeId × Value → H} {W : World} {base : Nat} {v : Value} {d : DataW H} {p : List MemPlace}
theorem one_u8 {m : Nat} {x : Value} {y : DataW H × List MemPlace} (h : DataW.trod enc Tryd.prog W 0 (fun _ => true) true m 5 [x] = some y) : ∃ u : UInt8, x = .int .u8 (u.toNat : Int) := by
  obtain ⟨k, e, _, hw⟩ := DataW.trod_int Tryd.underlying5 h
  have hr : 0 ≤ k ∧ k ≤ 255 := bounds_u8 hw
  injection e with e
  refine ⟨UInt8.ofNat k.toNat, ?_⟩
  rw [e, UInt8.toNat_ofNat']
  congr 1
  omega
theorem cel_of_trod {fuel : Nat} {cs : List Value} {x : DataW H × List MemPlace} (h : DataW.trod enc Tryd.prog W 0 (fun _ => true) true fuel 31 cs = some x) : ∃ b : Blk, cs = cel b := by
  obtain ⟨xs, m, _, _, hlen, hn, hel⟩ := DataW.trod_array undB h
  rw [cellsB] at hlen
  rw [u8cells] at hel
  have hu : ∀ i : Fin 64, ∃ u : UInt8, cs[i.val]? = some (.int .u8 (u.toNat : Int)) := fun i => by
    have h1 := hel i.val i.isLt
    have hi : i.val < cs.length := by have := i.isLt; omega
    have hd : (cs.drop (i.val * 1)).take 1 = [cs[i.val]] := by
      rw [Nat.mul_one, List.drop_eq_getElem_cons hi]
      rfl
    have hx : i.val < xs.length := by have := i.isLt; omega
    rw [hd, List.getElem?_eq_getElem hx] at h1
    obtain ⟨u, hu⟩ := one_u8 h1
    exact ⟨u, by rw [List.getElem?_eq_getElem hi, hu]⟩
  obtain ⟨f, hf⟩ := Classical.axiomOfChoice hu
  refine ⟨Vector.ofFn f, ?_⟩
  apply List.ext_getElem?
  intro i
  by_cases hi : i < 64
  · rw [hf ⟨i, hi⟩, cel_at _ hi, byt_get _ hi]
    simp
  · rw [List.getElem?_eq_none (by omega), List.getElem?_eq_none (by rw [cel_length]; omega)]
theorem open_blk (hv : Value.okWide Tryd.prog W .any base 31 v) (h : DataW.Trod enc Tryd.prog W 0 (fun _ => true) true 31 v d p) : ∃ b : Blk, v = blk b := by
  obtain ⟨cs, rfl, _, _⟩ : ∃ cs, v = .agg cs ∧ cs.size = Tryd.prog.cellsOf 31 ∧ Row.okWide Tryd.prog W .any base 31 cs := by
    simpa [Value.okWide, Tryd.underlying31] using hv
  obtain ⟨fuel, hf⟩ := h
  obtain ⟨b, hb⟩ := cel_of_trod hf
  refine ⟨b, ?_⟩
  unfold blk
  rw [← hb]
  simp [Value.cells]
end
end Go.Proofs.YtiilclncedipiaaDoor
