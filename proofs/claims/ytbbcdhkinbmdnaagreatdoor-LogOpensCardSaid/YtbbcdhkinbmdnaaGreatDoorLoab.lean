import Derived.Test.YtbbcdhkinbmdnaaGreatDoorLoaa
import Derived.Laws.BitsAllLaws
import Derived.IntWalk
import Derived.Laws.AppendOwn
import Derived.Laws.AppendOwnNone
import Derived.StillTailTactics
import Derived.Deep.WholeRow
import Derived.Deep.Quiet
import Derived.Deep.MidRow
import Derived.Laws.StructEq
import Derived.Laws.NewBlocks
import Derived.OrdersHeld
import Derived.Test.YtbbcdhkinbmdnaaGreatDoorLoZ
namespace Go.Proofs.YtbbcdhkinbmdnaaGreatDoor
open Go.RowKit
set_option linter.unusedVariables false
set_option maxRecDepth 100000
theorem maySize_yes (s : Int) (w : World) (h1 : 1 ≤ s) (h2 : s ≤ 8) : Calls Tryz.prog 166 #[.int .i64 s] w fun e w' => e = .returned (.bool true) ∧ w = w' := by
 go_enter Tryz.func166, Tryz.ntmps166
 go_wp2
 go_ret
 exact ⟨rfl, rfl⟩
def fitB (n k : Nat) : Bool := decide (n < 2 ^ k)
theorem fits_any (n : Nat) (c : Int) (w : World) (h0 : 0 ≤ c) (h64 : c ≤ 64) : Calls Tryz.prog 167 #[.int .u64 n, .int .i64 c] w fun e w' => e = .returned (.bool (fitB n c.toNat)) ∧ w = w' := by
 obtain ⟨k, rfl⟩ := Int.eq_ofNat_of_zero_le h0
 rw [Int.toNat_natCast]
 go_enter Tryz.func167, Tryz.ntmps167
 go_wp2
 go_ret
 refine ⟨bm ?_, rfl⟩
 have e : ((n : Int) / 2 ^ k) = ((n / 2 ^ k : Nat) : Int) := by simp
 rw [e]
 unfold fitB
 have h2 : 0 < 2 ^ k := Nat.pow_pos (by omega)
 rw [Bool.eq_iff_iff]
 simp only [beq_iff_eq, decide_eq_true_eq]
 rw [← Nat.div_eq_zero_iff_lt h2]
 omega
theorem bt_digL8 (n k j : Nat) (h : j < k) : bt (aX 8 k n) j = (n : Int) / 2 ^ (j * 8) % 256 := by
 have hl : j < (aX 8 k n).length := by rw [ay]; exact h
 rw [fi hl, getElem_digL (by omega) hl, Nat.mul_comm 8 j]
 simp
theorem put_ok (n k : Nat) (w : World) (h1 : 1 ≤ k) (h2 : k ≤ 8) (hn : n < 256 ^ k) :
  Calls Tryz.prog 150 #[.int .u64 n, .int .i64 k] w fun e w' => ∃ v, e = .returned (.tuple #[v, .int .i64 0]) ∧ Own w' w.heap.size v (aX 8 k n) ∧ Below w.heap.size w w' := by
 have hf : fitB n (k * 8) = true := by
  have e : (2 : Nat) ^ (k * 8) = 256 ^ k := by rw [Nat.mul_comm, Nat.pow_mul]
  unfold fitB
  rw [e]
  simpa using hn
 have HF := af hf
 clear hf
 have hmk := fun (kl kc : IntKind) (m : Nat) (h1 : 1 * m ≤ 281474976710656) (h2 : m ≤ 9223372036854775807) (W : World) => run_make_row' (P := Tryz.prog) 118 5 (.int .u8 0) 1 Tryz.underlying118 u8info rfl kl kc m h1 h2 W
 have hmk1 := hmk .i64 .i64 k (by omega) (by omega)
 clear hmk
 go_enter Tryz.func150, Tryz.ntmps150
 go_wp2_with (first | (go_at_call 166; refine (maySize_yes _ _ (by omega) (by omega)).mono ?_; rintro e w' ⟨rfl, rfl⟩))
 refine (fits_any _ _ _ (by omega) (by omega)).mono ?_
 rintro e w' ⟨rfl, rfl⟩
 rw [show ((k : Int) * 8).toNat = k * 8 from by omega, HF.out]
 go_wp2
 clear hmk1
 have hr0 := World.rowIs_made w (Value.int .u8 0) k 5
 obtain ⟨g, hg⟩ : ∃ g, g = w.heap.size := ⟨_, rfl⟩
 rw [← hg] at hr0 ⊢
 have hbl0 : Below g w (w.alloc (.cells (madeCells #[Value.int .u8 0] k) 5)) := by rw [hg]; exact (Below.refl _ _).alloc (Nat.le_refl _) _
 have HG := af hg
 clear hg HF
 go_loopw [21] (fun i wr => ∃ (j : Nat) (f : Nat → Int), j ≤ k ∧ i = .int .i64 j ∧ wr.rowIs g 5 k (fun j => .int .u8 (f j)) ∧ (∀ m, m < j → f m = bt (aX 8 k n) m) ∧ (∀ m, 0 ≤ f m ∧ f m ≤ 255) ∧ Below g w wr) (fun i _ => k - (intOf i).toNat)
 case atStart => exact ⟨0, fun _ => 0, Nat.zero_le _, rfl, hr0, fun j hj => absurd hj (by omega), fun _ => by simp, hbl0⟩
 case round =>
  obtain ⟨j, f, hj, rfl, hrow, hf, hr, hbl⟩ := hrel
  by_cases hlt : j < k
  ·have hc := hrow.cell hlt
   have hfr := hrow.frozen j
   have HFF := af hf
   have HR := af hr
   clear hf hr
   go_wp2
   go_roundw
   case rel =>
    refine ⟨j + 1, _, by omega, by go_num, (hrow.set j _).congr (g := fun m => .int .u8 (if m = j then bt (aX 8 k n) j else f m)) ?_, ?_, ?_, hbl.setCell (Nat.le_refl _) _⟩
    ·intro m hm
     show (if m = j then Value.int IntKind.u8 (↑n / 2 ^ (j * 8) % 256) else Value.int .u8 (f m)) = _
     split
     ·rw [bt_digL8 n k j hlt]
     ·rfl
    ·intro m hm
     show (if m = j then bt (aX 8 k n) j else f m) = _
     split
     ·subst m; rfl
     ·exact HFF.out m (by omega)
    ·intro m
     show 0 ≤ (if m = j then bt (aX 8 k n) j else f m) ∧ (if m = j then bt (aX 8 k n) j else f m) ≤ 255
     split
     ·exact ⟨bt_lo _ _, bt_hi _ _⟩
     ·exact HR.out m
   case measure => simp [intOf]; omega
  ·go_wp2
   go_ret2
   have hjk : j = k := by omega
   subst hjk
   refine ⟨_, rfl, Own.of_row (ay 8 j n) (Nat.le_of_eq HG.out.symm) hrow (Nat.le_refl _) (by unfold maxLen; omega) hf hr, ?_⟩
   rw [← HG.out]
   exact hbl
theorem val_piece_succ {b : List UInt8} {p k : Nat} (h : p + k < b.length) : (val 8 (piece b p (k + 1)) : Int) = val 8 (piece b p k) + 2 ^ (k * 8) * bt b (p + k) := by
 have hk : k < (b.drop p).length := by simp; omega
 have e : piece b p (k + 1) = piece b p k ++ [b[p + k]] := by
  unfold piece
  rw [List.take_succ_eq_append_getElem hk]
  simp
 rw [e, val_append, bi (by omega), fi h, Nat.mul_comm 8 k]
 rw [val_one]
 push_cast
 rfl
theorem fU {b : List UInt8} {p k : Nat} (h : p < b.length) : (val 8 (piece b p (k + 1)) : Int) = 256 * val 8 (piece b (p + 1) k) + bt b p := by
 have e : piece b p (k + 1) = b[p] :: piece b (p + 1) k := by
  unfold piece
  rw [List.drop_eq_getElem_cons h, List.take_succ_cons]
 rw [e, val, fi h, show (2 : Nat) ^ 8 = 256 from rfl]
 omega
theorem cg {b : List UInt8} {p k : Nat} (h : p + k ≤ b.length) : val 8 (piece b p k) < 2 ^ (k * 8) := by
 have := val_lt (all_256 (piece b p k))
 rwa [bi h, Nat.mul_comm] at this
theorem shl_fits {s : Nat} (x : Nat) (h1 : x ≤ 255) (hs : s ≤ 56) : x * 2 ^ s ≤ 18446744073709551615 := by
 have h2 : 2 ^ s ≤ 2 ^ 56 := Nat.pow_le_pow_right (by omega) hs
 have h3 : x * 2 ^ s ≤ 255 * 2 ^ 56 := Nat.mul_le_mul h1 h2
 omega
theorem or_shl {V s : Nat} {x : Int} (h0 : 0 ≤ x) (h1 : x ≤ 255) (hs : s ≤ 56) (hV : V < 2 ^ s) :
  bits .or .u64 (V : Int) (IntKind.u64.wrap (x * 2 ^ s)) = V + 2 ^ s * x := by
 obtain ⟨m, rfl⟩ := Int.eq_ofNat_of_zero_le h0
 have hf := shl_fits (s := s) m (by omega) hs
 have hV' : V < 18446744073709551616 := by
  have h2 : 2 ^ s ≤ 2 ^ 56 := Nat.pow_le_pow_right (by omega) hs
  omega
 have e : ((m : Int) * 2 ^ s) = ((m * 2 ^ s : Nat) : Int) := by push_cast; rfl
 rw [e, IntWalk.u64_in _ ⟨by omega, by omega⟩, u64_or_nat V _ hV' (by omega), Nat.or_comm, nat_join s _ _ (Nat.mul_mod_left m (2 ^ s)) hV]
 push_cast
 rw [Int.mul_comm (2 ^ s) (m : Int), Int.add_comm]
theorem get_ok (A : Option Addr) (n c N : Nat) (b : List UInt8) (p k : Nat) (w : World) (hb : Rd w N A n b) (hn : n ≤ maxLen) (h1 : 1 ≤ k) (h2 : k ≤ 8) (h3 : p + k ≤ n) :
  Calls Tryz.prog 147 #[.slice A n c, .int .i64 p, .int .i64 k] w fun e w' => e = .returned (.tuple #[.int .u64 (val 8 (piece b p k)), .int .i64 0]) ∧ w = w' := by
 unfold maxLen at hn
 go_enter Tryz.func147, Tryz.ntmps147
 go_wp2_with (first | (go_at_call 166; refine (maySize_yes _ _ (by omega) (by omega)).mono ?_; rintro e w' ⟨rfl, rfl⟩))
 go_loop [8, 30] (fun x i => ∃ j : Nat, j ≤ k ∧ i = .int .i64 j ∧ x = .int .u64 (val 8 (piece b p j))) (fun _ i => k - (intOf i).toNat)
 case atStart => exact ⟨0, Nat.zero_le _, rfl, by simp [piece, val]⟩
 case round =>
  obtain ⟨j, hj, rfl, rfl⟩ := hrel
  by_cases hlt : j < k
  ·obtain ⟨bA, oA, rfl, hA, cA⟩ := hb.2 (p + j) (by omega)
   have hlo := bt_lo b (p + j)
   have hhi := bt_hi b (p + j)
   go_wp2
   go_round
   case rel =>
    refine ⟨j + 1, by omega, by go_num, ?_⟩
    rw [val_piece_succ (by have := hb.1; omega), or_shl hlo hhi (by omega) (cg (by have := hb.1; omega))]
   case measure => simp [intOf]; omega
  ·go_wp2
   go_ret2
   have e : j = k := by omega
   subst e
   exact ⟨rfl, rfl⟩
theorem mul256_fits {V j : Nat} (h : V < 2 ^ (j * 8)) (hj : j ≤ 7) : 256 * V + 255 ≤ 18446744073709551615 := by
 have h2 : 2 ^ (j * 8) ≤ 2 ^ 56 := Nat.pow_le_pow_right (by omega) (by omega)
 omega
theorem dz (A : Option Addr) (n c N : Nat) (b : List UInt8) (p k : Nat) (w : World) (hb : Rd w N A n b) (hn : n ≤ maxLen) (h1 : 1 ≤ k) (h2 : k ≤ 8) (h3 : p + k ≤ n) :
  Calls Tryz.prog 77 #[.slice A n c, .int .i64 p, .int .i64 k] w fun e w' => e = .returned (.tuple #[.int .u64 (val 8 (piece b p k)), .int .i64 0]) ∧ w = w' := by
 unfold maxLen at hn
 go_enter Tryz.func77, Tryz.ntmps77
 go_wp2
 go_loop [8, 9] (fun x i => ∃ j : Nat, j ≤ k ∧ i = .int .i64 ((j : Int) - 1) ∧ x = .int .u64 (val 8 (piece b (p + j) (k - j)))) (fun _ i => (intOf i + 1).toNat)
 case atStart => exact ⟨k, Nat.le_refl _, rfl, by simp [piece, val]⟩
 case round =>
  obtain ⟨j, hj, rfl, rfl⟩ := hrel
  by_cases hlt : 0 < j
  ·obtain ⟨i, rfl⟩ : ∃ i, j = i + 1 := ⟨j - 1, by omega⟩
   obtain ⟨bA, oA, rfl, hA, cA⟩ := hb.2 (p + i) (by omega)
   have hlo := bt_lo b (p + i)
   have hhi := bt_hi b (p + i)
   have hv := cg (b := b) (p := p + (i + 1)) (k := k - (i + 1)) (by have := hb.1; omega)
   have hv2 := mul256_fits hv (by omega)
   clear hv
   rw [show ((i + 1 : Nat) : Int) - 1 = (i : Int) from by omega]
   go_wp2
   go_round
   case rel =>
    refine ⟨i, by omega, rfl, ?_⟩
    have h3 := fU (b := b) (p := p + i) (k := k - (i + 1)) (by have := hb.1; omega)
    rw [show k - (i + 1) + 1 = k - i from by omega] at h3
    rw [h3, Nat.add_assoc]
   case measure => simp [intOf]
  ·have e : j = 0 := by omega
   subst e
   go_wp2
   go_ret2
   exact ⟨rfl, rfl⟩
set_option maxHeartbeats 800000 in
theorem rput_any (n k B : Nat) (w : World) (HB : Hid (B = w.heap.size)) (hn : n < 18446744073709551616) (h1 : 1 ≤ k) (h2 : k ≤ 8) :
  Calls Tryz.prog 62 #[.int .u64 n, .int .i64 k] w fun e w' =>
   ((n < 2 ^ (8 * k) → ∃ v, e = .returned (.tuple #[v, .int .i64 0]) ∧ Made w' B v (aX 8 k n)) ∧ (¬ n < 2 ^ (8 * k) → e = .returned (.tuple #[.slice none 0 0, .int .i64 2]))) ∧ Below B w w' := by
 obtain ⟨i0, hi, hz0, hz1, hz2⟩ := info_parts u8info
 go_enter Tryz.func62, Tryz.ntmps62
 go_wp2
 have hBle : B ≤ w.heap.size := Nat.le_of_eq HB.out
 go_loopw [0, 6, 7] (fun x v i wr => ∃ j : Nat, j ≤ k ∧ i = .int .i64 j ∧ x = .int .u64 ((n / 2 ^ (8 * j) : Nat) : Int) ∧ Made wr B v (aX 8 j n) ∧ Below B w wr) (fun _ _ i _ => k - (intOf i).toNat)
 case atStart => exact ⟨0, Nat.zero_le _, rfl, by simp, World.ownsRow_nil _ _ _ _, Below.refl _ _⟩
 case round =>
  obtain ⟨j, hj, rfl, rfl, hm, hbl⟩ := hrel
  by_cases hlt : j < k
  ·have hown := hm.own (ay 8 j n)
   have hsz : B ≤ wr.heap.size := Nat.le_trans hBle hbl.size
   have hq : n / 2 ^ (8 * j) ≤ n := Nat.div_le_self _ _
   have hm' := af hm
   have hE : Hid (n / 2 ^ (8 * (j + 1)) = n / 2 ^ (8 * j) / 256 ∧ aX 8 (j + 1) n = aX 8 j n ++ [UInt8.ofNat (n / 2 ^ (8 * j) % 256)]) := ⟨by rw [Nat.div_div_eq_div_mul, Nat.mul_succ, Nat.pow_add], digL_snoc 8 j n⟩
   clear hm
   generalize n / 2 ^ (8 * j) = q at *
   go_wp2_with (at_builtin; refine wpList_append_own _ rfl _ _ 118 rfl B 5 i0 (.int .u8 0) 1 1 Tryz.underlying118 hi hz0 hz1 hz2 rfl (by decide) _ _ _ rfl (hown.alloc _) ⟨wr.heap.size, 0, none⟩ 1 1 [.int .u8 ((q : Int) % 256)] rfl rfl ?c1 ?c2 ?c3 ?c4 ?c5 ?_)
   case c1 => exact cell_one_new _ _ _
   case c2 => intro u hu; simp at hu; subst hu; rfl
   case c3 => unfold maxLen; omega
   case c4 => omega
   case c5 => simp; omega
   intro v' w1 hown1 hg1 _
   have hx : ((q : Int) % 256) = ((UInt8.ofNat (q % 256)).toNat : Int) := by rw [UInt8.toNat_ofNat']; omega
   obtain ⟨hm1, hb1⟩ := Made.push (hm'.out) hbl hsz hx hown1 hg1
   have hm1' := af hm1
   clear hm1 hown1 hg1 hown hx hm'
   go_wp2
   go_roundw
   case rel =>
    refine ⟨j + 1, by omega, by go_num, ?_, ?_, hb1⟩
    ·rw [hE.out.1]; simp
    ·rw [hE.out.2]; exact hm1'.out
   case measure => simp [intOf]; omega
  ·have e : j = k := by omega
   subst e
   have h0 : 0 < 2 ^ (8 * j) := Nat.pow_pos (by omega)
   by_cases hq : n < 2 ^ (8 * j)
   ·rw [Nat.div_eq_of_lt hq]
    go_wp2
    go_ret2
    exact ⟨⟨fun _ => ⟨_, rfl, hm⟩, fun h => absurd hq h⟩, hbl⟩
   ·have hq0 : 0 < n / 2 ^ (8 * j) := Nat.div_pos (by omega) h0
    generalize n / 2 ^ (8 * j) = q at *
    go_wp2
    go_ret2
    exact ⟨⟨fun h => absurd h hq, fun _ => rfl⟩, hbl⟩
section
variable {ρ : Operand → Value} {o : Oper} {x y : Operand} {w : World} {t r : TypeId} {i : Nat} {p q : Value}
theorem eq (ho : o.op = .move x) : (execOp ρ o).run Tryz.prog w = .ok (.value (ρ x)) w := by
 unfold execOp
 simp only [ho, Sem.run_pure]
theorem exec_assign (ho : o.op = .assign x) : (execOp ρ o).run Tryz.prog w = .ok (.value (ρ x)) w := by
 unfold execOp
 simp only [ho, Sem.run_pure]
theorem exec_call {f : FuncId} {args : List Operand} {ats : Array TypeId} {a : Act} (hf : ∀ args w, (callFunc f args).run Tryz.prog w = .ok (.enter f args) w) (ho : o.op = .call { callee := .value (.func f), args := args.toArray, argTypes := ats }) :
  (execOp a.eval o).run Tryz.prog w = .ok (.enter f (args.map a.eval).toArray) w := by
 unfold execOp
 simp [ho, resolve, Deferred.ofValue, Act.eval, invoke, hf]
theorem am (ho : o.op = .fieldAddr t x i) (hx : ρ x = p) (h : (Instr.fieldAt t p i).run Tryz.prog w = .ok q w) : (execOp ρ o).run Tryz.prog w = .ok (.value q) w := by
 unfold execOp
 simp only [ho, hx, Sem.run_bind, h, Result.andThen_ok, Sem.run_pure]
theorem au (ho : o.op = .load t x) (hx : ρ x = p) (h : (Instr.loadAt t p).run Tryz.prog w = .ok q w) : (execOp ρ o).run Tryz.prog w = .ok (.value q) w := by
 unfold execOp
 simp only [ho, hx, Sem.run_bind, h, Result.andThen_ok, Sem.run_pure]
theorem dS (ho : o.op = .indexAddr t x y) {u : Value} (hx : ρ x = p) (hy : ρ y = u) (h : (Instr.indexAt t p u).run Tryz.prog w = .ok q w) : (execOp ρ o).run Tryz.prog w = .ok (.value q) w := by
 unfold execOp
 simp only [ho, hx, hy, Sem.run_bind, h, Result.andThen_ok, Sem.run_pure]
theorem aB {b off : Nat} (ho : o.op = .nilCheck x) (hx : ρ x = .pointer (some ⟨b, off, none⟩)) : (execOp ρ o).run Tryz.prog w = .ok (.value (.pointer (some ⟨b, off, none⟩))) w := by
 unfold execOp
 simp only [ho, hx, Sem.run_pure]
theorem fD {u : Value} {w' : World} (ho : o.op = .store t x y) (hx : ρ x = p) (hy : ρ y = u) (h : (Instr.storeAt t p u).run Tryz.prog w = .ok () w') : (execOp ρ o).run Tryz.prog w = .ok .skip w' := by
 unfold execOp
 simp only [ho, hx, hy, Sem.run_bind, h, Result.andThen_ok, Sem.run_pure]
theorem da {a b c : Int} (ho : o.op = .binOp .add t x y r) (hx : ρ x = .int .i64 a) (hy : ρ y = .int .i64 b) (h : IntKind.i64.wrap (a + b) = c) : (execOp ρ o).run Tryz.prog w = .ok (.value (.int .i64 c)) w := by
 unfold execOp
 simp [ho, hx, hy, eqGuard, binOp, Op.intArith, h]
theorem fw {a b c : Int} (ho : o.op = .binOp .sub t x y r) (hx : ρ x = .int .i64 a) (hy : ρ y = .int .i64 b) (h : IntKind.i64.wrap (a - b) = c) : (execOp ρ o).run Tryz.prog w = .ok (.value (.int .i64 c)) w := by
 unfold execOp
 simp [ho, hx, hy, eqGuard, binOp, Op.intArith, h]
theorem fx {a b c : Int} (ho : o.op = .binOp .mul t x y r) (hx : ρ x = .int .i64 a) (hy : ρ y = .int .i64 b) (h : IntKind.i64.wrap (a * b) = c) : (execOp ρ o).run Tryz.prog w = .ok (.value (.int .i64 c)) w := by
 unfold execOp
 simp [ho, hx, hy, eqGuard, binOp, Op.intArith, h]
theorem exec_quo {a b c : Int} (ho : o.op = .binOp .quo t x y r) (hx : ρ x = .int .i64 a) (hy : ρ y = .int .i64 b) (h0 : b ≠ 0) (h : IntKind.i64.wrap (a.tdiv b) = c) : (execOp ρ o).run Tryz.prog w = .ok (.value (.int .i64 c)) w := by
 unfold execOp
 simp [ho, hx, hy, eqGuard, binOp, Op.intDiv, h, h0]
theorem exec_rem {a b c : Int} (ho : o.op = .binOp .rem t x y r) (hx : ρ x = .int .i64 a) (hy : ρ y = .int .i64 b) (h0 : b ≠ 0) (h : a.tmod b = c) : (execOp ρ o).run Tryz.prog w = .ok (.value (.int .i64 c)) w := by
 unfold execOp
 simp [ho, hx, hy, eqGuard, binOp, Op.intDiv, h, h0]
end
section
variable {P : Program} {ops : Array Oper} {rest : List Oper} {o : Oper} {a : Act} {w w' : World} {Q : Exit → Act → World → Prop} {v : Value}
theorem al (hw : Region.wanted o (yielded ops a.tmps) = true) (h : (execOp a.eval o).run P w = .ok (.value v) w') (hr : wpList P ops Q rest (a.put o.dst v) w') : wpList P ops Q (o :: rest) a w := by
 refine wpList_step fun K hK => ?_
 rw [if_pos hw]
 unfold Oper.wp
 rw [h]
 exact hK _ _ hr
theorem aV (hw : Region.wanted o (yielded ops a.tmps) = true) (h : (execOp a.eval o).run P w = .ok .skip w') (hr : wpList P ops Q rest (a.put o.dst undef) w') : wpList P ops Q (o :: rest) a w := by
 refine wpList_step fun K hK => ?_
 rw [if_pos hw]
 unfold Oper.wp
 rw [h]
 exact hK _ _ hr
end
section
variable {P : Program} {ops : Array Oper} {rest : List Oper} {o : Oper} {a : Act} {w w' : World} {Q : Exit → Act → World → Prop} {v : Value}
theorem ai (hg : o.guard = none) (h : (execOp a.eval o).run P w = .ok (.value v) w') (hr : wpList P ops Q rest (a.put o.dst v) w') : wpList P ops Q (o :: rest) a w := al (by unfold Region.wanted; rw [hg]) h hr
theorem az (hg : o.guard = none) (h : (execOp a.eval o).run P w = .ok .skip w') (hr : wpList P ops Q rest (a.put o.dst undef) w') : wpList P ops Q (o :: rest) a w := aV (by unfold Region.wanted; rw [hg]) h hr
theorem ar {f : FuncId} {vs : Array Value} (hw : Region.wanted o (yielded ops a.tmps) = true) (h : (execOp a.eval o).run P w = .ok (.enter f vs) w) (hc : Calls P f vs w fun e w' => ∃ v, e = .returned v ∧ wpList P ops Q rest (a.put o.dst v) w') : wpList P ops Q (o :: rest) a w := by
 refine wpList_step fun K hK => ?_
 rw [if_pos hw]
 unfold Oper.wp
 rw [h]
 exact hc.mono fun e w'' ⟨v, he, hk⟩ => by subst he; exact hK _ _ hk
end
theorem aI {B : Nat} {id : Nat} {Q : Exit → Act → World → Prop} {a : Act} {w : World} {l : List Oper} (hB : Region.lexB .any l.toArray = true)
  (h : wpQuiet Tryz.prog l.toArray (Below B w) (fun a' => ∀ w', Below B w w' → Q .normal a' w') l a) : (Code.region id l.toArray true).wp Tryz.prog Q a w :=
 wp_region_quiet (C := Below B w) (by kernel_rfl) hB (bd (Below.refl B w)) (by simpa using h)
section
variable {P : Program} {ops : Array Oper} {C : World → Prop} {Q : Act → Prop} {a : Act} {o : Oper} {rest : List Oper} {v : Value}
theorem qv_skip (hw : Region.wanted o (yielded ops a.tmps) = false) (h : wpQuiet P ops C Q rest (a.put o.dst undef)) : wpQuiet P ops C Q (o :: rest) a :=
 wpQuiet_step fun K hK => by rw [if_neg (by rw [hw]; exact Bool.false_ne_true)]; exact hK _ h
theorem ao (hw : Region.wanted o (yielded ops a.tmps) = true) (h : ∀ w, C w → (execOp a.eval o).run P w = .ok (.value v) w) (hr : wpQuiet P ops C Q rest (a.put o.dst v)) : wpQuiet P ops C Q (o :: rest) a :=
 wpQuiet_step fun K hK => by
  rw [if_pos hw]
  exact ⟨v, fun w hC => by unfold Oper.quietAt; rw [h w hC]; exact ⟨rfl, rfl⟩, hK _ hr⟩
theorem a9 {f : FuncId} {vs : Array Value} (hw : Region.wanted o (yielded ops a.tmps) = true) (h : ∀ w, (execOp a.eval o).run P w = .ok (.enter f vs) w) (hc : ∀ w, C w → Calls P f vs w fun e w'' => e = .returned v ∧ C w'') (hr : wpQuiet P ops C Q rest (a.put o.dst v)) : wpQuiet P ops C Q (o :: rest) a :=
 wpQuiet_step fun K hK => by
  rw [if_pos hw]
  exact ⟨v, fun w hC => by unfold Oper.quietAt; rw [h w]; exact ⟨rfl, hc w hC⟩, hK _ hr⟩
end
section
variable {P : Program} {ops : Array Oper} {w : World} {Q : Act → Prop} {a : Act} {o : Oper} {rest : List Oper} {v : Value}
theorem aF (hw : Region.wanted o (yielded ops a.tmps) = true) (h : (execOp a.eval o).run P w = .ok (.value v) w) (hr : wpStill P ops w Q rest (a.put o.dst v)) : wpStill P ops w Q (o :: rest) a :=
 wpStill_step fun K hK => by
  rw [if_pos hw]
  unfold Oper.still
  rw [h, Oper.stillUpon_value]
  exact hK _ hr
end
section
variable {P : Program} {md : Region.Mode} {l : List Oper} {Q : Exit → Act → World → Prop} {S : World → Prop} {fuel : Nat} {listed : Array Bool} {a : Act} {w : World} {o : Oper} {v : Value}
theorem aw (i : Nat) (hi : l[i]? = some o) (hs : Region.noSelect l.toArray = true) (hf : Region.free md l.toArray listed i = true) (hr : (Region.ready md l.toArray listed).contains i = true)
  (hw : Region.wanted o (yielded l.toArray a.tmps) = true) (h : ∀ w, S w → (execOp a.eval o).run P w = .ok (.value v) w) (hQ : ∀ c a w, Q (.panic c) (a.put o.dst v) w → Q (.panic c) a w) (hS : S w)
  (hk : wpAnyH P md l.toArray Q S fuel (listed.setIfInBounds i true) (a.put o.dst v) w) : wpAnyH P md l.toArray Q S (fuel + 1) listed a w :=
 wpAnyH_take (by simpa using hi) hs hf hr hQ (.inl ⟨hw, h⟩) hS hk
theorem gt (i : Nat) (hi : l[i]? = some o) (h : ∀ w, S w → (execOp a.eval o).run P w = .ok (.value v) w) (hS : S w) (hk : wpAnyH P md l.toArray Q S fuel (listed.setIfInBounds i true) (a.put o.dst v) w) (hs : Region.noSelect l.toArray = true := by kernel_rfl) (hf : Region.free md l.toArray listed i = true := by kernel_rfl) (hr : (Region.ready md l.toArray listed).contains i = true := by kernel_rfl) (hw : Region.wanted o (yielded l.toArray a.tmps) = true := by exact rfl) (hQ : ∀ c a w, Q (.panic c) (a.put o.dst v) w → Q (.panic c) a w := by exact fun _ _ _ h => h) : wpAnyH P md l.toArray Q S (fuel + 1) listed a w := aw i hi hs hf hr hw h hQ hS hk
theorem held_call (i : Nat) {f : FuncId} {vs : Array Value} (hi : l[i]? = some o) (hr : Region.ready md l.toArray listed = [i]) (hw : Region.wanted o (yielded l.toArray a.tmps) = true) (h : (execOp a.eval o).run P w = .ok (.enter f vs) w)
  (hc : Calls P f vs w fun e w' => ∃ v, e = .returned v ∧ S w' ∧ wpAnyH P md l.toArray Q S fuel (listed.setIfInBounds i true) (a.put o.dst v) w') : wpAnyH P md l.toArray Q S (fuel + 1) listed a w :=
 wpAnyH_all hr (by simp) fun j hj => by
  obtain rfl : j = i := by simpa using hj
  unfold wpOp
  simp only [List.getElem?_toArray, hi, hw, if_true]
  refine .inl ?_
  unfold Oper.wp
  rw [h]
  exact hc.mono fun e w' ⟨v, he, hk⟩ => by subst he; exact hk
theorem eg (i : Nat) {w' : World} (hi : l[i]? = some o) (hr : Region.ready md l.toArray listed = [i]) (hw : Region.wanted o (yielded l.toArray a.tmps) = true) (h : (execOp a.eval o).run P w = .ok .skip w')
  (hS : S w') (hk : wpAnyH P md l.toArray Q S fuel (listed.setIfInBounds i true) (a.put o.dst undef) w') : wpAnyH P md l.toArray Q S (fuel + 1) listed a w :=
 wpAnyH_all hr (by simp) fun j hj => by
  obtain rfl : j = i := by simpa using hj
  unfold wpOp
  simp only [List.getElem?_toArray, hi, hw, if_true]
  refine .inl ?_
  unfold Oper.wp
  rw [h]
  exact ⟨hS, hk⟩
end
section
variable {ρ : Operand → Value} {o : Oper} {x y z : Operand} {w : World} {t r : TypeId} {k : IntKind}
theorem exec_pick_t (ho : o.op = .pick x y z) (hx : ρ x = .bool true) : (execOp ρ o).run Tryz.prog w = .ok (.value (ρ y)) w := by
 unfold execOp
 simp [ho, hx, asBool]
theorem exec_pick_f (ho : o.op = .pick x y z) (hx : ρ x = .bool false) : (execOp ρ o).run Tryz.prog w = .ok (.value (ρ z)) w := by
 unfold execOp
 simp [ho, hx, asBool]
theorem bf (b : Bool) (ho : o.op = .unOp .not t x) (hx : ρ x = .bool b) : (execOp ρ o).run Tryz.prog w = .ok (.value (.bool (!b))) w := by
 unfold execOp
 simp [ho, hx, Op.unary]
theorem aP {a b : Int} (c : Bool) (ho : o.op = .binOp .eql t x y r) (hx : ρ x = .int k a) (hy : ρ y = .int k b) (h : (a == b) = c) : (execOp ρ o).run Tryz.prog w = .ok (.value (.bool c)) w := by
 unfold execOp
 simp [ho, hx, hy, eqGuard, binOp, Op.intCmp, h]
theorem aU {a b : Int} (c : Bool) (ho : o.op = .binOp .neq t x y r) (hx : ρ x = .int k a) (hy : ρ y = .int k b) (h : (a != b) = c) : (execOp ρ o).run Tryz.prog w = .ok (.value (.bool c)) w := by
 unfold execOp
 simp [ho, hx, hy, eqGuard, binOp, Op.intCmp, h]
end
theorem ev {ts : List Value} {ds : List Deferred} {d : Nat} {v : Value} (h : ts[d]? = some v) : (Act.mk ts.toArray ds).eval (.tmp d) = v := by
 simp [Act.eval, h]
theorem evk {a : Act} {v : Value} : a.eval (.const v) = v := rfl
theorem evc {ρ : Operand → Value} {x : Operand} {xs : List Operand} {v : Value} {vs : List Value} (h : ρ x = v) (hs : xs.map ρ = vs) : (x :: xs).map ρ = v :: vs := by
 rw [List.map_cons, h, hs]
theorem evn {ρ : Operand → Value} : ([] : List Operand).map ρ = [] := rfl
theorem ak {l : List Oper} {ts : List Value} {o oj : Oper} {j d : Nat} {b : Bool} (hg : o.guard = some (j, b)) (hj : l[j]? = some oj) (hd : oj.dst = some d) (hv : ts[d]? = some (.bool b)) : Region.wanted o (yielded l.toArray ts.toArray) = true := by
 unfold Region.wanted yielded
 simp [hg, hj, hd, hv]
theorem gr {l : List Oper} {ts : List Value} {o oj : Oper} {j d : Nat} {b : Bool} (hg : o.guard = some (j, b) := by exact rfl) (hj : l[j]? = some oj := by exact rfl) (hd : oj.dst = some d := by exact rfl) (hv : ts[d]? = some (.bool b) := by exact rfl) : Region.wanted o (yielded l.toArray ts.toArray) = true := ak hg hj hd hv
section
variable {ρ : Operand → Value} {o : Oper} {x y z : Operand} {w : World} {v : Value}
theorem aj (ho : o.op = .move x) (hx : ρ x = v) : (execOp ρ o).run Tryz.prog w = .ok (.value v) w := by rw [eq ho, hx]
theorem aq (ho : o.op = .assign x) (hx : ρ x = v) : (execOp ρ o).run Tryz.prog w = .ok (.value v) w := by rw [exec_assign ho, hx]
theorem aG (ho : o.op = .pick x y z) (hx : ρ x = .bool true) (hy : ρ y = v) : (execOp ρ o).run Tryz.prog w = .ok (.value v) w := by rw [exec_pick_t ho hx, hy]
theorem aE (ho : o.op = .pick x y z) (hx : ρ x = .bool false) (hz : ρ z = v) : (execOp ρ o).run Tryz.prog w = .ok (.value v) w := by rw [exec_pick_f ho hx, hz]
theorem av {f : FuncId} {args : List Operand} {vs : List Value} {ats : Array TypeId} {a : Act} (hf : ∀ args w, (callFunc f args).run Tryz.prog w = .ok (.enter f args) w) (ho : o.op = .call { callee := .value (.func f), args := args.toArray, argTypes := ats }) (hv : args.map a.eval = vs) :
  (execOp a.eval o).run Tryz.prog w = .ok (.enter f vs.toArray) w := by rw [exec_call hf ho, hv]
end
theorem aW {f : FuncId} {vs : Array Value} {w0 : World} {B : Nat} {v : Value} (hB : B ≤ w0.heap.size) (h : ∀ w', Below B w0 w' → Calls Tryz.prog f vs w' fun e w'' => e = .returned v ∧ Below w'.heap.size w' w'') :
  ∀ w', Below B w0 w' → Calls Tryz.prog f vs w' fun e w'' => e = .returned v ∧ Below B w0 w'' :=
 fun w' hw => (h w' hw).mono fun _ _ hh => ⟨hh.1, hw.trans (hh.2.mono (Nat.le_trans hB hw.size))⟩
section
variable {ρ : Operand → Value} {o : Oper} {x : Operand} {w : World}
theorem aD {i : Nat} {vs : List Value} {v : Value} (ho : o.op = .extract x i) (hx : ρ x = .tuple vs.toArray) (hv : vs[i]? = some v) : (execOp ρ o).run Tryz.prog w = .ok (.value v) w := by
 have h : (Instr.extract (.tuple vs.toArray) i).run Tryz.prog w = .ok v w := by simp [Instr.extract, hv]
 unfold execOp
 simp only [ho, hx, Sem.run_bind, h, Result.andThen_ok, Sem.run_pure]
end
def vals (l : List UInt8) : List Value := l.map fun u => .int .u8 (u.toNat : Int)
theorem bu (l : List UInt8) : (vals l).length = l.length := by simp [vals]
theorem vals_one (l : List UInt8) : ∀ v ∈ vals l, v.oneCell' = true := by
 intro v hv
 simp only [vals, List.mem_map] at hv
 obtain ⟨u, _, rfl⟩ := hv
 rfl
theorem vals_at {l : List UInt8} {j : Nat} (h : j < l.length) : (vals l)[j]? = some (.int .u8 (bt l j)) := by
 rw [fi h]
 simp [vals, h]
section
variable {w w' : World} {B b o n : Nat} {cs : List Value}
theorem dR (h : w.rangeAt b o cs) (hb : b < B) (hw : Below B w w') : w'.rangeAt b o cs := fun j v hj => by
 rw [hw.cell (p := ⟨b, o + j, none⟩) hb]; exact h j v hj
theorem aO (h : w.there b o n) (hb : b < B) (hw : Below B w w') : w'.there b o n := fun j hj => by
 rw [hw.cell (p := ⟨b, o + j, none⟩) hb, hw.frozen (p := ⟨b, o + j, none⟩) hb]; exact h j hj
theorem cf (w : World) (cs : List Value) (t : TypeId) : (w.alloc (.cells cs.toArray t)).rangeAt w.heap.size 0 cs := fun j v hj => by
 rw [cell_of_row _ _ (0 + j) cs.toArray t (0, 0) (heap_alloc_new w _)]
 simpa using hj
theorem cY (b : Nat) : ∀ (vs : List Value) (o : Nat) (w : World) (k : Nat), k ≠ b → (w.setCells b o vs).heap[k]? = w.heap[k]?
 | [], _, _, _, _ => rfl
 | v :: r, o, w, k, h => by
  rw [World.setCells, cY b r (o + 1) _ k h]
  exact heap_setCell_other w ⟨b, o, none⟩ k v h
theorem ft (b : Nat) : ∀ (vs : List Value) (o : Nat) (w : World), (w.setCells b o vs).heap.size = w.heap.size ∧ (w.setCells b o vs).os = w.os ∧ (w.setCells b o vs).tape = w.tape ∧ (w.setCells b o vs).output = w.output
 | [], _, _ => ⟨rfl, rfl, rfl, rfl⟩
 | v :: r, o, w => by
  have h := ft b r (o + 1) (w.setCell ⟨b, o, none⟩ v)
  rw [World.setCells]
  refine ⟨h.1.trans ?_, h.2.1.trans rfl, h.2.2.1.trans rfl, h.2.2.2.trans rfl⟩
  simp [World.setCell]
theorem below_setCells {a : World} (h : Below B a w) {b o : Nat} (hb : B ≤ b) (vs : List Value) : Below B a (w.setCells b o vs) := by
 obtain ⟨h1, h2, h3, h4⟩ := ft b vs o w
 exact ⟨h2.trans h.os, h3.trans h.tape, h4.trans h.output, by rw [h1]; exact h.size, fun k hk => (cY b vs o w k (by omega)).trans (h.block k hk)⟩
end
section
variable {ρ : Operand → Value} {o : Oper} {x y : Operand} {w : World} {b off : Nat} {c d : Blk}
theorem aS (ho : o.op = .load 29 x) (hx : ρ x = .pointer (some ⟨b, off, none⟩)) (hc : w.rangeAt b off (cel c)) : (execOp ρ o).run Tryz.prog w = .ok (.value (blk c)) w := by
 unfold execOp
 simp only [ho, hx, Sem.run_bind, run_load hc, Result.andThen_ok, Sem.run_pure]
theorem aR (ho : o.op = .store 29 x y) (hx : ρ x = .pointer (some ⟨b, off, none⟩)) (hy : ρ y = blk c) (ht : w.there b off 64) : (execOp ρ o).run Tryz.prog w = .ok .skip (w.setCells b off (cel c)) := by
 unfold execOp
 simp only [ho, hx, hy, Sem.run_bind, run_store ht, Result.andThen_ok, Sem.run_pure]
theorem exec_fill (ho : o.op = .store 29 x y) (hx : ρ x = .pointer (some ⟨w.heap.size, 0, none⟩)) (hy : ρ y = blk c) : (execOp ρ o).run Tryz.prog (w.alloc (.cells (cel d).toArray 29)) = .ok .skip (w.alloc (.cells (cel c).toArray 29)) := by
 have h := run_storeAt_new (P := Tryz.prog) w 29 (cel d).toArray (cel c).toArray (by simpa [aA] using sizeB) (by simp [aA]) (all_oneCell_toArray (cel_one c))
 unfold execOp
 simp only [ho, hx, hy, Sem.run_bind]
 unfold blk
 rw [h]
 simp
theorem bE (ho : o.op = .box 29 x) (hx : ρ x = blk c) : (execOp ρ o).run Tryz.prog w = .ok (.value (.pointer (some ⟨w.heap.size, 0, none⟩))) (w.alloc (.cells (cel c).toArray 29)) := by
 unfold execOp
 simp only [ho, hx, Sem.run_bind, run_box, Result.andThen_ok, Sem.run_pure]
theorem aT (ho : o.op = .alloc 29) : (execOp ρ o).run Tryz.prog w = .ok (.value (.pointer (some ⟨w.heap.size, 0, none⟩))) (w.alloc (.cells (cel ap).toArray 29)) := by
 unfold execOp
 simp only [ho, Sem.run_bind, run_alloc, Result.andThen_ok, Sem.run_pure]
theorem run_guardB (op : BinOp) (x y : Operand) (c d : Blk) (w : World) : (eqGuard op 29 x y (blk c) (blk d)).run Tryz.prog w = .ok () w := run_eqGuard_agg w op _ x y _ _ guardB
theorem exec_neq {t : TypeId} (ho : o.op = .binOp .neq 29 x y t) (hx : ρ x = blk c) (hy : ρ y = blk d) : (execOp ρ o).run Tryz.prog w = .ok (.value (.bool (!decide (c = d)))) w := by
 have h := run_neq_struct (P := Tryz.prog) w 29 (cel c).toArray (cel d).toArray
 have he := run_eqB w c d 9998
 unfold blk at he
 rw [he] at h
 unfold execOp
 simp only [ho, hx, hy, Sem.run_bind, run_guardB, Result.andThen_ok]
 unfold blk
 rw [h]
 simp
theorem run_build {parts : List (Nat × Value)} (h : Instr.fill (fun i => some (i * 1, 1)) (cel ap).toArray parts = some (cel c).toArray) (w : World) : (Instr.build 29 parts.toArray).run Tryz.prog w = .ok (blk c) w := by
 simp only [Instr.build, Sem.run_bind, run_zeroB, run_underlying undB, Result.andThen_ok, Tryz.sizeOf5, er, h, Sem.run_pure]
 rfl
theorem b8 {parts : List (Nat × Operand)} (ho : o.op = .build 29 parts.toArray) (h : Instr.fill (fun i => some (i * 1, 1)) (cel ap).toArray (parts.map fun (i, x) => (i, ρ x)) = some (cel c).toArray) : (execOp ρ o).run Tryz.prog w = .ok (.value (blk c)) w := by
 unfold execOp
 simp only [ho, List.map_toArray, Sem.run_bind, run_build h, Result.andThen_ok, Sem.run_pure]
end
theorem dp {ρ : Operand → Value} {o : Oper} {x y : Operand} {w : World} {c : Blk} (ho : o.op = .store 29 x y) (hx : ρ x = .pointer (some ⟨w.heap.size, 0, none⟩)) (hy : ρ y = blk c) : (execOp ρ o).run Tryz.prog (w.alloc (.cells (cel ap).toArray 29)) = .ok .skip (w.alloc (.cells (cel c).toArray 29)) := exec_fill ho hx hy
theorem res_blk {fn : Func} {p : Tmp} {c : Blk} (h : fn.results = #[.cell p 29]) (tmps : Array Value) (w : World) (b : Nat) (hp : tmps.getD p undef = .pointer (some ⟨b, 0, none⟩)) (hc : w.rangeAt b 0 (cel c)) :
  (results fn tmps).run Tryz.prog w = .ok (blk c) w := by
 have hl : (loadVar 29 ⟨b, 0, none⟩).run Tryz.prog w = .ok (blk c) w := run_loadVar_mid w b 0 29 (cel c) _ hc undB rfl (by rw [aA]; exact sizeB)
 have hp' : tmps[p]?.getD undef = .pointer (some ⟨b, 0, none⟩) := by simpa using hp
 simp [results, h, hp', asAddr, hl]
theorem bZ {fn : Func} {p u : Tmp} {c : Blk} (h : fn.results = #[.cell p 29, .tmp u]) (tmps : Array Value) (w : World) (b : Nat) (hp : tmps.getD p undef = .pointer (some ⟨b, 0, none⟩)) (hc : w.rangeAt b 0 (cel c)) :
  (results fn tmps).run Tryz.prog w = .ok (.tuple #[blk c, tmps.getD u undef]) w := by
 have hl : (loadVar 29 ⟨b, 0, none⟩).run Tryz.prog w = .ok (blk c) w := run_loadVar_mid w b 0 29 (cel c) _ hc undB rfl (by rw [aA]; exact sizeB)
 have hp' : tmps[p]?.getD undef = .pointer (some ⟨b, 0, none⟩) := by simpa using hp
 simp [results, h, hp', asAddr, hl]
section
variable {w w' : World} {B b o n : Nat} {cs : List Value} {c : Blk}
theorem dl (w : World) (c : Blk) (t : TypeId) : (w.alloc (.cells (cel c).toArray t)).there w.heap.size 0 64 := fun j hj => by
 rw [cell_of_row _ _ (0 + j) _ t (0, 0) (heap_alloc_new w _), frozen_of_row _ _ (0 + j) _ t (heap_alloc_new w _)]
 exact ⟨by simp [aA]; omega, rfl⟩
theorem there_row {g m : Nat} {t : TypeId} {f : Nat → Value} (h : w.rowIs g t m f) (ho : o + n ≤ m) : w.there g o n := fun j hj => by
 rw [h.cell (i := o + j) (by omega), h.frozen (o + j)]
 exact ⟨rfl, rfl⟩
theorem range_row {g m : Nat} {t : TypeId} {f : Nat → Int} (h : w.rowIs g t m (fun j => .int .u8 (f j))) (ho : o + 64 ≤ m) (hf : ∀ j, j < 64 → f (o + j) = byt c j) : w.rangeAt g o (cel c) := fun j v hj => by
 have hlt : j < 64 := by have := (List.getElem?_eq_some_iff.1 hj).1; rwa [aA] at this
 rw [h.cell (i := o + j) (by omega), ← hj, cel_at c hlt]
 show some (Value.int .u8 (f (o + j))) = _
 rw [hf j hlt]
theorem row_new (w : World) (c : Blk) (t : TypeId) : (w.alloc (.cells (cel c).toArray t)).rowIs w.heap.size t 64 (fun j => .int .u8 (byt c j)) := by
 have h := World.rowIs_alloc w (cel c).toArray t (fun j => .int .u8 (byt c j)) (fun i hi => by
  have : i < 64 := by simpa [aA] using hi
  simpa using cel_at c this)
 simpa [aA] using h
def lay (f : Nat → Int) (o : Nat) (c : Blk) : Nat → Int := fun j => if o ≤ j ∧ j < o + 64 then byt c (j - o) else f j
end
def RdB (w : World) (B : Nat) (A : Option Addr) (n : Nat) (l : List Blk) : Prop :=
 l.length = n ∧ ∀ k, k < n → ∃ b off, A = some ⟨b, off, none⟩ ∧ b < B ∧ w.rangeAt b (off + k * 64) (cel (l.getD k ap))
section
variable {w w' : World} {B B' n : Nat} {A : Option Addr} {l : List Blk}
theorem RdB.nil (w : World) (B : Nat) (A : Option Addr) : RdB w B A 0 [] := ⟨rfl, fun k hk => absurd hk (by omega)⟩
theorem RdB.more (h : RdB w B A n l) (hB : B ≤ B') : RdB w B' A n l :=
 ⟨h.1, fun k hn => by
  obtain ⟨b, off, e, hb, hc⟩ := h.2 k hn
  exact ⟨b, off, e, by omega, hc⟩⟩
theorem RdB.below (h : RdB w B A n l) (hb : Below B w w') : RdB w' B A n l :=
 ⟨h.1, fun k hn => by
  obtain ⟨b, off, e, hlt, hc⟩ := h.2 k hn
  exact ⟨b, off, e, hlt, dR hc hlt hb⟩⟩
end
theorem underS : Tryz.prog.underlying 123 = some (.slice 29) := Tryz.underlying123
section
variable {ρ : Operand → Value} {o : Oper} {x y : Operand} {w : World} {b off n c j k : Nat} {A : Option Addr}
theorem dD (ho : o.op = .indexAddr 123 x y) (hx : ρ x = .slice (some ⟨b, off, none⟩) n c) (hy : ρ y = .int .i64 (j : Int)) (hj : j < n) : (execOp ρ o).run Tryz.prog w = .ok (.value (.pointer (some ⟨b, off + j * 64, none⟩))) w := by
 unfold execOp
 simp [ho, hx, hy, Instr.indexAt, asIntOf, run_underlying underS, Addr.add_mid]
 intro hh
 omega
def tailAt (A : Option Addr) (c k : Nat) : Option Addr := if c = k then A else A.map (fun x => x.add (k * 64))
theorem exec_tail (ho : o.op = .slice 123 x (some y) none none) (hx : ρ x = .slice A n c) (hy : ρ y = .int .i64 (k : Int)) (hk : k ≤ n) : (execOp ρ o).run Tryz.prog w = .ok (.value (.slice (tailAt A c k) (n - k) (c - k))) w := by
 unfold execOp tailAt
 simp [ho, hx, hy, Instr.sliceAt, Instr.slice, Instr.sliceBounds, Instr.sliceBound, asIntOf, run_underlying underS]
 intro hh
 omega
end
section
variable {w : World} {B n c k : Nat} {A : Option Addr} {l : List Blk}
theorem RdB.head (h : RdB w B A n l) (hk : k ≤ n) : RdB w B A k (l.take k) :=
 ⟨by rw [List.length_take, h.1]; omega, fun j hj => by
  obtain ⟨b, off, e, hb, hc⟩ := h.2 j (by omega)
  refine ⟨b, off, e, hb, ?_⟩
  rw [List.getD, List.getElem?_take_of_lt hj]
  exact hc⟩
end
end Go.Proofs.YtbbcdhkinbmdnaaGreatDoor
