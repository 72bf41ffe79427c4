import Derived.Test.YtcpbekopbeaflaaGreatDoorLraa
import Derived.IntWalk
import Derived.Laws.AppendOwn
import Derived.Laws.AppendOwnNone
namespace Go.Proofs.YtcpbekopbeaflaaGreatDoor
set_option maxHeartbeats 8000000
open Go.Proofs.Tryz
open Go.RowKit
set_option linter.unusedVariables false
set_option maxRecDepth 100000
theorem nP (s : Int) (w : World) (h1 : 1 <= s) (h2 : s <= 8) : Calls prog 195 #[.int .i64 s] w fun e w' => e = .returned (.bool true) /\ w = w' := by
 go_enter func195, ntmps195;go_wp2;go_ret;exact ⟨rfl, rfl⟩
def agh (n k : Nat) : Bool := decide (n < 2 ^ k)
theorem ads (n : Nat) (c : Int) (w : World) (h0 : 0 <= c) (h64 : c <= 64) : Calls prog 196 #[.int .u64 n, .int .i64 c] w fun e w' => e = .returned (.bool (agh n c.toNat)) /\ w = w' := by
 obtain ⟨k, rfl⟩ := Int.eq_ofNat_of_zero_le h0;rw [Int.toNat_natCast];go_enter func196, ntmps196;go_wp2;go_ret;refine ⟨bL ?_, rfl⟩;have e : ((n : Int) / 2 ^ k) = ((n / 2 ^ k : Nat) : Int) := by simp
 rw [e];unfold agh;have h2 : 0 < 2 ^ k := Nat.pow_pos (by omega);rw [Bool.eq_iff_iff];simp only [beq_iff_eq, decide_eq_true_eq];rw [<- Nat.div_eq_zero_iff_lt h2];omega
theorem aea (n k j : Nat) (h : j < k) : bt (bw 8 k n) j = (n : Int) / 2 ^ (j * 8) % 256 := by
 have hl : j < (bw 8 k n).length := by rw [aL]; exact h
 rw [fW hl, sY (by omega) hl, Nat.mul_comm 8 j];simp
theorem j3 (n k : Nat) (w : World) (h1 : 1 <= k) (h2 : k <= 8) (hn : n < 256 ^ k) :
  Calls prog 189 #[.int .u64 n, .int .i64 k] w fun e w' => ∃ v, e = .returned (.tuple #[v, .int .i64 0]) /\ Own w' w.heap.size v (bw 8 k n) /\ Below w.heap.size w w' := by
 have hf : agh n (k * 8) = true := by
  have e : (2 : Nat) ^ (k * 8) = 256 ^ k := by rw [Nat.mul_comm, Nat.pow_mul]
  unfold agh;rw [e]
  simpa using hn
 have HF := af hf;clear hf;have hmk := fun (kl kc : IntKind) (m : Nat) (h1 : 1 * m <= 281474976710656) (h2 : m <= 9223372036854775807) (W : World) => run_make_row' (P := prog) 143 5 (.int .u8 0) 1 underlying143 sy rfl kl kc m h1 h2 W
 have hmk1 := hmk .i64 .i64 k (by omega) (by omega);clear hmk;go_enter func189, ntmps189;go_wp2_with (first | (go_at_call 195; refine (nP _ _ (by omega) (by omega)).mono ?_; rintro e w' ⟨rfl, rfl⟩));refine (ads _ _ _ (by omega) (by omega)).mono ?_;rintro e w' ⟨rfl, rfl⟩;rw [show ((k : Int) * 8).toNat = k * 8 from by omega, HF.out];go_wp2;clear hmk1;have hr0 := World.rowIs_made w (Value.int .u8 0) k 5;obtain ⟨g, hg⟩ : ∃ g, g = w.heap.size := ⟨_, rfl⟩;rw [<- hg] at hr0 ⊢;have hbl0 : Below g w (w.alloc (.cells (madeCells #[Value.int .u8 0] k) 5)) := by rw [hg]; exact ak.alloc aj _
 have HG := af hg;clear hg HF
 go_loopw [21] (fun i wr => ∃ (j : Nat) (f : Nat -> Int), j <= k /\ i = .int .i64 j /\ wr.rowIs g 5 k (fun j => .int .u8 (f j)) /\ (∀ m, m < j -> f m = bt (bw 8 k n) m) /\ (∀ m, 0 <= f m /\ f m <= 255) /\ Below g w wr) (fun i _ => k - (intOf i).toNat)
 case atStart => exact ⟨0, fun _ => 0, Nat.zero_le _, rfl, hr0, fun j hj => absurd hj (by omega), fun _ => by simp, hbl0⟩
 case round =>
  obtain ⟨j, f, hj, rfl, hrow, hf, hr, hbl⟩ := hrel;by_cases hlt : j < k
  ·have hc := hrow.cell hlt;have hfr := hrow.frozen j;have HFF := af hf;have HR := af hr;clear hf hr;go_wp2;go_roundw
   case rel =>
    refine ⟨j + 1, _, by omega, by go_num, (hrow.set j _).congr (g := fun m => .int .u8 (if m = j then bt (bw 8 k n) j else f m)) ?_, ?_, ?_, hbl.setCell aj _⟩
    ·intro m hm
     show (if m = j then Value.int IntKind.u8 (↑n / 2 ^ (j * 8) % 256) else Value.int .u8 (f m)) = _
     split
     ·rw [aea n k j hlt]
     ·rfl
    ·intro m hm
     show (if m = j then bt (bw 8 k n) j else f m) = _
     split
     ·subst m; rfl
     ·exact HFF.out m (by omega)
    ·intro m
     show 0 <= (if m = j then bt (bw 8 k n) j else f m) /\ (if m = j then bt (bw 8 k n) j else f m) <= 255
     split
     ·exact ⟨yo _ _, xY _ _⟩
     ·exact HR.out m
   case measure => simp [intOf]; omega
  ·go_wp2;go_ret2;have hjk : j = k := by omega
   subst hjk;refine ⟨_, rfl, Own.ahy (aL 8 j n) (Nat.le_of_eq HG.out.symm) hrow aj (by unfold maxLen; omega) hf hr, ?_⟩;rw [<- HG.out];exact hbl
theorem ph {b : List UInt8} {p k : Nat} (h : p + k < b.length) : (val 8 (piece b p (k + 1)) : Int) = val 8 (piece b p k) + 2 ^ (k * 8) * bt b (p + k) := by
 have hk : k < (b.drop p).length := by simp; omega
 have e : piece b p (k + 1) = piece b p k ++ [b[p + k]] := by
  unfold piece;rw [List.take_succ_eq_append_getElem hk];simp
 rw [e, val_append, bU (by omega), fW h, Nat.mul_comm 8 k];rw [aeD];push_cast
 rfl
theorem iZ {b : List UInt8} {p k : Nat} (h : p < b.length) : (val 8 (piece b p (k + 1)) : Int) = 256 * val 8 (piece b (p + 1) k) + bt b p := by
 have e : piece b p (k + 1) = b[p] :: piece b (p + 1) k := by
  unfold piece;rw [List.drop_eq_getElem_cons h, List.take_succ_cons]
 rw [e, val, fW h, show (2 : Nat) ^ 8 = 256 from rfl];omega
theorem cJ {b : List UInt8} {p k : Nat} (h : p + k <= b.length) : val 8 (piece b p k) < 2 ^ (k * 8) := by
 have := acn (mw (piece b p k));rwa [bU h, Nat.mul_comm] at this
theorem abD {s : Nat} (x : Nat) (h1 : x <= 255) (hs : s <= 56) : x * 2 ^ s <= 18446744073709551615 := by
 have h2 : 2 ^ s <= 2 ^ 56 := Nat.pow_le_pow_right (by omega) hs;have h3 : x * 2 ^ s <= 255 * 2 ^ 56 := Nat.mul_le_mul h1 h2;omega
theorem ah5 {V s : Nat} {x : Int} (h0 : 0 <= x) (h1 : x <= 255) (hs : s <= 56) (hV : V < 2 ^ s) :
  bits .or .u64 (V : Int) (IntKind.u64.wrap (x * 2 ^ s)) = V + 2 ^ s * x := by
 obtain ⟨m, rfl⟩ := Int.eq_ofNat_of_zero_le h0;have hf := abD (s := s) m (by omega) hs;have hV' : V < 18446744073709551616 := by
  have h2 : 2 ^ s <= 2 ^ 56 := Nat.pow_le_pow_right (by omega) hs;omega
 have e : ((m : Int) * 2 ^ s) = ((m * 2 ^ s : Nat) : Int) := by push_cast; rfl
 rw [e, IntWalk.u64_in _ ⟨by omega, by omega⟩, u64_or_nat V _ hV' (by omega), Nat.or_comm, nat_join s _ _ (Nat.mul_mod_left m (2 ^ s)) hV];push_cast;rw [Int.mul_comm (2 ^ s) (m : Int), Int.add_comm]
theorem jX (A : Option Addr) (n c N : Nat) (b : List UInt8) (p k : Nat) (w : World) (hb : Rd w N A n b) (hn : n <= maxLen) (h1 : 1 <= k) (h2 : k <= 8) (h3 : p + k <= n) :
  Calls prog 186 #[.slice A n c, .int .i64 p, .int .i64 k] w fun e w' => e = .returned (.tuple #[.int .u64 (val 8 (piece b p k)), .int .i64 0]) /\ w = w' := by
 unfold maxLen at hn;go_enter func186, ntmps186;go_wp2_with (first | (go_at_call 195; refine (nP _ _ (by omega) (by omega)).mono ?_; rintro e w' ⟨rfl, rfl⟩))
 go_loop [8, 30] (fun x i => ∃ j : Nat, j <= k /\ i = .int .i64 j /\ x = .int .u64 (val 8 (piece b p j))) (fun _ i => k - (intOf i).toNat)
 case atStart => exact ⟨0, Nat.zero_le _, rfl, by simp [piece, val]⟩
 case round =>
  obtain ⟨j, hj, rfl, rfl⟩ := hrel;by_cases hlt : j < k
  ·obtain ⟨bA, oA, rfl, hA, cA⟩ := hb.2 (p + j) (by omega);have hlo := yo b (p + j);have hhi := xY b (p + j);go_wp2
   go_round
   case rel =>
    refine ⟨j + 1, by omega, by go_num, ?_⟩;rw [ph (by have := hb.1; omega), ah5 hlo hhi (by omega) (cJ (by have := hb.1; omega))]
   case measure => simp [intOf]; omega
  ·go_wp2;go_ret2;have e : j = k := by omega
   subst e;exact ⟨rfl, rfl⟩
theorem tT {V j : Nat} (h : V < 2 ^ (j * 8)) (hj : j <= 7) : 256 * V + 255 <= 18446744073709551615 := by
 have h2 : 2 ^ (j * 8) <= 2 ^ 56 := Nat.pow_le_pow_right (by omega) (by omega);omega
theorem ei (A : Option Addr) (n c N : Nat) (b : List UInt8) (p k : Nat) (w : World) (hb : Rd w N A n b) (hn : n <= maxLen) (h1 : 1 <= k) (h2 : k <= 8) (h3 : p + k <= n) :
  Calls prog 112 #[.slice A n c, .int .i64 p, .int .i64 k] w fun e w' => e = .returned (.tuple #[.int .u64 (val 8 (piece b p k)), .int .i64 0]) /\ w = w' := by
 unfold maxLen at hn;go_enter func112, ntmps112;go_wp2
 go_loop [8, 9] (fun x i => ∃ j : Nat, j <= k /\ i = .int .i64 ((j : Int) - 1) /\ x = .int .u64 (val 8 (piece b (p + j) (k - j)))) (fun _ i => (intOf i + 1).toNat)
 case atStart => exact ⟨k, aj, rfl, by simp [piece, val]⟩
 case round =>
  obtain ⟨j, hj, rfl, rfl⟩ := hrel;by_cases hlt : 0 < j
  ·obtain ⟨i, rfl⟩ : ∃ i, j = i + 1 := ⟨j - 1, by omega⟩;obtain ⟨bA, oA, rfl, hA, cA⟩ := hb.2 (p + i) (by omega);have hlo := yo b (p + i);have hhi := xY b (p + i);have hv := cJ (b := b) (p := p + (i + 1)) (k := k - (i + 1)) (by have := hb.1; omega);have hv2 := tT hv (by omega);clear hv;rw [show ((i + 1 : Nat) : Int) - 1 = (i : Int) from by omega];go_wp2
   go_round
   case rel =>
    refine ⟨i, by omega, rfl, ?_⟩;have h3 := iZ (b := b) (p := p + i) (k := k - (i + 1)) (by have := hb.1; omega);rw [show k - (i + 1) + 1 = k - i from by omega] at h3;rw [h3, Nat.add_assoc]
   case measure => simp [intOf]
  ·have e : j = 0 := by omega
   subst e;go_wp2;go_ret2;exact ⟨rfl, rfl⟩
theorem acj (n k B : Nat) (w : World) (HB : Hid (B = w.heap.size)) (hn : n < 18446744073709551616) (h1 : 1 <= k) (h2 : k <= 8) :
  Calls prog 152 #[.int .u64 n, .int .i64 k] w fun e w' =>
   ((n < 2 ^ (8 * k) -> ∃ v, e = .returned (.tuple #[v, .int .i64 0]) /\ Made w' B v (bw 8 k n)) /\ (¬ n < 2 ^ (8 * k) -> e = .returned (.tuple #[.slice none 0 0, .int .i64 2]))) /\ Below B w w' := by
 obtain ⟨i0, hi, hz0, hz1, hz2⟩ := info_parts sy;go_enter func152, ntmps152;go_wp2;have hBle : B <= w.heap.size := Nat.le_of_eq HB
 go_loopw [0, 6, 7] (fun x v i wr => ∃ j : Nat, j <= k /\ i = .int .i64 j /\ x = .int .u64 ((n / 2 ^ (8 * j) : Nat) : Int) /\ Made wr B v (bw 8 j n) /\ Below B w wr) (fun _ _ i _ => k - (intOf i).toNat)
 case atStart => exact ⟨0, Nat.zero_le _, rfl, by simp, World.ownsRow_nil _ _ _ _, ak⟩
 case round =>
  obtain ⟨j, hj, rfl, rfl, hm, hbl⟩ := hrel;by_cases hlt : j < k
  ·have hown := hm.own (aL 8 j n);have hsz : B <= wr.heap.size := ap hBle hbl.size;have hq : n / 2 ^ (8 * j) <= n := Nat.div_le_self _ _;have hm' := af hm;have hE : Hid (n / 2 ^ (8 * (j + 1)) = n / 2 ^ (8 * j) / 256 /\ bw 8 (j + 1) n = bw 8 j n ++ [UInt8.ofNat (n / 2 ^ (8 * j) % 256)]) := ⟨by rw [Nat.div_div_eq_div_mul, Nat.mul_succ, Nat.pow_add], z5 8 j n⟩;clear hm;generalize n / 2 ^ (8 * j) = q at *;go_wp2_with (at_builtin; refine wpList_append_own _ rfl _ _ 143 rfl B 5 i0 (.int .u8 0) 1 1 underlying143 hi hz0 hz1 hz2 rfl (by decide) _ _ _ rfl (hown.alloc _) ⟨wr.heap.size, 0, none⟩ 1 1 [.int .u8 ((q : Int) % 256)] rfl rfl ?c1 ?c2 ?c3 ?c4 ?c5 ?_)
   case c1 => exact cell_one_new _ _ _
   case c2 => intro u hu; simp at hu; subst hu; rfl
   case c3 => unfold maxLen; omega
   case c4 => omega
   case c5 => simp; omega
   intro v' w1 hown1 hg1 _;have hx : ((q : Int) % 256) = ((UInt8.ofNat (q % 256)).toNat : Int) := by rw [UInt8.toNat_ofNat']; omega
   obtain ⟨hm1, hb1⟩ := Made.push (hm'.out) hbl hsz hx hown1 hg1;have hm1' := af hm1;clear hm1 hown1 hg1 hown hx hm';go_wp2;go_roundw
   case rel =>
    refine ⟨j + 1, by omega, by go_num, ?_, ?_, hb1⟩
    ·rw [hE.out.1]; simp
    ·rw [hE.out.2]; exact hm1'.out
   case measure => simp [intOf]; omega
  ·have e : j = k := by omega
   subst e;have h0 : 0 < 2 ^ (8 * j) := Nat.pow_pos (by omega);by_cases hq : n < 2 ^ (8 * j)
   ·rw [Nat.div_eq_of_lt hq];go_wp2;go_ret2;exact ⟨⟨fun _ => ⟨_, rfl, hm⟩, fun h => absurd hq h⟩, hbl⟩
   ·have hq0 : 0 < n / 2 ^ (8 * j) := Nat.div_pos (by omega) h0;generalize n / 2 ^ (8 * j) = q at *;go_wp2;go_ret2;exact ⟨⟨fun h => absurd h hq, fun _ => rfl⟩, hbl⟩
def vals (l : List UInt8) : List Value := l.map fun u => .int .u8 (u.toNat : Int)
theorem bZ (l : List UInt8) : (vals l).length = l.length := by simp [vals]
theorem kW (l : List UInt8) : ∀ v ∈ vals l, v.oneCell' = true := by
 intro v hv;simp only [vals, List.mem_map] at hv;obtain ⟨u, _, rfl⟩ := hv
 rfl
theorem oU {l : List UInt8} {j : Nat} (h : j < l.length) : (vals l)[j]? = some (.int .u8 (bt l j)) := by
 rw [fW h];simp [vals, h]
section
variable {w w' : World} {B b o n : Nat} {cs : List Value}
theorem cY (h : w.rangeAt b o cs) (hb : b < B) (hw : Below B w w') : w'.rangeAt b o cs := fun j v hj => by
 rw [hw.cell (p := ⟨b, o + j, none⟩) hb]; exact h j v hj
theorem aS (h : w.there b o n) (hb : b < B) (hw : Below B w w') : w'.there b o n := fun j hj => by
 rw [hw.cell (p := ⟨b, o + j, none⟩) hb, hw.frozen (p := ⟨b, o + j, none⟩) hb]; exact h j hj
theorem b8 (w : World) (cs : List Value) (t : TypeId) : (w.alloc (.cells cs.toArray t)).rangeAt w.heap.size 0 cs := fun j v hj => by
 rw [cell_of_row _ _ (0 + j) cs.toArray t (0, 0) (heap_alloc_new w _)]
 simpa using hj
theorem fi (b : Nat) : ∀ (vs : List Value) (o : Nat) (w : World) (k : Nat), k ≠ b -> (w.setCells b o vs).heap[k]? = w.heap[k]?
 |[], _, _, _, _ => rfl
 |v :: r, o, w, k, h => by
  rw [World.setCells, fi b r (o + 1) _ k h];exact heap_setCell_other w ⟨b, o, none⟩ k v h
theorem fC (b : Nat) : ∀ (vs : List Value) (o : Nat) (w : World), (w.setCells b o vs).heap.size = w.heap.size /\ (w.setCells b o vs).os = w.os /\ (w.setCells b o vs).tape = w.tape /\ (w.setCells b o vs).output = w.output
 |[], _, _ => ⟨rfl, rfl, rfl, rfl⟩
 |v :: r, o, w => by
  have h := fC b r (o + 1) (w.setCell ⟨b, o, none⟩ v);rw [World.setCells];refine ⟨h.1.trans ?_, h.2.1.trans rfl, h.2.2.1.trans rfl, h.2.2.2.trans rfl⟩;simp [World.setCell]
theorem below_setCells {a : World} (h : Below B a w) {b o : Nat} (hb : B <= b) (vs : List Value) : Below B a (w.setCells b o vs) := by
 obtain ⟨h1, h2, h3, h4⟩ := fC b vs o w;exact ⟨h2.trans h.os, h3.trans h.tape, h4.trans h.output, by rw [h1]; exact h.size, fun k hk => (fi b vs o w k (by omega)).trans (h.block k hk)⟩
end
section
variable {ρ : Operand -> Value} {o : Oper} {x y : Operand} {w : World} {b off : Nat} {c d : Blk}
theorem aU (ho : o.op = .load 64 x) (hx : ρ x = .pointer (some ⟨b, off, none⟩)) (hc : w.rangeAt b off (cel c)) : (execOp ρ o).run prog w = .ok (.value (blk c)) w := by
 unfold execOp;simp only [ho, hx, Sem.run_bind, run_load hc, Result.andThen_ok, Sem.run_pure]
theorem aX (ho : o.op = .store 64 x y) (hx : ρ x = .pointer (some ⟨b, off, none⟩)) (hy : ρ y = blk c) (ht : w.there b off 64) : (execOp ρ o).run prog w = .ok .skip (w.setCells b off (cel c)) := by
 unfold execOp;simp only [ho, hx, hy, Sem.run_bind, run_store ht, Result.andThen_ok, Sem.run_pure]
theorem jL (ho : o.op = .store 64 x y) (hx : ρ x = .pointer (some ⟨w.heap.size, 0, none⟩)) (hy : ρ y = blk c) : (execOp ρ o).run prog (w.alloc (.cells (cel d).toArray 64)) = .ok .skip (w.alloc (.cells (cel c).toArray 64)) := by
 have h := run_storeAt_new (P := prog) w 64 (cel d).toArray (cel c).toArray (by simpa [aG] using rq) (by simp [aG]) (all_oneCell_toArray (je c));unfold execOp;simp only [ho, hx, hy, Sem.run_bind];unfold blk;rw [h];simp
theorem bW (ho : o.op = .box 64 x) (hx : ρ x = blk c) : (execOp ρ o).run prog w = .ok (.value (.pointer (some ⟨w.heap.size, 0, none⟩))) (w.alloc (.cells (cel c).toArray 64)) := by
 unfold execOp;simp only [ho, hx, Sem.run_bind, afT, Result.andThen_ok, Sem.run_pure]
theorem aV (ho : o.op = .alloc 64) : (execOp ρ o).run prog w = .ok (.value (.pointer (some ⟨w.heap.size, 0, none⟩))) (w.alloc (.cells (cel aE).toArray 64)) := by
 unfold execOp;simp only [ho, Sem.run_bind, zr, Result.andThen_ok, Sem.run_pure]
theorem wS (op : BinOp) (x y : Operand) (c d : Blk) (w : World) : (eqGuard op 64 x y (blk c) (blk d)).run prog w = .ok () w := run_eqGuard_agg w op _ x y _ _ aiD
theorem uY {t : TypeId} (ho : o.op = .binOp .neq 64 x y t) (hx : ρ x = blk c) (hy : ρ y = blk d) : (execOp ρ o).run prog w = .ok (.value (.bool (!decide (c = d)))) w := by
 have h := run_neq_struct (P := prog) w 64 (cel c).toArray (cel d).toArray;have he := yU w c d 9998;unfold blk at he;rw [he] at h;unfold execOp;simp only [ho, hx, hy, Sem.run_bind, wS, Result.andThen_ok];unfold blk;rw [h];simp
theorem run_build {parts : List (Nat × Value)} (h : Instr.fill (fun i => some (i * 1, 1)) (cel aE).toArray parts = some (cel c).toArray) (w : World) : (Instr.build 64 parts.toArray).run prog w = .ok (blk c) w := by
 simp only [Instr.build, Sem.run_bind, nd, run_underlying nD, Result.andThen_ok, Tryz.sizeOf5, fm, h, Sem.run_pure]
 rfl
theorem ca {parts : List (Nat × Operand)} (ho : o.op = .build 64 parts.toArray) (h : Instr.fill (fun i => some (i * 1, 1)) (cel aE).toArray (parts.map fun (i, x) => (i, ρ x)) = some (cel c).toArray) : (execOp ρ o).run prog w = .ok (.value (blk c)) w := by
 unfold execOp;simp only [ho, List.map_toArray, Sem.run_bind, run_build h, Result.andThen_ok, Sem.run_pure]
end
theorem dD {ρ : Operand -> Value} {o : Oper} {x y : Operand} {w : World} {c : Blk} (ho : o.op = .store 64 x y) (hx : ρ x = .pointer (some ⟨w.heap.size, 0, none⟩)) (hy : ρ y = blk c) : (execOp ρ o).run prog (w.alloc (.cells (cel aE).toArray 64)) = .ok .skip (w.alloc (.cells (cel c).toArray 64)) := jL ho hx hy
theorem af6 {fn : Func} {p : Tmp} {c : Blk} (h : fn.results = #[.cell p 64]) (tmps : Array Value) (w : World) (b : Nat) (hp : tmps.getD p undef = .pointer (some ⟨b, 0, none⟩)) (hc : w.rangeAt b 0 (cel c)) :
  (results fn tmps).run prog w = .ok (blk c) w := by
 have hl : (loadVar 64 ⟨b, 0, none⟩).run prog w = .ok (blk c) w := run_loadVar_mid w b 0 64 (cel c) _ hc nD rfl (by rw [aG]; exact rq);have hp' : tmps[p]?.getD undef = .pointer (some ⟨b, 0, none⟩) := by simpa using hp
 simp [results, h, hp', asAddr, hl]
theorem b9 {fn : Func} {p u : Tmp} {c : Blk} (h : fn.results = #[.cell p 64, .tmp u]) (tmps : Array Value) (w : World) (b : Nat) (hp : tmps.getD p undef = .pointer (some ⟨b, 0, none⟩)) (hc : w.rangeAt b 0 (cel c)) :
  (results fn tmps).run prog w = .ok (.tuple #[blk c, tmps.getD u undef]) w := by
 have hl : (loadVar 64 ⟨b, 0, none⟩).run prog w = .ok (blk c) w := run_loadVar_mid w b 0 64 (cel c) _ hc nD rfl (by rw [aG]; exact rq);have hp' : tmps[p]?.getD undef = .pointer (some ⟨b, 0, none⟩) := by simpa using hp
 simp [results, h, hp', asAddr, hl]
section
variable {w w' : World} {B b o n : Nat} {cs : List Value} {c : Blk}
theorem dj (w : World) (c : Blk) (t : TypeId) : (w.alloc (.cells (cel c).toArray t)).there w.heap.size 0 64 := fun j hj => by
 rw [cell_of_row _ _ (0 + j) _ t (0, 0) (heap_alloc_new w _), frozen_of_row _ _ (0 + j) _ t (heap_alloc_new w _)];exact ⟨by simp [aG]; omega, rfl⟩
theorem rI {g m : Nat} {t : TypeId} {f : Nat -> Value} (h : w.rowIs g t m f) (ho : o + n <= m) : w.there g o n := fun j hj => by
 rw [h.cell (i := o + j) (by omega), h.frozen (o + j)];exact ⟨rfl, rfl⟩
theorem rF {g m : Nat} {t : TypeId} {f : Nat -> Int} (h : w.rowIs g t m (fun j => .int .u8 (f j))) (ho : o + 64 <= m) (hf : ∀ j, j < 64 -> f (o + j) = byt c j) : w.rangeAt g o (cel c) := fun j v hj => by
 have hlt : j < 64 := by have := (List.getElem?_eq_some_iff.1 hj).1; rwa [aG] at this
 rw [h.cell (i := o + j) (by omega), <- hj, fx c hlt]
 show some (Value.int .u8 (f (o + j))) = _
 rw [hf j hlt]
theorem yk (w : World) (c : Blk) (t : TypeId) : (w.alloc (.cells (cel c).toArray t)).rowIs w.heap.size t 64 (fun j => .int .u8 (byt c j)) := by
 have h := World.rowIs_alloc w (cel c).toArray t (fun j => .int .u8 (byt c j)) (fun i hi => by
  have : i < 64 := by simpa [aG] using hi
  simpa using fx c this)
 simpa [aG] using h
def lay (f : Nat -> Int) (o : Nat) (c : Blk) : Nat -> Int := fun j => if o <= j /\ j < o + 64 then byt c (j - o) else f j
end
theorem yg (c : Blk) {r : Nat} (hr : r < 64) (u : UInt8) : (cel c).set r (.int .u8 (u.toNat : Int)) = cel (c.set r u) := by
 unfold cel;rw [<- List.map_set, Vector.toList_set]
def RdB (w : World) (B : Nat) (A : Option Addr) (n : Nat) (l : List Blk) : Prop :=
 l.length = n /\ ∀ k, k < n -> ∃ b off, A = some ⟨b, off, none⟩ /\ b < B /\ w.rangeAt b (off + k * 64) (cel (l.getD k aE))
section
variable {w w' : World} {B B' n : Nat} {A : Option Addr} {l : List Blk}
theorem RdB.nil (w : World) (B : Nat) (A : Option Addr) : RdB w B A 0 [] := ⟨rfl, fun k hk => absurd hk (by omega)⟩
theorem RdB.more (h : RdB w B A n l) (hB : B <= B') : RdB w B' A n l :=
 ⟨h.1, fun k hn => by
  obtain ⟨b, off, e, hb, hc⟩ := h.2 k hn;exact ⟨b, off, e, by omega, hc⟩⟩
theorem RdB.below (h : RdB w B A n l) (hb : Below B w w') : RdB w' B A n l :=
 ⟨h.1, fun k hn => by
  obtain ⟨b, off, e, hlt, hc⟩ := h.2 k hn;exact ⟨b, off, e, hlt, cY hc hlt hb⟩⟩
end
theorem ki : prog.underlying 120 = some (.slice 64) := underlying120
section
variable {ρ : Operand -> Value} {o : Oper} {x y : Operand} {w : World} {b off n c j k : Nat} {A : Option Addr}
theorem d6 (ho : o.op = .indexAddr 120 x y) (hx : ρ x = .slice (some ⟨b, off, none⟩) n c) (hy : ρ y = .int .i64 (j : Int)) (hj : j < n) : (execOp ρ o).run prog w = .ok (.value (.pointer (some ⟨b, off + j * 64, none⟩))) w := by
 unfold execOp;simp [ho, hx, hy, Instr.indexAt, asIntOf, run_underlying ki, Addr.add_mid];intro hh;omega
def sR (A : Option Addr) (c k : Nat) : Option Addr := if c = k then A else A.map (fun x => x.add (k * 64))
theorem zO (ho : o.op = .slice 120 x (some y) none none) (hx : ρ x = .slice A n c) (hy : ρ y = .int .i64 (k : Int)) (hk : k <= n) : (execOp ρ o).run prog w = .ok (.value (.slice (sR A c k) (n - k) (c - k))) w := by
 unfold execOp sR;simp [ho, hx, hy, Instr.sliceAt, Instr.slice, Instr.sliceBounds, Instr.sliceBound, asIntOf, run_underlying ki];intro hh;omega
end
section
variable {w : World} {B n c k : Nat} {A : Option Addr} {l : List Blk}
theorem RdB.head (h : RdB w B A n l) (hk : k <= n) : RdB w B A k (l.take k) :=
 ⟨by rw [List.length_take, h.1]; omega, fun j hj => by
  obtain ⟨b, off, e, hb, hc⟩ := h.2 j (by omega);refine ⟨b, off, e, hb, ?_⟩;rw [List.getD, List.getElem?_take_of_lt hj];exact hc⟩
end
def flat (l : List Blk) : List Value := l.flatMap cel
theorem iH (x : Blk) (l : List Blk) : flat (x :: l) = cel x ++ flat l := rfl
theorem kK (a b : List Blk) : flat (a ++ b) = flat a ++ flat b := by simp [flat]
theorem eC (l : List Blk) : (flat l).length = l.length * 64 := by
 induction l with
 |nil => rfl
 |cons x l ih => rw [iH, List.length_append, aG, ih, List.length_cons]; omega
theorem oJ (l : List Blk) {k j : Nat} (hk : k < l.length) (hj : j < 64) : (flat l)[k * 64 + j]? = (cel (l.getD k aE))[j]? := by
 induction l generalizing k with
 |nil => simp at hk
 |cons x l ih =>
  rw [iH];cases k with
  |zero => rw [Nat.zero_mul, Nat.zero_add, List.getElem?_append_left (by rw [aG]; exact hj)]; rfl
  |succ k =>
   rw [List.getElem?_append_right (by rw [aG]; omega), aG, show (k + 1) * 64 + j - 64 = k * 64 + j from by omega, ih (by simpa using hk)]
   rfl
theorem ad5 (l : List Blk) : ∀ v ∈ flat l, v.oneCell' = true := by
 intro v hv;simp only [flat, List.mem_flatMap] at hv;obtain ⟨b, _, hb⟩ := hv;exact je b v hb
theorem xF {w : World} {g o B : Nat} {l : List Blk} (hg : g < B) (h : ∀ j v, (flat l)[j]? = some v -> w.cell? ⟨g, o + j, none⟩ = some v) : RdB w B (some ⟨g, o, none⟩) l.length l :=
 ⟨rfl, fun k hk => ⟨g, o, rfl, hg, fun j v hj => by
  have hlt : j < 64 := by have := (List.getElem?_eq_some_iff.1 hj).1; rwa [aG] at this
  rw [show o + k * 64 + j = o + (k * 64 + j) from by omega];exact h _ v (by rw [oJ l hk hlt]; exact hj)⟩⟩
theorem afg (w : World) (l : List Blk) (t : TypeId) : RdB (w.alloc (.cells (flat l).toArray t)) (w.heap.size + 1) (some ⟨w.heap.size, 0, none⟩) l.length l :=
 xF (by omega) fun j v hj => by
  rw [cell_of_row _ _ (0 + j) (flat l).toArray t (0, 0) (heap_alloc_new w _)]
  simpa using hj
theorem r9 {w : World} {N n : Nat} {ad : Addr} {l : List Blk} (h : RdB w N (some ad) n l) : ∀ (j : Nat) (u : Value), (flat l)[j]? = some u -> w.cell? (ad.add j) = some u := by
 intro j u hu;have hj : j < l.length * 64 := by have := (List.getElem?_eq_some_iff.1 hu).1; rwa [eC] at this
 have hk : j / 64 < l.length := by omega
 obtain ⟨b, off, e, _, hc⟩ := h.2 (j / 64) (by have := h.1; omega);injection e with e;subst e;rw [Addr.add_mid];have h2 := oJ l hk (j := j % 64) (by omega);rw [show j / 64 * 64 + j % 64 = j from by omega, hu] at h2;have h3 := hc (j % 64) u h2.symm;rwa [show off + j / 64 * 64 + j % 64 = off + j from by omega] at h3
def cX (w : World) (base : Nat) (v : Value) (l : List Blk) : Prop := w.ownsRow base 64 64 v l.length (flat l)
section
variable {w w' : World} {B B' n : Nat} {v : Value} {l : List Blk}
theorem cX.nil (w : World) (B : Nat) : cX w B (.slice none 0 0) [] := ⟨rfl, .inl ⟨rfl, rfl⟩⟩
theorem cX.form (h : cX w B v l) : ∃ A c, v = .slice A l.length c /\ l.length <= c /\ c <= maxLen := by
 rcases h.2 with ⟨rfl, h0⟩ | ⟨g, cap, cur, rfl, _, _, h1, h2, _⟩
 ·exact ⟨none, 0, by rw [h0], by omega, by simp [maxLen]⟩
 ·exact ⟨_, cap, rfl, h1, h2⟩
theorem cX.rd {A : Option Addr} {c : Nat} (h : cX w B (.slice A n c) l) : RdB w w.heap.size A n l := by
 rcases h.2 with ⟨hv, h0⟩ | ⟨g, cap, cur, hv, _, hg, _, _, _, ht⟩
 ·have hl : l = [] := List.eq_nil_of_length_eq_zero h0;subst hl;injection hv with h1 h2 h3;subst h2;exact RdB.nil _ _ _
 ·injection hv with h1 h2 h3;subst h1 h2 h3;refine xF (Array.getElem?_eq_some_iff.1 hg).1 fun j u hu => ?_
  rw [cell_of_row w g (0 + j) cur 64 (0, 0) hg, Nat.zero_add];have hj : j < l.length * 64 := by have := (List.getElem?_eq_some_iff.1 hu).1; rwa [eC] at this
  rw [<- ht, List.getElem?_take_of_lt hj] at hu
  simpa using hu
theorem cX.below (h : cX w B v l) (hb : Below w.heap.size w w') : cX w' B v l := by
 refine ⟨h.1, ?_⟩;rcases h.2 with hn | ⟨g, cap, cur, rfl, hbg, hg, rest⟩
 ·exact .inl hn
 ·exact .inr ⟨g, cap, cur, rfl, hbg, by rw [hb.block g (Array.getElem?_eq_some_iff.1 hg).1]; exact hg, rest⟩
theorem cX.base (h : cX w B v l) (hb : B' <= B) : cX w B' v l := by
 refine ⟨h.1, ?_⟩;rcases h.2 with hn | ⟨g, cap, cur, rfl, hbg, rest⟩
 ·exact .inl hn
 ·exact .inr ⟨g, cap, cur, rfl, ap hb hbg, rest⟩
theorem cX.open_ (h : cX w B v l) (hn : l.length = n) : ∃ A c, v = .slice A n c /\ RdB w w.heap.size A n l /\ n <= c /\ c <= maxLen := by
 subst hn;obtain ⟨A, c, rfl, h1, h2⟩ := h.form;exact ⟨A, c, rfl, h.rd, h1, h2⟩
end
theorem acm (w : World) (ty B N m c : Nat) (v : Value) (l l' : List Blk) (A : Option Addr) (hm : cX w B v l) (hr : RdB w N A m l') (hB : B <= w.heap.size) (hsum : l.length + m <= 2199023255552) :
  ∃ v' w', (Builtin.append_ #[120, 120] ty #[v, .slice A m c]).run prog w = .ok v' w' /\ cX w' B v' (l ++ l') /\ w.grownBy w' v.ownBlock := by
 obtain ⟨i0, hi, hz0, hz1, hz2⟩ := info_parts qT;rcases A with _ | ad
 ·have h0 : m = 0 := by
   rcases Nat.eq_zero_or_pos m with h | h
   ·exact h
   ·obtain ⟨b, off, e, _⟩ := hr.2 0 h;cases e
  subst h0;have hn : l' = [] := List.eq_nil_of_length_eq_zero hr.1;subst hn;refine ⟨v, w, ?_, by rw [List.append_nil]; exact hm, World.grownBy.refl w _⟩;rcases hm.2 with ⟨rfl, _⟩ | ⟨g, cap, cur, rfl, _, _, hnc, _⟩
  ·simp [Builtin.append_, run_underlying ki, sizeOf, typeInfo, hi, Builtin.lenOf, Builtin.firstCells]
  ·simp [Builtin.append_, run_underlying ki, sizeOf, typeInfo, hi, Builtin.lenOf, Builtin.firstCells, hnc, storeCells]
 ·obtain ⟨v', w', h1, h2, h3, _⟩ := run_append_own (P := prog) w B 120 ty 64 i0 (blk aE) 64 64 ki hi hz0 hz1 hz2 (by rw [fm]; simp [aG]) (by decide) v l.length _ hm ad m c (flat l')
   (by rw [eC, hr.1]) (r9 hr) (ad5 l') (by unfold maxLen; omega) (by omega) hB
  refine ⟨v', w', h1, ?_, h3⟩;unfold cX;rw [kK, List.length_append, hr.1];exact h2
theorem hU {w : World} {ops : Array Oper} {rest : List Oper} {o : Oper} {a : Act} {Q : Exit -> Act -> World -> Prop} (hgd : o.guard = none) (s x : Operand)
  (ho : o.op = .call { callee := .builtin .append, args := #[s, x], argTypes := #[120, 120] })
  (B N m c : Nat) (v : Value) (l l' : List Blk) (A : Option Addr) (hs : a.eval s = v) (hx : a.eval x = .slice A m c) (hm : cX w B v l) (hr : RdB w N A m l') (hB : B <= w.heap.size) (hsum : l.length + m <= 2199023255552)
  (h : ∀ v' w', cX w' B v' (l ++ l') -> w.grownBy w' v.ownBlock -> wpList prog ops Q rest (a.put o.dst v') w') : wpList prog ops Q (o :: rest) a w := by
 refine wpList_plain hgd fun K hK => ?_
 obtain ⟨v', w', hrun, h1, h2⟩ := acm w o.type B N m c v l l' A hm hr hB hsum;unfold Oper.wp;simp [execOp, ho, resolve, invoke, builtin, hs, hx, hrun, Result.andThen];exact hK _ _ (h v' w' h1 h2)
theorem uc (pre post : List Value) : ∀ (vs mid done : List Value), mid.length = vs.length ->
  (vs.zipIdx done.length).foldl (fun cs (p : Value × Nat) => cs.setIfInBounds (pre.length + p.2) p.1) (pre ++ done ++ mid ++ post).toArray = (pre ++ done ++ vs ++ post).toArray
 |[], mid, done, h => by
  have : mid = [] := List.eq_nil_of_length_eq_zero h;subst this;simp
 |v :: vs, mid, done, h => by
  match mid, h with
  |m :: ms, h =>
   rw [List.zipIdx_cons, List.foldl_cons];have hset : (pre ++ done ++ m :: ms ++ post).toArray.setIfInBounds (pre.length + done.length) v = (pre ++ (done ++ [v]) ++ ms ++ post).toArray := by
    rw [List.setIfInBounds_toArray]
    congr 1
    rw [List.append_assoc (pre ++ done), List.set_append_right _ _ (by simp), List.length_append, Nat.sub_self];simp
   have := uc pre post vs ms (done ++ [v]) (by simpa using h);rw [List.length_append, List.length_singleton] at this
   show (vs.zipIdx (done.length + 1)).foldl (fun cs (p : Value × Nat) => cs.setIfInBounds (pre.length + p.2) p.1) ((pre ++ done ++ m :: ms ++ post).toArray.setIfInBounds (pre.length + done.length) v) = _
   rw [hset, this];simp
theorem n9 : ∀ (bs : List Blk) (k : Nat) (pre rest : List Value), pre.length = k * 64 -> rest.length = bs.length * 64 ->
  Instr.fill (fun i => some (i * 64, 64)) (pre ++ rest).toArray ((bs.zipIdx k).map fun p => (p.2, blk p.1)) = some (pre ++ flat bs).toArray
 |[], k, pre, rest, hp, hr => by
  have : rest = [] := List.eq_nil_of_length_eq_zero (by simpa using hr);subst this;simp [Instr.fill, flat]
 |b :: bs, k, pre, rest, hp, hr => by
  have hw := uc pre (rest.drop 64) (cel b) (rest.take 64) [] (by rw [List.length_take, aG, hr, List.length_cons]; omega);simp only [List.append_nil, List.length_nil, List.append_assoc, List.take_append_drop] at hw;have ih := n9 bs (k + 1) (pre ++ cel b) (rest.drop 64) (by rw [List.length_append, hp, aG]; omega) (by rw [List.length_drop, hr, List.length_cons]; omega);rw [List.zipIdx_cons, List.map_cons, Instr.fill];have hc : (decide ((blk b).cells.size ≠ 64) || decide (k * 64 + (blk b).cells.size > (pre ++ rest).toArray.size)) = false := by
   rw [fm];simp [aG, hp, hr];omega
  show (if (decide ((blk b).cells.size ≠ 64) || decide (k * 64 + (blk b).cells.size > (pre ++ rest).toArray.size)) = true then none else _) = _
  rw [hc, if_neg (by simp), fm, <- Array.foldl_toList, Array.toList_zipIdx];rw [hp] at hw;simp only [List.append_assoc] at ih;rw [hw, ih, iH]
section
variable {ρ : Operand -> Value} {o : Oper} {w : World} {n : Nat}
theorem vh {parts : List (Nat × Operand)} (bs : List Blk) (ho : o.op = .buildSlice 120 n parts.toArray) (h : parts.map (fun (i, x) => (i, ρ x)) = (bs.zipIdx 0).map fun p => (p.2, blk p.1)) (hn : bs.length = n) (h0 : 0 < n) (h1 : n <= 1000) :
  (execOp ρ o).run prog w = .ok (.value (.slice (some ⟨w.heap.size, 0, none⟩) n n)) (w.alloc (.cells (flat bs).toArray 64)) := by
 subst hn;have hz : ((Array.range (bs.length * 64)).map fun j => (blk aE).cells[j % (blk aE).cells.size]!).toList.length = bs.length * 64 := by simp
 have hf := n9 bs 0 [] _ (by simp) hz;simp only [List.nil_append, Array.toArray_toList] at hf;have hs : (sizeOf 64).run prog w = .ok 64 w := Tryz.sizeOf64 w;unfold execOp;simp only [ho, List.map_toArray, Instr.buildSlice, Sem.run_bind, run_underlying ki, Result.andThen_ok, hs];rw [if_neg (by omega), if_neg (by omega)];simp only [Sem.run_bind, nd, Result.andThen_ok, Sem.run_pure, h];rw [hf];simp [newRow]
end
def hd (n : Nat) : Nat := (n + 15) / 16
theorem ol (n : Nat) : 4 * n <= 64 * hd n := by unfold hd; omega
theorem ahd (n : Nat) : (4 * n + 63) / 64 = hd n := by unfold hd; omega
def ez (n : Int) : Nat := if n < 1 \/ 32 < n then 0 else hd n.toNat + n.toNat
theorem mN {n : Int} (h : n < 1 \/ 32 < n) : ez n = 0 := if_pos h
theorem gM {n : Nat} (h1 : 1 <= n) (h2 : n <= 32) : ez (n : Int) = hd n + n := by unfold ez; rw [if_neg (by omega), Int.toNat_natCast]
theorem yJ {n : Int} (h : ez n ≠ 0) : ∃ k : Nat, n = (k : Int) /\ 1 <= k /\ k <= 32 := by
 by_cases h1 : n < 1 \/ 32 < n
 ·exact absurd (mN h1) h
 ·exact ⟨n.toNat, by omega, by omega, by omega⟩
theorem lw {l : List UInt8} {j : Nat} (h : l.length <= j) : bt l j = 0 := by
 unfold bt;rw [List.getD, List.getElem?_eq_none h]
 rfl
def cj (l : List Blk) : List UInt8 := l.flatMap fun b => b.toList
theorem iG (b : Blk) (l : List Blk) : cj (b :: l) = b.toList ++ cj l := rfl
theorem fS (a b : List Blk) : cj (a ++ b) = cj a ++ cj b := by simp [cj]
theorem dh (l : List Blk) : (cj l).length = 64 * l.length := by
 induction l with
 |nil => rfl
 |cons x l ih => rw [iG, List.length_append, ih, List.length_cons, bR]; omega
theorem aak (l : List Blk) : (cj l).map (fun u => Value.int .u8 (u.toNat : Int)) = flat l := by
 induction l with
 |nil => rfl
 |cons x l ih => rw [iG, List.map_append, ih, iH]; rfl
theorem o8 {l : List Blk} {k j : Nat} (hk : k < l.length) (hj : j < 64) : bt (cj l) (64 * k + j) = byt (l.getD k aE) j := by
 induction l generalizing k with
 |nil => simp at hk
 |cons x l ih =>
  rw [iG];cases k with
  |zero => rw [Nat.mul_zero, Nat.zero_add, dc (by rw [bR]; exact hj)]; rfl
  |succ k =>
   rw [cR (by rw [bR]; omega), bR, show 64 * (k + 1) + j - 64 = 64 * k + j from by omega, ih (by simpa using hk)]
   rfl
theorem adK {a b : List Blk} (hl : a.length = b.length) (h : ∀ j, j < 64 * a.length -> bt (cj a) j = bt (cj b) j) : a = b := by
 apply List.ext_getElem hl;intro k h1 h2;apply yi;intro j hj;have e := h (64 * k + j) (by omega);rw [o8 h1 hj, o8 h2 hj] at e
 simpa [List.getD, h1, h2] using e
theorem zI (l : List Blk) (k : Nat) : cj (l.take k) = (cj l).take (64 * k) := by
 induction l generalizing k with
 |nil => simp [cj]
 |cons x l ih =>
  cases k with
  |zero => simp [cj]
  |succ k =>
   rw [List.take_succ_cons, iG, iG, List.take_append, bR, ih, List.take_of_length_le (l := x.toList) (by rw [bR]; omega), show 64 * (k + 1) - 64 = 64 * k from by omega]
theorem afD {l : List UInt8} {k j : Nat} (h : j < k) : bt (l.take k) j = bt l j := by
 unfold bt;simp [List.getD, List.getElem?_take_of_lt h]
def secs (k : Nat) (x : List UInt8) : List Blk := (List.range k).map fun i => ofL (x.drop (64 * i))
theorem dX (k : Nat) (x : List UInt8) : (secs k x).length = k := by simp [secs]
theorem yb {k j : Nat} {x : List UInt8} (h : j < 64 * k) : bt (cj (secs k x)) j = bt x j := by
 have e : j = 64 * (j / 64) + j % 64 := by omega
 have hk : j / 64 < (secs k x).length := by rw [dX]; omega
 rw [e, o8 hk (by omega)];have e2 : (secs k x).getD (j / 64) aE = ofL (x.drop (64 * (j / 64))) := by
  unfold secs;rw [List.getD, List.getElem?_map, List.getElem?_range (by omega)]
  rfl
 rw [e2, o6 _ (by omega)];unfold bt;simp [List.getD, List.getElem?_drop]
theorem zu {k : Nat} {x : List UInt8} (h : x.length <= 64 * k) : cj (secs k x) = x ++ List.replicate (64 * k - x.length) 0 := by
 refine iR (by rw [dh, dX, List.length_append, List.length_replicate]; omega) fun j hj => ?_
 rw [dh, dX] at hj;rw [yb hj];by_cases hx : j < x.length
 ·rw [dc hx]
 ·rw [cR (by omega), j8, lw (by omega)]
theorem q9 (k : Nat) (x : List UInt8) : secs (k + 1) x = secs k x ++ [ofL (x.drop (64 * k))] := by
 unfold secs;rw [List.range_succ, List.map_append]
 rfl
structure Cl where
 s : Int
 m : Int
 b : Blk
deriving DecidableEq
def cO : Cl := ⟨0, 0, aE⟩
def okP (s m : Int) : Bool := decide (0 <= s /\ s < 64 /\ 0 <= m /\ m < 16)
def okC (c : Cl) : Bool := okP c.s c.m
theorem ahH {c : Cl} (h : okC c = true) : 0 <= c.s /\ c.s < 64 /\ 0 <= c.m /\ c.m < 16 := of_decide_eq_true h
def jb (l : List Cl) : Bool := l.any fun c => !okC c
theorem oz {l : List Cl} {k : Nat} (hk : k < l.length) (h : okC (l.getD k cO) = false) : jb l = true := by
 rw [List.getD, List.getElem?_eq_getElem hk, Option.getD_some] at h;exact List.any_eq_true.2 ⟨l[k], List.getElem_mem hk, by rw [h]; rfl⟩
theorem sM {l : List Cl} (h : ∀ k, k < l.length -> okC (l.getD k cO) = true) : jb l = false := by
 refine Bool.eq_false_iff.2 fun hb => ?_
 obtain ⟨c, hc, h2⟩ := List.any_eq_true.1 hb;obtain ⟨k, hk, rfl⟩ := List.getElem_of_mem hc;have := h k hk;rw [List.getD, List.getElem?_eq_getElem hk, Option.getD_some] at this;rw [this] at h2;cases h2
theorem ael {l : List Cl} (h : jb l = false) {k : Nat} (hk : k < l.length) : okC (l.getD k cO) = true := by
 cases e : okC (l.getD k cO)
 ·rw [oz hk e] at h; cases h
 ·rfl
def pl4 (c : Cl) : List UInt8 := bw 8 2 c.s.toNat ++ (bw 8 1 c.m.toNat ++ [0])
theorem gB (c : Cl) : (pl4 c).length = 4 := by simp [pl4, aL]
def eX (l : List Cl) : List UInt8 := l.flatMap pl4
theorem ri (c : Cl) (l : List Cl) : eX (c :: l) = pl4 c ++ eX l := rfl
theorem nR (a b : List Cl) : eX (a ++ b) = eX a ++ eX b := by simp [eX]
theorem fa (l : List Cl) : (eX l).length = 4 * l.length := by
 induction l with
 |nil => rfl
 |cons x l ih => rw [ri, List.length_append, ih, List.length_cons, gB]; omega
theorem aes {l : List Cl} {k j : Nat} (hk : k < l.length) (hj : j < 4) : bt (eX l) (4 * k + j) = bt (pl4 (l.getD k cO)) j := by
 induction l generalizing k with
 |nil => simp at hk
 |cons x l ih =>
  rw [ri];cases k with
  |zero => rw [Nat.mul_zero, Nat.zero_add, dc (by rw [gB]; exact hj)]; rfl
  |succ k =>
   rw [cR (by rw [gB]; omega), gB, show 4 * (k + 1) + j - 4 = 4 * k + j from by omega, ih (by simpa using hk)]
   rfl
def iI (l : List Cl) : List Blk := l.map fun c => c.b
theorem ef (l : List Cl) : (iI l).length = l.length := by simp [iI]
def dC (l : List Cl) : List Blk := secs (hd l.length) (eX l) ++ iI l
theorem dz (l : List Cl) : (dC l).length = hd l.length + l.length := by unfold dC; rw [List.length_append, dX, ef]
theorem z8 (l : List Cl) : cj (dC l) = (eX l ++ List.replicate (64 * hd l.length - 4 * l.length) 0) ++ cj (iI l) := by
 unfold dC;rw [fS, zu (by rw [fa]; exact ol _), fa]
def gc (l : List Cl) : Nat := if l.length = 0 \/ jb l = true then 2 else if 32 < l.length then 3 else 0
def aer (l : List Cl) : List Blk := if gc l = 0 then dC l else []
theorem ml {l : List Cl} (h : l.length = 0 \/ jb l = true) : gc l = 2 := if_pos h
theorem rR {l : List Cl} (h0 : l.length ≠ 0) (hb : jb l = false) (h : 32 < l.length) : gc l = 3 := by unfold gc; rw [if_neg (by rw [hb]; simp; simpa using h0), if_pos h]
theorem yZ {l : List Cl} (h0 : l.length ≠ 0) (hb : jb l = false) (h : l.length <= 32) : gc l = 0 := by unfold gc; rw [if_neg (by rw [hb]; simp; simpa using h0), if_neg (by omega)]
theorem sI {l : List Cl} (h : gc l = 0) : 1 <= l.length /\ l.length <= 32 /\ jb l = false := by
 unfold gc at h
 split at h
 ·omega
 ·rename_i h1
  split at h
  ·omega
  ·exact ⟨by omega, by omega, by cases e : jb l; rfl; exact absurd (.inr e) h1⟩
theorem oC {l : List Cl} (h : gc l = 0) : aer l = dC l := if_pos h
theorem ld {l : List Cl} (h : gc l ≠ 0) : aer l = [] := if_neg h
theorem yh {b : List UInt8} {p : Nat} (h : p < b.length) : (val 8 (piece b p 1) : Int) = bt b p := by
 have := iZ (b := b) (p := p) (k := 0) h;rw [this];simp [piece, val]
theorem afG {b : List UInt8} {p : Nat} (h : p + 1 < b.length) : (val 8 (piece b p 2) : Int) = bt b p + 256 * bt b (p + 1) := by
 rw [iZ (b := b) (p := p) (k := 1) (by omega), yh h];omega
def lR (l : List Blk) (k i : Nat) : Cl := ⟨val 8 (piece (cj l) (4 * i) 2), val 8 (piece (cj l) (4 * i + 2) 1), l.getD (k + i) aE⟩
def tol (l : List Blk) (n : Nat) : List Cl := (List.range n).map fun i => lR l (hd n) i
theorem cK (l : List Blk) (n : Nat) : (tol l n).length = n := by simp [tol]
theorem pf {l : List Blk} {n i : Nat} (h : i < n) : (tol l n).getD i cO = lR l (hd n) i := by
 unfold tol;rw [List.getD, List.getElem?_map, List.getElem?_range h]
 rfl
section
variable {l : List Blk} {n : Nat} (hl : l.length = hd n + n)
include hl
theorem rT : 4 * n <= (cj l).length := by rw [dh, hl]; have := ol n; omega
theorem aen {i : Nat} (h : i < n) : pl4 (lR l (hd n) i) = piece (cj l) (4 * i) 2 ++ (piece (cj l) (4 * i + 2) 1 ++ [0]) := by
 have h64 := rT hl;have l2 := bU (b := cj l) (p := 4 * i) (k := 2) (by omega);have l1 := bU (b := cj l) (p := 4 * i + 2) (k := 1) (by omega);unfold pl4 lR;rw [Int.toNat_natCast, Int.toNat_natCast];have e2 := p9 (mw (piece (cj l) (4 * i) 2));have e1 := p9 (mw (piece (cj l) (4 * i + 2) 1));rw [l2] at e2;rw [l1] at e1;rw [e2, e1]
theorem xz {i j : Nat} (h : i < n) (hj : j < 4) : bt (pl4 (lR l (hd n) i)) j = if j = 3 then 0 else bt (cj l) (4 * i + j) := by
 have h64 := rT hl;have l2 := bU (b := cj l) (p := 4 * i) (k := 2) (by omega);have l1 := bU (b := cj l) (p := 4 * i + 2) (k := 1) (by omega);rw [aen hl h];by_cases h2 : j < 2
 ·rw [dc (by omega), gi h2, if_neg (by omega)]
 ·rw [cR (by omega), l2];by_cases h3 : j = 3
  ·subst h3;rw [cR (by omega), l1, if_pos rfl]
   rfl
  ·rw [dc (by omega), gi (by omega), if_neg h3, show 4 * i + 2 + (j - 2) = 4 * i + j from by omega]
theorem abr : iI (tol l n) = l.drop (hd n) := by
 apply List.ext_getElem
 ·rw [ef, cK, List.length_drop]; omega
 ·intro i h1 h2;rw [ef, cK] at h1;have e : (iI (tol l n))[i]? = some (l.getD (hd n + i) aE) := by
   unfold iI tol lR;rw [List.getElem?_map, List.getElem?_map, List.getElem?_range h1]
   rfl
  rw [List.getElem?_eq_getElem (by rw [ef, cK]; exact h1)] at e;injection e with e;rw [e, List.getElem_drop, List.getD, List.getElem?_eq_getElem (by omega)]
  rfl
theorem qA : dC (tol l n) = l ↔ (∀ i, i < n -> bt (cj l) (4 * i + 3) = 0) /\ (∀ j, 4 * n <= j -> j < 64 * hd n -> bt (cj l) j = 0) := by
 have hle := ol n;have hb := abr hl;have hlen : (dC (tol l n)).length = l.length := by rw [dz, cK, hl]
 have key : ∀ j, j < 64 * hd n -> bt (cj (dC (tol l n))) j = bt (eX (tol l n)) j := fun j hj => by
  unfold dC;rw [cK, fS, dc (by rw [dh, dX]; exact hj), yb hj]
 have keyi : ∀ i r, i < n -> r < 4 -> bt (eX (tol l n)) (4 * i + r) = if r = 3 then 0 else bt (cj l) (4 * i + r) := fun i r hi hr => by
  rw [aes (by rw [cK]; exact hi) hr, pf hi, xz hl hi hr]
 constructor
 ·intro e;refine ⟨fun i hi => ?_, fun j h1 h2 => ?_⟩
  ·have h1 := key (4 * i + 3) (by omega);rw [e, keyi i 3 hi (by omega), if_pos rfl] at h1;exact h1
  ·have h3 := key j h2;rw [e, lw (l := eX (tol l n)) (by rw [fa, cK]; exact h1)] at h3;exact h3
 ·rintro ⟨h3, hz⟩;refine adK hlen fun j hj => ?_
  rw [hlen, hl] at hj;by_cases h1 : j < 64 * hd n
  ·rw [key j h1];by_cases h2 : j < 4 * n
   ·have e : j = 4 * (j / 4) + j % 4 := by omega
    have h4 := keyi (j / 4) (j % 4) (by omega) (by omega);rw [<- e] at h4;rw [h4]
    split
    ·rename_i e3
     have h5 := h3 (j / 4) (by omega);rw [<- e3, <- e] at h5;exact h5.symm
    ·rfl
   ·rw [lw (l := eX (tol l n)) (by rw [fa, cK]; omega), hz j (by omega) h1]
  ·unfold dC;rw [cK, fS, cR (by rw [dh, dX]; omega), dh, dX, hb];have e : cj l = cj (l.take (hd n)) ++ cj (l.drop (hd n)) := by rw [<- fS, List.take_append_drop]
   rw [e, cR (by rw [dh, List.length_take]; omega), dh, List.length_take, Nat.min_eq_left (by omega)]
end
def rgE (l : List Blk) (n : Int) : Nat := if ez n = 0 then 2 else if l.length < ez n then 4 else if ez n < l.length then 5 else if jb (tol l n.toNat) = true \/ dC (tol l n.toNat) ≠ l then 5 else 0
def rgC (l : List Blk) (n : Int) : List Cl := if rgE l n = 0 then tol l n.toNat else []
theorem iW {l : List Blk} {n : Int} (h : rgE l n ≠ 0) : rgC l n = [] := if_neg h
theorem abh {l : List Blk} {n : Int} (h : rgE l n = 0) : rgC l n = tol l n.toNat := if_pos h
theorem yF {l : List Blk} {n : Int} (h : ez n = 0) : rgE l n = 2 := if_pos h
theorem qZ {l : List Blk} {n : Int} (h : ez n ≠ 0) (h2 : l.length < ez n) : rgE l n = 4 := by unfold rgE; rw [if_neg h, if_pos h2]
theorem uH {l : List Blk} {n : Int} (h : ez n ≠ 0) (h2 : ez n < l.length) : rgE l n = 5 := by unfold rgE; rw [if_neg h, if_neg (by omega), if_pos h2]
section
variable {l : List Blk} {n : Nat} (h1 : 1 <= n) (h32 : n <= 32) (hl : l.length = hd n + n)
include h1 h32 hl
theorem acX : rgE l (n : Int) = if jb (tol l n) = true \/ dC (tol l n) ≠ l then 5 else 0 := by
 unfold rgE;rw [gM h1 h32, hl, if_neg (by omega), if_neg (by omega), if_neg (by omega), Int.toNat_natCast]
theorem mR (h : jb (tol l n) = true \/ dC (tol l n) ≠ l) : rgE l (n : Int) = 5 := by rw [acX h1 h32 hl, if_pos h]
theorem aeg (hb : jb (tol l n) = false) (h : dC (tol l n) = l) : rgE l (n : Int) = 0 := by rw [acX h1 h32 hl, if_neg (by rw [hb]; simp [h])]
theorem aau {i : Nat} (hi : i < n) (h : okC (lR l (hd n) i) = false \/ bt (cj l) (4 * i + 3) ≠ 0) : rgE l (n : Int) = 5 := by
 refine mR h1 h32 hl ?_;rcases h with h | h
 ·exact .inl (oz (k := i) (by rw [cK]; exact hi) (by rw [pf hi]; exact h))
 ·exact .inr fun e => h (((qA hl).1 e).1 i hi)
theorem adP {j : Nat} (ha : 4 * n <= j) (hb : j < 64 * hd n) (h : bt (cj l) j ≠ 0) : rgE l (n : Int) = 5 :=
 mR h1 h32 hl (.inr fun e => h (((qA hl).1 e).2 j ha hb))
theorem ac2 (hp : ∀ i, i < n -> okC (lR l (hd n) i) = true /\ bt (cj l) (4 * i + 3) = 0) (hz : ∀ j, 4 * n <= j -> j < 64 * hd n -> bt (cj l) j = 0) : rgE l (n : Int) = 0 :=
 aeg h1 h32 hl (sM fun k hk => by rw [cK] at hk; rw [pf hk]; exact (hp k hk).1) ((qA hl).2 ⟨fun i hi => (hp i hi).2, hz⟩)
end
structure Elt (α : Type) where
 s : TypeId
 t : TypeId
 n : Nat
 by_ : Nat
 cel : α -> List Value
 d : α
 z : Value
 pos : 0 < n
 small : by_ <= 4096
 len : ∀ a, (cel a).length = n
 one : ∀ a, ∀ v ∈ cel a, v.oneCell' = true
 und : prog.underlying s = some (.slice t)
 info : (prog.info? t).map (fun i => (i.zero, i.size, i.bytes)) = some (some z, n, by_)
 zc : z.cells.size = n
section
variable {α : Type} (E : Elt α)
def bY (l : List α) : List Value := l.flatMap E.cel
theorem eH (x : α) (l : List α) : bY E (x :: l) = E.cel x ++ bY E l := rfl
theorem iz (a b : List α) : bY E (a ++ b) = bY E a ++ bY E b := by simp [bY]
theorem cm (l : List α) : (bY E l).length = l.length * E.n := by
 induction l with
 |nil => simp [bY]
 |cons x l ih => rw [eH, List.length_append, E.len, ih, List.length_cons, Nat.add_mul]; omega
theorem qI (l : List α) {k j : Nat} (hk : k < l.length) (hj : j < E.n) : (bY E l)[k * E.n + j]? = (E.cel (l.getD k E.d))[j]? := by
 induction l generalizing k with
 |nil => simp at hk
 |cons x l ih =>
  rw [eH];cases k with
  |zero => rw [Nat.zero_mul, Nat.zero_add, List.getElem?_append_left (by rw [E.len]; exact hj)]; rfl
  |succ k =>
   have e : (k + 1) * E.n + j - E.n = k * E.n + j := by rw [Nat.add_mul]; omega
   rw [List.getElem?_append_right (by rw [E.len, Nat.add_mul]; omega), E.len, e, ih (by simpa using hk)]
   rfl
theorem nk (l : List α) : ∀ v ∈ bY E l, v.oneCell' = true := by
 intro v hv;simp only [bY, List.mem_flatMap] at hv;obtain ⟨b, _, hb⟩ := hv;exact E.one b v hb
def RdE (w : World) (B : Nat) (A : Option Addr) (n : Nat) (l : List α) : Prop :=
 l.length = n /\ ∀ k, k < n -> ∃ b off, A = some ⟨b, off, none⟩ /\ b < B /\ w.rangeAt b (off + k * E.n) (E.cel (l.getD k E.d))
def aO (w : World) (base : Nat) (v : Value) (l : List α) : Prop := w.ownsRow base E.t E.n v l.length (bY E l)
end
section
variable {w w' : World} {b o B : Nat} {cs : List Value}
theorem qX (h : w.rangeAt b o cs) (hb : b < B) (hw : Below B w w') : w'.rangeAt b o cs := fun j v hj => by
 rw [hw.cell (p := ⟨b, o + j, none⟩) hb]; exact h j v hj
end
section
variable {α : Type} {E : Elt α} {w w' : World} {B B' n : Nat} {A : Option Addr} {l : List α} {v : Value}
theorem RdE.nil (w : World) (B : Nat) (A : Option Addr) : RdE E w B A 0 [] := ⟨rfl, fun k hk => absurd hk (by omega)⟩
theorem RdE.more (h : RdE E w B A n l) (hB : B <= B') : RdE E w B' A n l :=
 ⟨h.1, fun k hn => by
  obtain ⟨b, off, e, hb, hc⟩ := h.2 k hn;exact ⟨b, off, e, by omega, hc⟩⟩
theorem RdE.below (h : RdE E w B A n l) (hb : Below B w w') : RdE E w' B A n l :=
 ⟨h.1, fun k hn => by
  obtain ⟨b, off, e, hlt, hc⟩ := h.2 k hn;exact ⟨b, off, e, hlt, qX hc hlt hb⟩⟩
theorem RdE.step (h : RdE E w w.heap.size A n l) (hb : Below w.heap.size w w') : RdE E w' w'.heap.size A n l := (h.below hb).more hb.size
theorem acy {g o : Nat} (hg : g < B) (h : ∀ j v, (bY E l)[j]? = some v -> w.cell? ⟨g, o + j, none⟩ = some v) : RdE E w B (some ⟨g, o, none⟩) l.length l :=
 ⟨rfl, fun k hk => ⟨g, o, rfl, hg, fun j v hj => by
  have hlt : j < E.n := by have := (List.getElem?_eq_some_iff.1 hj).1; rwa [E.len] at this
  rw [show o + k * E.n + j = o + (k * E.n + j) from by omega];exact h _ v (by rw [qI E l hk hlt]; exact hj)⟩⟩
theorem zk {g : Nat} {cs : Array Value} {t : TypeId} (hg : w.heap[g]? = some (.cells cs t (0, 0))) (h : cs.toList = bY E l) (hB : g < B) : RdE E w B (some ⟨g, 0, none⟩) l.length l :=
 acy hB fun j v hj => by
  rw [cell_of_row _ _ (0 + j) cs t (0, 0) hg, Nat.zero_add, <- Array.getElem?_toList, h];exact hj
theorem fp (w : World) (cs : Array Value) (t : TypeId) (h : cs.toList = bY E l) : RdE E (w.alloc (.cells cs t)) (w.heap.size + 1) (some ⟨w.heap.size, 0, none⟩) l.length l :=
 zk (heap_alloc_new w _) h (by omega)
theorem jW {N : Nat} {ad : Addr} (h : RdE E w N (some ad) n l) : ∀ (j : Nat) (u : Value), (bY E l)[j]? = some u -> w.cell? (ad.add j) = some u := by
 intro j u hu;have hj : j < l.length * E.n := by have := (List.getElem?_eq_some_iff.1 hu).1; rwa [cm] at this
 have hk : j / E.n < l.length := Nat.div_lt_of_lt_mul (by rw [Nat.mul_comm]; exact hj);have hr : j % E.n < E.n := Nat.mod_lt _ E.pos;have hd : j / E.n * E.n + j % E.n = j := Nat.div_add_mod' j E.n;obtain ⟨b, off, e, _, hc⟩ := h.2 (j / E.n) (by have := h.1; omega);injection e with e;subst e;have hadd : (⟨b, off, none⟩ : Addr).add j = ⟨b, off + j, none⟩ := by unfold Addr.add; split <;> simp_all
 rw [hadd];have h2 := qI E l hk (j := j % E.n) hr;rw [hd, hu] at h2;have h3 := hc (j % E.n) u h2.symm;rwa [Nat.add_assoc, hd] at h3
theorem aO.nil (w : World) (B : Nat) : aO E w B (.slice none 0 0) [] := ⟨by simp [bY], .inl ⟨rfl, rfl⟩⟩
theorem aO.form (h : aO E w B v l) : ∃ A c, v = .slice A l.length c /\ l.length <= c /\ c <= maxLen := by
 rcases h.2 with ⟨rfl, h0⟩ | ⟨g, cap, cur, rfl, _, _, h1, h2, _⟩
 ·exact ⟨none, 0, by rw [h0], by omega, by simp [maxLen]⟩
 ·exact ⟨_, cap, rfl, h1, h2⟩
theorem aO.rd {c : Nat} (h : aO E w B (.slice A n c) l) : RdE E w w.heap.size A n l := by
 rcases h.2 with ⟨hv, h0⟩ | ⟨g, cap, cur, hv, _, hg, _, _, _, ht⟩
 ·have hl : l = [] := List.eq_nil_of_length_eq_zero h0;subst hl;injection hv with h1 h2 h3;subst h2;exact RdE.nil _ _ _
 ·injection hv with h1 h2 h3;subst h1 h2 h3;refine acy (Array.getElem?_eq_some_iff.1 hg).1 fun j u hu => ?_
  rw [cell_of_row w g (0 + j) cur E.t (0, 0) hg, Nat.zero_add];have hj : j < l.length * E.n := by have := (List.getElem?_eq_some_iff.1 hu).1; rwa [cm] at this
  rw [<- ht, List.getElem?_take_of_lt hj] at hu
  simpa using hu
theorem aO.below (h : aO E w B v l) (hb : Below w.heap.size w w') : aO E w' B v l := by
 refine ⟨h.1, ?_⟩;rcases h.2 with hn | ⟨g, cap, cur, rfl, hbg, hg, rest⟩
 ·exact .inl hn
 ·exact .inr ⟨g, cap, cur, rfl, hbg, by rw [hb.block g (Array.getElem?_eq_some_iff.1 hg).1]; exact hg, rest⟩
theorem aO.base (h : aO E w B v l) (hb : B' <= B) : aO E w B' v l := by
 refine ⟨h.1, ?_⟩;rcases h.2 with hn | ⟨g, cap, cur, rfl, hbg, rest⟩
 ·exact .inl hn
 ·exact .inr ⟨g, cap, cur, rfl, ap hb hbg, rest⟩
theorem aO.open_ (h : aO E w B v l) (hn : l.length = n) : ∃ A c, v = .slice A n c /\ RdE E w w.heap.size A n l /\ n <= c /\ c <= maxLen := by
 subst hn;obtain ⟨A, c, rfl, h1, h2⟩ := h.form;exact ⟨A, c, rfl, h.rd, h1, h2⟩
theorem aO.jZ (h : aO E w B v l) : ∀ k, v.ownBlock = some k -> B <= k := by
 intro k hk;rcases h.2 with ⟨rfl, _⟩ | ⟨g, cap, cur, rfl, hbg, _⟩
 ·simp [Value.ownBlock] at hk
 ·simp [Value.ownBlock] at hk; omega
theorem aO.of_block {g : Nat} {cs : Array Value} (hg : w.heap[g]? = some (.cells cs E.t (0, 0))) (h : cs.toList = bY E l) (hB : B <= g) (hl : l.length = n) (hm : n <= maxLen) : aO E w B (.slice (some ⟨g, 0, none⟩) n n) l := by
 subst hl;have hsz : cs.size = l.length * E.n := by rw [<- Array.length_toList, h, cm]
 refine ⟨cm E l, .inr ⟨g, l.length, cs, rfl, hB, hg, aj, hm, hsz, ?_⟩⟩;rw [h, List.take_of_length_le (by rw [cm]; exact aj)]
end
theorem aO.other {α β : Type} {E : Elt α} {E' : Elt β} {w : World} {B B' : Nat} {v v' : Value} {l : List α} {l' : List β} (h : aO E w B v l) (h' : aO E' w B' v' l') (hne : E.t ≠ E'.t) : v.ownBlock = none \/ v.ownBlock ≠ v'.ownBlock := by
 rcases h.2 with ⟨rfl, _⟩ | ⟨g, cap, cur, rfl, _, hg, _⟩
 ·exact .inl rfl
 ·rcases h'.2 with ⟨rfl, _⟩ | ⟨g', cap', cur', rfl, _, hg', _⟩
  ·exact .inr (by simp [Value.ownBlock])
  ·refine .inr fun e => ?_
   simp [Value.ownBlock] at e;subst e;rw [hg] at hg';simp at hg';exact hne hg'.2
theorem aO.kept {α : Type} {E : Elt α} {w w' : World} {B : Nat} {v : Value} {l : List α} {row : Option Nat} (h : aO E w B v l) (hg : w.grownBy w' row) (hne : v.ownBlock = none \/ v.ownBlock ≠ row) : aO E w' B v l := World.ownsRow.kept h hg hne
theorem rM {α : Type} (E : Elt α) (w : World) (ty B N m c : Nat) (v : Value) (l l' : List α) (A : Option Addr) (hm : aO E w B v l) (hr : RdE E w N A m l') (hB : B <= w.heap.size) (hml : l.length + m <= maxLen) (hby : (l.length + m) * E.by_ <= 140737488355328) :
  ∃ v' w', (Builtin.append_ #[E.s, E.s] ty #[v, .slice A m c]).run prog w = .ok v' w' /\ aO E w' B v' (l ++ l') /\ w.grownBy w' v.ownBlock := by
 obtain ⟨i0, hi, hz0, hz1, hz2⟩ := info_parts E.info;rcases A with _ | ad
 ·have h0 : m = 0 := by
   rcases Nat.eq_zero_or_pos m with h | h
   ·exact h
   ·obtain ⟨b, off, e, _⟩ := hr.2 0 h;cases e
  subst h0;have hn : l' = [] := List.eq_nil_of_length_eq_zero hr.1;subst hn;refine ⟨v, w, ?_, by rw [List.append_nil]; exact hm, World.grownBy.refl w _⟩;rcases hm.2 with ⟨rfl, _⟩ | ⟨g, cap, cur, rfl, _, _, hnc, _⟩
  ·simp [Builtin.append_, run_underlying E.und, sizeOf, typeInfo, hi, Builtin.lenOf, Builtin.firstCells]
  ·simp [Builtin.append_, run_underlying E.und, sizeOf, typeInfo, hi, Builtin.lenOf, Builtin.firstCells, hnc, storeCells]
 ·obtain ⟨v', w', h1, h2, h3, _⟩ := run_append_own (P := prog) w B E.s ty E.t i0 E.z E.n E.by_ E.und hi hz0 hz1 hz2 E.zc E.pos v l.length _ hm ad m c (bY E l')
   (by rw [cm, hr.1]) (jW hr) (nk E l') hml hby hB
  refine ⟨v', w', h1, ?_, h3⟩;unfold aO;rw [iz, List.length_append, hr.1];exact h2
theorem mK {α : Type} (E : Elt α) (w : World) (ty B N m c : Nat) (v : Value) (l l' : List α) (A : Option Addr) (hm : aO E w B v l) (hr : RdE E w N A m l') (hB : B <= w.heap.size) (hsum : l.length + m <= 34359738368) :
  ∃ v' w', (Builtin.append_ #[E.s, E.s] ty #[v, .slice A m c]).run prog w = .ok v' w' /\ aO E w' B v' (l ++ l') /\ w.grownBy w' v.ownBlock :=
 rM E w ty B N m c v l l' A hm hr hB (by unfold maxLen; omega) (ap (Nat.mul_le_mul hsum E.small) (by omega))
theorem kR {α : Type} (E : Elt α) {w : World} {ops : Array Oper} {rest : List Oper} {o : Oper} {a : Act} {Q : Exit -> Act -> World -> Prop} (hgd : o.guard = none) (s x : Operand)
  (ho : o.op = .call { callee := .builtin .append, args := #[s, x], argTypes := #[E.s, E.s] })
  (B N m c : Nat) (v : Value) (l l' : List α) (A : Option Addr) (hs : a.eval s = v) (hx : a.eval x = .slice A m c) (hm : aO E w B v l) (hr : RdE E w N A m l') (hB : B <= w.heap.size) (hsum : l.length + m <= 34359738368)
  (h : ∀ v' w', aO E w' B v' (l ++ l') -> w.grownBy w' v.ownBlock -> wpList prog ops Q rest (a.put o.dst v') w') : wpList prog ops Q (o :: rest) a w := by
 refine wpList_plain hgd fun K hK => ?_
 obtain ⟨v', w', hrun, h1, h2⟩ := mK E w o.type B N m c v l l' A hm hr hB hsum;unfold Oper.wp;simp [execOp, ho, resolve, invoke, builtin, hs, hx, hrun, Result.andThen];exact hK _ _ (h v' w' h1 h2)
theorem sa {α : Type} (E : Elt α) {w : World} {ops : Array Oper} {rest : List Oper} {o : Oper} {a : Act} {Q : Exit -> Act -> World -> Prop} (hgd : o.guard = none) (s x : Operand)
  (ho : o.op = .call { callee := .builtin .append, args := #[s, x], argTypes := #[E.s, E.s] })
  (B N m c : Nat) (v : Value) (l l' : List α) (A : Option Addr) (hs : a.eval s = v) (hx : a.eval x = .slice A m c) (hm : aO E w B v l) (hr : RdE E w N A m l') (hB : B <= w.heap.size) (hml : l.length + m <= maxLen) (hby : (l.length + m) * E.by_ <= 140737488355328)
  (h : ∀ v' w', aO E w' B v' (l ++ l') -> w.grownBy w' v.ownBlock -> wpList prog ops Q rest (a.put o.dst v') w') : wpList prog ops Q (o :: rest) a w := by
 refine wpList_plain hgd fun K hK => ?_
 obtain ⟨v', w', hrun, h1, h2⟩ := rM E w o.type B N m c v l l' A hm hr hB hml hby
 unfold Oper.wp;simp [execOp, ho, resolve, invoke, builtin, hs, hx, hrun, Result.andThen];exact hK _ _ (h v' w' h1 h2)
theorem ac0 (pre post : List Value) : ∀ (vs mid done : List Value), mid.length = vs.length ->
  (vs.zipIdx done.length).foldl (fun cs (p : Value × Nat) => cs.setIfInBounds (pre.length + p.2) p.1) (pre ++ done ++ mid ++ post).toArray = (pre ++ done ++ vs ++ post).toArray
 |[], mid, done, h => by
  have : mid = [] := List.eq_nil_of_length_eq_zero h;subst this;simp
 |v :: vs, mid, done, h => by
  match mid, h with
  |m :: ms, h =>
   rw [List.zipIdx_cons, List.foldl_cons];have hset : (pre ++ done ++ m :: ms ++ post).toArray.setIfInBounds (pre.length + done.length) v = (pre ++ (done ++ [v]) ++ ms ++ post).toArray := by
    rw [List.setIfInBounds_toArray]
    congr 1
    rw [List.append_assoc (pre ++ done), List.set_append_right _ _ (by simp), List.length_append, Nat.sub_self];simp
   have := ac0 pre post vs ms (done ++ [v]) (by simpa using h);rw [List.length_append, List.length_singleton] at this
   show (vs.zipIdx (done.length + 1)).foldl (fun cs (p : Value × Nat) => cs.setIfInBounds (pre.length + p.2) p.1) ((pre ++ done ++ m :: ms ++ post).toArray.setIfInBounds (pre.length + done.length) v) = _
   rw [hset, this];simp
theorem iS {place : Nat -> Option (Nat × Nat)} {i off size : Nat} {v : Value} {pre mid post vs : List Value} {rest : List (Nat × Value)} (hp : place i = some (off, size)) (hv : v.cells = vs.toArray) (hs : vs.length = size) (ho : pre.length = off) (hm : mid.length = size) :
  Instr.fill place (pre ++ mid ++ post).toArray ((i, v) :: rest) = Instr.fill place (pre ++ vs ++ post).toArray rest := by
 subst hs ho;have hw := ac0 pre post vs mid [] hm;simp only [List.append_nil, List.length_nil] at hw;rw [Instr.fill, hp];have hc : (decide (v.cells.size ≠ vs.length) || decide (pre.length + v.cells.size > (pre ++ mid ++ post).toArray.size)) = false := by
  rw [hv];simp [hm]
 show (if (decide (v.cells.size ≠ vs.length) || decide (pre.length + v.cells.size > (pre ++ mid ++ post).toArray.size)) = true then none else _) = _
 rw [hc, if_neg (by simp), hv, <- Array.foldl_toList, Array.toList_zipIdx]
 show Instr.fill place (vs.zipIdx.foldl (fun cs (p : Value × Nat) => cs.setIfInBounds (pre.length + p.2) p.1) (pre ++ mid ++ post).toArray) rest = _
 rw [hw]
section
variable {α : Type} (E : Elt α)
theorem fP (w : World) : (sizeOf E.t).run prog w = .ok E.n w := by
 obtain ⟨i0, hi, hz0, hz1, hz2⟩ := info_parts E.info;simp [sizeOf, typeInfo, hi, hz1]
theorem jH (w : World) : (zeroValue E.t).run prog w = .ok E.z w := by
 obtain ⟨i0, hi, hz0, hz1, hz2⟩ := info_parts E.info;simp [zeroValue, typeInfo, hi, hz0]
end
section
variable {α : Type} {E : Elt α} {ρ : Operand -> Value} {o : Oper} {x y : Operand} {w : World} {b off n c j : Nat} {v : Value} {a : α}
theorem add_mid (b off j : Nat) : (⟨b, off, none⟩ : Addr).add j = ⟨b, off + j, none⟩ := by unfold Addr.add; split <;> simp_all
theorem wR (hj : j < n) : (Instr.indexAt E.s (.slice (some ⟨b, off, none⟩) n c) (.int .i64 (j : Int))).run prog w = .ok (.pointer (some ⟨b, off + j * E.n, none⟩)) w := by
 have h := fP E w;simp [Instr.indexAt, asIntOf, run_underlying E.und, add_mid, h, hj]
theorem bH (ho : o.op = .indexAddr E.s x y) (hx : ρ x = .slice (some ⟨b, off, none⟩) n c) (hy : ρ y = .int .i64 (j : Int)) (hj : j < n) : (execOp ρ o).run prog w = .ok (.value (.pointer (some ⟨b, off + j * E.n, none⟩))) w :=
 dH ho hx hy (wR (E := E) hj)
theorem dZ (ho : o.op = .buildSlice E.s 1 #[(0, x)]) (hx : ρ x = v) (hv : v.cells = (E.cel a).toArray) (hn : E.n <= 16777216) :
  (execOp ρ o).run prog w = .ok (.value (.slice (some ⟨w.heap.size, 0, none⟩) 1 1)) (w.alloc (.cells (E.cel a).toArray E.t)) := by
 have hz := jH E w;have hs := fP E w;have hp := E.pos;obtain ⟨zs, hzs⟩ : ∃ zs : List Value, (Array.range (1 * E.n)).map (E.z.cells[· % E.z.cells.size]!) = zs.toArray := ⟨_, (Array.toArray_toList).symm⟩;have hzl : zs.length = E.n := by
  have := congrArg Array.size hzs
  simpa using this.symm
 have hf := iS (place := fun i => some (i * E.n, E.n)) (i := 0) (off := 0) (v := v) (pre := []) (mid := zs) (post := []) (vs := E.cel a) (rest := []) (by simp) hv (E.len a) rfl hzl;simp only [List.nil_append, List.append_nil] at hf;unfold execOp;simp only [ho, Instr.buildSlice, Sem.run_bind, run_underlying E.und, Result.andThen_ok, hs];rw [if_neg (by omega), if_neg (by omega)];simp only [Sem.run_bind, hz, Result.andThen_ok, Sem.run_pure, hzs];simp [hx, hf, Instr.fill, newRow]
end
theorem gC {α : Type} {E : Elt α} {o : Oper} {a : Act} {w w' : World} {s x : Operand} {A : Option Addr} {m c : Nat} {v v' : Value} (ho : o.op = .call { callee := .builtin .append, args := #[s, x], argTypes := #[E.s, E.s] }) (hs : a.eval s = v) (hx : a.eval x = .slice A m c)
  (hrun : (Builtin.append_ #[E.s, E.s] o.type #[v, .slice A m c]).run prog w = .ok v' w') : (execOp a.eval o).run prog w = .ok (.value v') w' := by
 simp [execOp, ho, resolve, invoke, builtin, hs, hx, hrun, Result.andThen]
theorem fq {α : Type} (E : Elt α) (w : World) (ty B N m c : Nat) (v : Value) (l l' : List α) (A : Option Addr) (hm : aO E w B v l) (hr : RdE E w N A m l') (hB : B <= w.heap.size) (hsum : l.length + m <= 34359738368) :
  ∃ v' w', (Builtin.append_ #[E.s, E.s] ty #[v, .slice A m c]).run prog w = .ok v' w' /\ aO E w' B v' (l ++ l') /\ w.grownBy w' v.ownBlock /\ ∀ x, v'.ownBlock = some x -> v.ownBlock = some x \/ w.heap.size <= x := by
 obtain ⟨v', w', h1, h2, h3⟩ := mK E w ty B N m c v l l' A hm hr hB hsum;refine ⟨v', w', h1, h2, h3, ?_⟩;have sure : ∀ v'' w'', (Builtin.append_ #[E.s, E.s] ty #[v, .slice A m c]).run prog w = .ok v'' w'' -> v' = v'' := fun v'' w'' e => by rw [h1] at e; injection e
 obtain ⟨i0, hi, hz0, hz1, hz2⟩ := info_parts E.info;rcases hm.2 with ⟨rfl, h0⟩ | ⟨g, cap, cur, rfl, hbg, hg, hnc, hcm, hcs, htake⟩
 ·have hm' : aO E w w.heap.size (.slice none 0 0) l := ⟨hm.1, .inl ⟨rfl, h0⟩⟩;obtain ⟨v2, w2, g1, g2, g3⟩ := mK E w ty w.heap.size N m c _ l l' A hm' hr aj hsum;have e := sure _ _ g1;subst e;exact fun x hx => .inr (g2.jZ x hx)
 ·rcases A with _ | ad
  ·have h0 : m = 0 := by
    rcases Nat.eq_zero_or_pos m with h | h
    ·exact h
    ·obtain ⟨b, off, e, _⟩ := hr.2 0 h;cases e
   subst h0;have e := sure (.slice (some ⟨g, 0, none⟩) l.length cap) w (by simp [Builtin.append_, run_underlying E.und, sizeOf, typeInfo, hi, Builtin.lenOf, Builtin.firstCells, hnc, storeCells]);subst e;exact fun x hx => .inl hx
  ·by_cases hroom : l.length + m <= cap
   ·have hfit : l.length * i0.size + (bY E l').length <= cur.size := by rw [cm, hr.1, hz1, hcs, <- Nat.add_mul]; exact Nat.mul_le_mul_right _ hroom
    have h := run_append_room (P := prog) w E.s ty E.t i0 E.und hi g l.length cap cur hg ad m c (bY E l') (by rw [cm, hr.1, hz1]) (jW hr) (nk E l') hroom hfit;have e := sure _ _ h;subst e;exact fun x hx => .inl hx
   ·have holds : ∀ j u, (bY E l)[j]? = some u -> w.cell? ((⟨g, 0, none⟩ : Addr).add j) = some u := World.ownsRow.cells hm (g := g) rfl;have hby : (l.length + m) * E.by_ <= 140737488355328 := ap (Nat.mul_le_mul hsum E.small) (by omega);have h := run_append_grow (P := prog) w E.s ty E.t i0 E.z E.und hi hz0 ⟨g, 0, none⟩ l.length cap (bY E l) (by rw [hz1]; exact hm.1) holds ad m c (bY E l') (by rw [cm, hr.1, hz1]) (jW hr) (by omega) (by omega) (growslice_fits (by omega) (by rw [hz2]; exact hby));have e := sure _ _ h;subst e;exact fun x hx => .inr (by simp [Value.ownBlock] at hx; omega)
theorem ku {α : Type} (E : Elt α) {w : World} {ops : Array Oper} {rest : List Oper} {o : Oper} {a : Act} {Q : Exit -> Act -> World -> Prop} (hgd : o.guard = none) (s x : Operand)
  (ho : o.op = .call { callee := .builtin .append, args := #[s, x], argTypes := #[E.s, E.s] })
  (B N m c : Nat) (v : Value) (l l' : List α) (A : Option Addr) (hs : a.eval s = v) (hx : a.eval x = .slice A m c) (hm : aO E w B v l) (hr : RdE E w N A m l') (hB : B <= w.heap.size) (hsum : l.length + m <= 34359738368)
  (h : ∀ v' w', aO E w' B v' (l ++ l') -> w.grownBy w' v.ownBlock -> (∀ x, v'.ownBlock = some x -> v.ownBlock = some x \/ w.heap.size <= x) -> wpList prog ops Q rest (a.put o.dst v') w') : wpList prog ops Q (o :: rest) a w := by
 refine wpList_plain hgd fun K hK => ?_
 obtain ⟨v', w', hrun, h1, h2, h3⟩ := fq E w o.type B N m c v l l' A hm hr hB hsum;unfold Oper.wp;simp [execOp, ho, resolve, invoke, builtin, hs, hx, hrun, Result.andThen];exact hK _ _ (h v' w' h1 h2 h3)
section
variable {α : Type} {E : Elt α} {w : World} {B g n cc k : Nat} {l : List α} {a : α}
theorem uT {l : List α} {k : Nat} (hk : k < l.length) : bY E l = bY E (l.take k) ++ (E.cel (l.getD k E.d) ++ bY E (l.drop (k + 1))) := by
 have h1 : l = l.take k ++ (l.getD k E.d :: l.drop (k + 1)) := by
  rw [List.getD, List.getElem?_eq_getElem hk, Option.getD_some, List.getElem_cons_drop, List.take_append_drop]
 conv => lhs; rw [h1]
 rw [iz, eH]
theorem zo {l : List α} {k : Nat} (hk : k < l.length) (a : α) : bY E (l.set k a) = bY E (l.take k) ++ (E.cel a ++ bY E (l.drop (k + 1))) := by
 have h2 : l.set k a = l.take k ++ (a :: l.drop (k + 1)) := List.set_eq_take_append_cons_drop.trans (by rw [if_pos hk]);rw [h2, iz, eH]
theorem heap_put (g : Nat) (t : TypeId) (post : List Value) : ∀ (vs mid pre : List Value) (w : World), mid.length = vs.length -> w.heap[g]? = some (.cells (pre ++ mid ++ post).toArray t (0, 0)) ->
  (w.setCells g pre.length vs).heap[g]? = some (.cells (pre ++ vs ++ post).toArray t (0, 0))
 |[], mid, pre, w, h, hg => by
  have : mid = [] := List.eq_nil_of_length_eq_zero h;subst this;exact hg
 |v :: vs, mid, pre, w, h, hg => by
  match mid, h with
  |m :: ms, h =>
   rw [World.setCells];have h1 := heap_setCell_same w g pre.length _ t v hg;have hset : (pre ++ m :: ms ++ post).toArray.setIfInBounds pre.length v = ((pre ++ [v]) ++ ms ++ post).toArray := by
    rw [List.setIfInBounds_toArray]
    congr 1
    rw [List.append_assoc, List.set_append_right _ _ (by simp), Nat.sub_self];simp
   rw [hset] at h1;have := heap_put g t post vs ms (pre ++ [v]) _ (by simpa using h) h1;rw [List.length_append, List.length_singleton] at this;rw [this];simp
theorem aO.parts (h : aO E w B (.slice (some ⟨g, 0, none⟩) n cc) l) : l.length = n /\ B <= g /\ ∃ post, w.heap[g]? = some (.cells (bY E l ++ post).toArray E.t (0, 0)) /\ n <= cc /\ cc <= maxLen /\ (bY E l ++ post).length = cc * E.n := by
 rcases h.2 with ⟨hv, _⟩ | ⟨g', cap, cur, hv, hbg, hg, h1, h2, h3, ht⟩
 ·cases hv
 ·injection hv with e1 e2 e3;injection e1 with e1;injection e1 with e1;subst e1 e2 e3;refine ⟨rfl, hbg, cur.toList.drop (l.length * E.n), ?_, h1, h2, ?_⟩
  ·rw [<- ht, List.take_append_drop, Array.toArray_toList]; exact hg
  ·rw [<- ht, List.take_append_drop, Array.length_toList, h3]
theorem aO.tf {post : List Value} (hl : l.length = n) (hB : B <= g) (hg : w.heap[g]? = some (.cells (bY E l ++ post).toArray E.t (0, 0))) (h1 : n <= cc) (h2 : cc <= maxLen) (h3 : (bY E l ++ post).length = cc * E.n) : aO E w B (.slice (some ⟨g, 0, none⟩) n cc) l := by
 subst hl;refine ⟨cm E l, .inr ⟨g, cc, _, rfl, hB, hg, h1, h2, by simpa using h3, ?_⟩⟩;rw [List.take_left' (cm E l)]
theorem aO.there (h : aO E w B (.slice (some ⟨g, 0, none⟩) n cc) l) (hk : k < n) {j m : Nat} (hj : j + m <= E.n) : w.there g (k * E.n + j) m := by
 obtain ⟨hl, _, post, hg, hn, _, h3⟩ := h.parts;intro i hi;refine ⟨?_, frozen_of_row w g _ _ _ hg⟩;rw [cell_of_row w g _ _ _ (0, 0) hg];have : k * E.n + j + i < (bY E l ++ post).length := by
  have h4 := Nat.mul_le_mul_right E.n (ap hk hn);rw [Nat.succ_mul] at h4;rw [h3];omega
 simp only [List.getElem?_toArray, List.getElem?_eq_getElem this, Option.isSome_some]
theorem aO.put (h : aO E w B (.slice (some ⟨g, 0, none⟩) n cc) l) (hk : k < n) {j : Nat} {vs : List Value} (a : α) (ha : E.cel a = (E.cel (l.getD k E.d)).take j ++ vs ++ (E.cel (l.getD k E.d)).drop (j + vs.length)) (hj : j + vs.length <= E.n) :
  aO E (w.setCells g (k * E.n + j) vs) B (.slice (some ⟨g, 0, none⟩) n cc) (l.set k a) := by
 obtain ⟨hl, hB, post, hg, h1, h2, h3⟩ := h.parts;have hkl : k < l.length := by omega
 have hc : E.cel (l.getD k E.d) = (E.cel (l.getD k E.d)).take j ++ ((E.cel (l.getD k E.d)).drop j).take vs.length ++ (E.cel (l.getD k E.d)).drop (j + vs.length) := by
  rw [List.append_assoc, <- List.drop_drop, List.take_append_drop, List.take_append_drop]
 have hsp : bY E l ++ post = (bY E (l.take k) ++ (E.cel (l.getD k E.d)).take j) ++ ((E.cel (l.getD k E.d)).drop j).take vs.length ++ ((E.cel (l.getD k E.d)).drop (j + vs.length) ++ (bY E (l.drop (k + 1)) ++ post)) := by
  rw [uT hkl]
  conv => lhs; rw [hc]
  simp only [List.append_assoc]
 rw [hsp] at hg;have hmid : (((E.cel (l.getD k E.d)).drop j).take vs.length).length = vs.length := by rw [List.length_take, List.length_drop, E.len]; omega
 have := heap_put g E.t _ vs _ _ w hmid hg;have hpl : (bY E (l.take k) ++ (E.cel (l.getD k E.d)).take j).length = k * E.n + j := by
  rw [List.length_append, cm, List.length_take, List.length_take, E.len, Nat.min_eq_left (by omega), Nat.min_eq_left (by omega)]
 rw [hpl] at this;have hsp2 : bY E (l.set k a) ++ post = (bY E (l.take k) ++ (E.cel (l.getD k E.d)).take j) ++ vs ++ ((E.cel (l.getD k E.d)).drop (j + vs.length) ++ (bY E (l.drop (k + 1)) ++ post)) := by
  rw [zo hkl, ha];simp only [List.append_assoc]
 rw [<- hsp2] at this;exact aO.tf (by rw [List.length_set, hl]) hB this h1 h2 (by rw [List.length_append, cm, List.length_set, <- cm E l, <- List.length_append, h3])
theorem aO.store (h : aO E w B (.slice (some ⟨g, 0, none⟩) n cc) l) (hk : k < n) (a : α) : aO E (w.setCells g (k * E.n) (E.cel a)) B (.slice (some ⟨g, 0, none⟩) n cc) (l.set k a) := by
 have := h.put hk (j := 0) (vs := E.cel a) a (by rw [List.take_zero, Nat.zero_add, List.drop_eq_nil_of_le (by rw [E.len, E.len]; exact aj)]; simp) (by rw [E.len]; omega)
 simpa using this
end
end Go.Proofs.YtcpbekopbeaflaaGreatDoor
