import Derived.Test.YtcafafdimcecpaaGreatDoorLcab
import Derived.Test.YtcafafdimcecpaaGreatDoorLcaf
import Derived.Test.YtcafafdimcecpaaGreatDoorLcan
import Derived.Test.YtcafafdimcecpaaGreatDoorLcag
import Derived.Deep.DeepCutAuto
import Derived.Test.YtcafafdimcecpaaGreatDoorLcac
import Derived.Test.YtcafafdimcecpaaGreatDoorLcah
import Derived.Test.YtcafafdimcecpaaGreatDoorLcai
import Derived.Test.YtcafafdimcecpaaGreatDoorLcak
import Derived.Test.YtcafafdimcecpaaGreatDoorLcaa
import Derived.Laws.AppendOwn
import Derived.Laws.OwnMore
import Derived.OrdersHeld
import Derived.Test.YtcafafdimcecpaaGreatDoorLcaj
import Derived.Test.YtcafafdimcecpaaGreatDoorLcZ
namespace Go.Proofs.YtcafafdimcecpaaGreatDoor
open Go.RowKit
set_option maxRecDepth 100000
set_option linter.unusedVariables false
section
variable {ρ : Operand → Value} {o : Oper} {x y z : Operand} {w : World} {b off n c t u : Nat}
theorem undU : Tryz.prog.underlying 160 = some (.slice 5) := Tryz.underlying160
theorem run_headU (h : t ≤ c) : (Instr.sliceAt 160 (.slice (some ⟨b, off, none⟩) n c) none (some (.int .i64 (t : Int))) none).run Tryz.prog w = .ok (.slice (some ⟨b, off, none⟩) t c) w := by
  simp [Instr.sliceAt, Instr.slice, Instr.sliceBounds, Instr.sliceBound, asIntOf, run_underlying undU, Tryz.sizeOf5, Addr.add_mid]
  intro hh; omega
theorem run_midU (h1 : u ≤ t) (h : t ≤ c) (h2 : u < c) : (Instr.sliceAt 160 (.slice (some ⟨b, off, none⟩) n c) (some (.int .i64 (u : Int))) (some (.int .i64 (t : Int))) none).run Tryz.prog w = .ok (.slice (some ⟨b, off + u, none⟩) (t - u) (c - u)) w := by
  have e1 : (0 ≤ (t : Int) ∧ (t : Int) ≤ (c : Int)) := by omega
  have e2 : (0 ≤ (u : Int) ∧ (u : Int) ≤ (t : Int)) := by omega
  have e3 : c ≠ u := by omega
  simp [Instr.sliceAt, Instr.slice, Instr.sliceBounds, Instr.sliceBound, asIntOf, run_underlying undU, Tryz.sizeOf5, Addr.add_mid, e1, e2, e3, h, h1]
theorem exec_cutH (t : Nat) (ho : o.op = .slice 160 x none (some y) none) (hx : ρ x = .slice (some ⟨b, off, none⟩) n c) (hy : ρ y = .int .i64 (t : Int)) (h : t ≤ c) : (execOp ρ o).run Tryz.prog w = .ok (.value (.slice (some ⟨b, off, none⟩) t c)) w := by
  unfold execOp
  simp only [ho, hx, hy, Option.map_some, Option.map_none, Sem.run_bind, run_headU h, Result.andThen_ok, Sem.run_pure]
theorem exec_cutM (u t : Nat) (ho : o.op = .slice 160 x (some z) (some y) none) (hx : ρ x = .slice (some ⟨b, off, none⟩) n c) (hz : ρ z = .int .i64 (u : Int)) (hy : ρ y = .int .i64 (t : Int)) (h1 : u ≤ t) (h : t ≤ c) (h2 : u < c) : (execOp ρ o).run Tryz.prog w = .ok (.value (.slice (some ⟨b, off + u, none⟩) (t - u) (c - u))) w := by
  unfold execOp
  simp only [ho, hx, hy, hz, Option.map_some, Option.map_none, Sem.run_bind, run_midU h1 h h2, Result.andThen_ok, Sem.run_pure]
theorem run_allB : (Instr.sliceAt 65 (.pointer (some ⟨b, off, none⟩)) none none none).run Tryz.prog w = .ok (.slice (some ⟨b, off, none⟩) 64 64) w := by
  simp [Instr.sliceAt, Instr.sliceBounds, Instr.sureAddr, run_underlying undB, Tryz.sizeOf5, Addr.add_mid]
theorem exec_allB (ho : o.op = .slice 65 x none none none) (hx : ρ x = .pointer (some ⟨b, off, none⟩)) : (execOp ρ o).run Tryz.prog w = .ok (.value (.slice (some ⟨b, off, none⟩) 64 64)) w := by
  unfold execOp
  simp only [ho, hx, Option.map_none, Sem.run_bind, run_allB, Result.andThen_ok, Sem.run_pure]
end
theorem Rd.sub {w : World} {N g q n p k : Nat} {l : List UInt8} (h : Rd w N (some ⟨g, q, none⟩) n l) (hk : p + k ≤ n) : Rd w N (some ⟨g, q + p, none⟩) k (piece l p k) :=
  ⟨bz (by have := h.1; omega), fun j hj => by
    obtain ⟨b, off, e, hb, hc⟩ := h.2 (p + j) (by omega)
    injection e with e
    injection e with e1 e2
    subst e1 e2
    refine ⟨g, q + p, rfl, hb, ?_⟩
    rw [ez hj, ← hc, Nat.add_assoc]⟩
set_option linter.unusedSimpArgs false
theorem tdiv16 (i : Nat) (h : i ≤ 1000) : IntKind.i64.wrap ((i : Int).tdiv 16) = ((i / 16 : Nat) : Int) := by
  rw [Int.tdiv_eq_ediv_of_nonneg (by omega), IntKind.wrap_i64]
  omega
theorem tmod16 (i : Nat) : (i : Int).tmod 16 = ((i % 16 : Nat) : Int) := by
  rw [Int.tmod_eq_emod_of_nonneg (by omega)]
  omega
theorem wrap_small (k : Nat) (h : k ≤ 1000000) (x : Int) (e : x = (k : Int)) : IntKind.i64.wrap x = (k : Int) := by
  subst e
  rw [IntKind.wrap_i64]
  omega
theorem grown_after {w w1 w2 : World} {B : Nat} {row : Option Nat} (hb : Below w.heap.size w w1) (hg : w1.grownBy w2 row) : w.grownBy w2 row :=
  ⟨hg.os.trans hb.os, hg.tape.trans hb.tape, hg.output.trans hb.output, Nat.le_trans hb.size hg.size, fun k hk hn => (hg.block k (Nat.lt_of_lt_of_le hk hb.size) hn).trans (hb.block k hk)⟩
set_option maxHeartbeats 1000000 in
theorem pplace (b off n c i : Nat) (w : World) (hi : i / 16 < n) (h : i ≤ 1000) :
    Calls Tryz.prog 167 #[.slice (some ⟨b, off, none⟩) n c, .int .i64 (i : Int)] w fun e w' => e = .returned (.slice (some ⟨b, off + 4 * i, none⟩) 4 (64 - i % 16 * 4)) ∧ w = w' := by
  have HQ := Lib.hid (tdiv16 i h)
  have HR := Lib.hid (tmod16 i)
  have HM := Lib.hid (wrap_small (i % 16 * 4) (by omega) (((i % 16 : Nat) : Int) * 4) (by omega))
  have HA := Lib.hid (wrap_small (i % 16 * 4 + 4) (by omega) (((i % 16 * 4 : Nat) : Int) + 4) (by omega))
  have HI := Lib.hid hi
  have HE := Lib.hid (show off + i / 16 * 64 + i % 16 * 4 = off + 4 * i by omega)
  have HL := Lib.hid (show i % 16 * 4 + 4 - i % 16 * 4 = 4 by omega)
  have H64 := Lib.hid (show i % 16 * 4 + 4 ≤ 64 by omega)
  clear hi
  go_enter Tryz.func167, Tryz.ntmps167
  go_upto_region 1 with fail
  refine wp_region_lit ?_
  refine ag rfl (ah rfl (ev rfl)) ?_
  simp only [Act.put, aa, ae, af]
  refine ag rfl (ah rfl (ev rfl)) ?_
  simp only [Act.put, aa, ae, af]
  refine ag rfl (exec_quo rfl (ev rfl) evk (by decide) HQ.out) ?_
  simp only [Act.put, aa, ae, af]
  refine ag rfl (dz rfl (ev rfl) (ev rfl) HI.out) ?_
  simp only [Act.put, aa, ae, af]
  refine ag rfl (exec_allB rfl (ev rfl)) ?_
  simp only [Act.put, aa, ae, af]
  refine ag rfl (aq rfl (ev rfl)) ?_
  simp only [Act.put, aa, ae, af]
  refine wpList_nil ?_
  go_upto_region 2 with fail
  refine wp_region_lit ?_
  refine ag rfl (ah rfl (ev rfl)) ?_
  simp only [Act.put, aa, ae, af]
  refine ag rfl (exec_rem rfl (ev rfl) evk (by decide) HR.out) ?_
  simp only [Act.put, aa, ae, af]
  refine ag rfl (exec_mul rfl (ev rfl) evk HM.out) ?_
  simp only [Act.put, aa, ae, af]
  refine ag rfl (aq rfl (ev rfl)) ?_
  simp only [Act.put, aa, ae, af]
  refine wpList_nil ?_
  go_upto_region 3 with fail
  refine wp_region_lit ?_
  refine ag rfl (ah rfl (ev rfl)) ?_
  simp only [Act.put, aa, ae, af]
  refine ag rfl (ah rfl (ev rfl)) ?_
  simp only [Act.put, aa, ae, af]
  refine ag rfl (ah rfl (ev rfl)) ?_
  simp only [Act.put, aa, ae, af]
  refine ag rfl (fb rfl (ev rfl) evk HA.out) ?_
  simp only [Act.put, aa, ae, af]
  refine ag rfl (exec_cutM (i % 16 * 4) (i % 16 * 4 + 4) rfl (ev rfl) (ev rfl) (ev rfl) (by omega) H64.out (by have := H64.out; omega)) ?_
  simp only [Act.put, aa, ae, af]
  refine ag rfl (aq rfl (ev rfl)) ?_
  simp only [Act.put, aa, ae, af]
  refine wpList_nil ?_
  go_wp2_with fail
  go_ret
  refine ⟨?_, rfl⟩
  rw [HE.out, HL.out]
  rfl
set_option maxHeartbeats 1000000 in
theorem ptell (A : Option Addr) (n c N : Nat) (b : List UInt8) (w : World) (hb : Rd w N A n b) (h1 : 1 ≤ n) (h2 : n ≤ 2) :
    Calls Tryz.prog 179 #[.slice A n c] w fun e w' => e = .returned (.int .i64 (val 8 b : Nat)) ∧ w = w' := by
  have HL := Lib.hid hb.1
  have hv : val 8 b < 65536 := by
    have h3 := val_lt (all_256 b)
    have h4 : 2 ^ (8 * b.length) ≤ 2 ^ (8 * 2) := Nat.pow_le_pow_right (by omega) (by have := hb.1; omega)
    omega
  have HV := Lib.hid hv
  have HP : Hid (piece b 0 n = b) := Lib.hid (by
    unfold piece
    rw [List.drop_zero, List.take_of_length_le (by have := hb.1; omega)])
  clear hv
  go_enter Tryz.func179, Tryz.ntmps179
  go_wp2_with fail
  refine (get_ok A n c N b 0 n w hb (by unfold maxLen; omega) h1 (by omega) (by omega)).mono ?_
  rintro e w1 ⟨rfl, rfl⟩
  rw [HP.out]
  have hv := HV.out
  clear HV hb HL HP
  generalize hvv : val 8 b = v at *
  have HVV := Lib.hid hvv
  clear hvv
  go_wp2
  go_ret
  exact ⟨by rw [HVV.out]; rfl, rfl⟩
set_option maxHeartbeats 1000000 in
theorem play (g off k c : Nat) (t : TypeId) (L : List UInt8) (n : Nat) (w : World) (hr : bF w g t L) (h1 : 1 ≤ k) (h2 : k ≤ 2) (hn : n < 256 ^ k) (hf : off + k ≤ L.length) :
    Calls Tryz.prog 168 #[.slice (some ⟨g, off, none⟩) k c, .int .i64 (n : Int)] w fun e w' => e = .returned (.tuple #[]) ∧ bF w' g t (splice L off (aY 8 k n)) ∧ w.grownBy w' (some g) := by
  have HR := Lib.hid hr
  have HL := Lib.hid (ay 8 k n)
  have HF := Lib.hid hf
  have hn2 : n < 65536 := by
    have h4 : 256 ^ k ≤ 256 ^ 2 := Nat.pow_le_pow_right (by omega) h2
    omega
  have HN := Lib.hid hn
  clear hr hf hn
  go_enter Tryz.func168, Tryz.ntmps168
  go_wp2_with fail
  refine (put_ok n k w h1 (by omega) HN.out).mono ?_
  rintro e w1 ⟨v, rfl, hv, hb⟩
  have hvm := hv.made
  obtain ⟨A, cc, rfl, hrd, _, _⟩ := hvm.open_ HL.out
  have HRD := Lib.hid hrd
  have HR1 := Lib.hid (HR.out.below HR.out.lt hb)
  have HB := Lib.hid hb
  clear hv hvm hrd hb HR HN
  go_wp2_with (first | (refine cw rfl _ _ rfl g off k c k cc _ A t L (aY 8 k n) rfl rfl HR1.out HRD.out (Nat.le_refl _) ?_ ?_) | fail)
  · exact HF.out
  intro w2 hr2 hg2
  have HR2 := Lib.hid hr2
  have HG2 := Lib.hid (grown_after (B := 0) HB.out hg2)
  clear hr2 hg2
  go_wp2_with fail
  go_end0
  exact ⟨rfl, HR2.out, HG2.out⟩
def zer (n : Nat) : List UInt8 := List.replicate n 0
theorem fE (n : Nat) : (zer n).length = n := by simp [zer]
theorem zer_add (a b : Nat) : zer (a + b) = zer a ++ zer b := by simp [zer]
theorem zer_one : zer 1 = [0] := rfl
theorem splice_at {a z c x : List UInt8} {p : Nat} (hp : a.length = p) (hz : z.length = x.length) : splice (a ++ (z ++ c)) p x = a ++ (x ++ c) := by
  subst hp
  unfold splice
  rw [List.take_left' rfl, ← List.drop_drop, List.drop_left' rfl, List.drop_left' hz]
def lyL (l : List Cl) (k : Nat) : List UInt8 := rowC (l.take k) ++ (zer (64 * hd l.length - 4 * k) ++ (cT (blks (l.take k)) ++ zer (64 * l.length - 64 * k)))
def lyA (l : List Cl) (k : Nat) (s : Nat) : List UInt8 := splice (lyL l k) (4 * k) (aY 8 2 s)
def lyB (l : List Cl) (k : Nat) (s m : Nat) : List UInt8 := splice (lyA l k s) (4 * k + 2) (aY 8 1 m)
theorem lyL_zero (l : List Cl) : lyL l 0 = zer (64 * (hd l.length + l.length)) := by
  unfold lyL
  rw [List.take_zero, Nat.mul_add, zer_add]
  rfl
theorem lyL_all (l : List Cl) : lyL l l.length = cT (bE l) := by
  unfold lyL
  rw [byts_recL, List.take_length, Nat.sub_self, show zer 0 = [] from rfl, List.append_nil, List.append_assoc]
  rfl
section
variable {l : List Cl} {k s m : Nat} {b : Blk} (hk : k < l.length)
include hk
theorem lyL_split : lyL l k = rowC (l.take k) ++ (zer 2 ++ (zer 1 ++ (zer 1 ++ (zer (64 * hd l.length - 4 * (k + 1)) ++ (cT (blks (l.take k)) ++ (zer 64 ++ zer (64 * l.length - 64 * (k + 1)))))))) := by
  have hle := hd_le l.length
  have e1 : zer (64 * hd l.length - 4 * k) = zer 2 ++ (zer 1 ++ (zer 1 ++ zer (64 * hd l.length - 4 * (k + 1)))) := by
    rw [← zer_add, ← zer_add, ← zer_add]
    congr 1
    omega
  have e2 : zer (64 * l.length - 64 * k) = zer 64 ++ zer (64 * l.length - 64 * (k + 1)) := by
    rw [← zer_add]
    congr 1
    omega
  unfold lyL
  rw [e1, e2]
  simp only [List.append_assoc]
theorem len_take : (rowC (l.take k)).length = 4 * k := by rw [eU, List.length_take, Nat.min_eq_left (by omega)]
theorem lyA_split : lyA l k s = (rowC (l.take k) ++ aY 8 2 s) ++ (zer 1 ++ (zer 1 ++ (zer (64 * hd l.length - 4 * (k + 1)) ++ (cT (blks (l.take k)) ++ (zer 64 ++ zer (64 * l.length - 64 * (k + 1))))))) := by
  unfold lyA
  rw [lyL_split hk, splice_at (len_take hk) (by rw [fE, ay]), List.append_assoc]
theorem lyB_split : lyB l k s m = (rowC (l.take k) ++ (aY 8 2 s ++ (aY 8 1 m ++ (zer 1 ++ (zer (64 * hd l.length - 4 * (k + 1)) ++ cT (blks (l.take k))))))) ++ (zer 64 ++ zer (64 * l.length - 64 * (k + 1))) := by
  unfold lyB
  rw [lyA_split hk, splice_at (by rw [List.length_append, len_take hk, ay]) (by rw [fE, ay])]
  simp only [List.append_assoc]
theorem lyL_next (hx : l.getD k cf = ⟨(s : Int), (m : Int), b⟩) : splice (lyB l k s m) (64 * (hd l.length + k)) b.toList = lyL l (k + 1) := by
  have hle := hd_le l.length
  have hlb : (cT (blks (l.take k))).length = 64 * k := by rw [el, blks_length, List.length_take, Nat.min_eq_left (by omega)]
  rw [lyB_split hk, splice_at (by simp only [List.length_append, len_take hk, ay, fE, hlb]; omega) (by rw [fE, cx])]
  have hx2 : l[k] = ⟨(s : Int), (m : Int), b⟩ := by simpa [List.getD, hk] using hx
  have et : l.take (k + 1) = l.take k ++ [⟨(s : Int), (m : Int), b⟩] := by rw [List.take_succ_eq_append_getElem hk, hx2]
  unfold lyL
  rw [et, rowC_append, show blks (l.take k ++ [⟨(s : Int), (m : Int), b⟩]) = blks (l.take k) ++ [b] from by simp [blks], byts_append, show cT [b] = b.toList from by simp [cT]]
  rw [show rowC [⟨(s : Int), (m : Int), b⟩] = aY 8 2 s ++ (aY 8 1 m ++ zer 1) from by simp [rowC, pl4, zer_one]]
  simp only [List.append_assoc]
theorem lyL_length : (lyL l k).length = 64 * (hd l.length + l.length) := by
  have hle := hd_le l.length
  unfold lyL
  simp only [List.length_append, len_take hk, fE, el, blks_length, List.length_take]
  rw [Nat.min_eq_left (by omega)]
  omega
theorem lyA_length : (lyA l k s).length = 64 * (hd l.length + l.length) := by
  have hle := hd_le l.length
  unfold lyA
  rw [length_splice _ _ _ (by rw [lyL_length hk, ay]; omega), lyL_length hk]
theorem lyB_length : (lyB l k s m).length = 64 * (hd l.length + l.length) := by
  have hle := hd_le l.length
  unfold lyB
  rw [length_splice _ _ _ (by rw [lyA_length hk, ay]; omega), lyA_length hk]
end
theorem vals_byts (l : List Blk) : vals (cT l) = flat l := byts_flat l
theorem byts_zero (n : Nat) : cT (List.replicate n al) = zer (64 * n) := by
  induction n with
  | zero => rfl
  | succ n ih =>
    rw [List.replicate_succ, byts_cons, ih, show al.toList = zer 64 from by decide, ← zer_add]
    congr 1
    omega
theorem rowL_made (w : World) (n : Nat) : bF (w.alloc (.cells (madeCells (cel al).toArray (n * 64)) 65)) w.heap.size 65 (zer (64 * n)) := by
  have h := holdsB_made w n
  unfold ch at h
  unfold bF
  rw [h, ← byts_zero, vals_byts]
theorem bF.holds {w : World} {g : Nat} {l : List Blk} (h : bF w g 65 (cT l)) : ch w g l := by
  unfold ch
  unfold bF at h
  rw [h, vals_byts]
theorem ch.made {w : World} {g B : Nat} {l : List Blk} (h : ch w g l) (hB : B ≤ g) (hm : l.length ≤ maxLen) : MadeB w B (.slice (some ⟨g, 0, none⟩) l.length l.length) l := by
  refine ⟨ej l, .inr ⟨g, l.length, _, rfl, hB, h, Nat.le_refl _, hm, by rw [List.size_toArray, ej], ?_⟩⟩
  exact List.take_of_length_le (by rw [ej]; exact Nat.le_refl _)
section
variable {ρ : Operand → Value} {o : Oper} {x y : Operand} {w : World} {n m : Nat}
theorem exec_makeC (ho : o.op = .makeSlice 112 x y) (hx : ρ x = .int .i64 (n : Int)) (hy : ρ y = .int .i64 (m : Int)) (hn : n ≤ m) (hm : m ≤ 4398046511104) :
    (execOp ρ o).run Tryz.prog w = .ok (.value (.slice (some ⟨w.heap.size, 0, none⟩) n m)) (w.alloc (.cells (madeCells (cel al).toArray (m * 64)) 65)) := by
  obtain ⟨i0, hi, hz0, hz1, hz2⟩ := info_parts infoB
  have hr := run_make (P := Tryz.prog) w 112 65 i0 (blk al) underS hi hz0 .i64 .i64 n m (by omega) (by omega) (by rw [hz2]; omega) (by omega)
  rw [hz1, d9] at hr
  simp only [Int.toNat_natCast] at hr
  unfold execOp
  simp only [ho, hx, hy, Sem.run_bind, hr, Result.andThen_ok, Sem.run_pure]
end
section
variable {ρ : Operand → Value} {o : Oper} {x : Operand} {w : World} {t e : TypeId} {A : Option Addr} {n c : Nat}
theorem bQ (hu : Tryz.prog.underlying t = some (.slice e)) (ho : o.op = .call { callee := .builtin .len, args := #[x], argTypes := #[t] }) (hx : ρ x = .slice A n c) : (execOp ρ o).run Tryz.prog w = .ok (.value (.int .i64 (n : Int))) w := by
  simp [execOp, ho, resolve, invoke, builtin, hx, Builtin.len_, run_underlying hu, Result.andThen]
  rfl
theorem exec_lenC (ho : o.op = .call { callee := .builtin .len, args := #[x], argTypes := #[34] }) (hx : ρ x = .slice A n c) : (execOp ρ o).run Tryz.prog w = .ok (.value (.int .i64 (n : Int))) w := bQ Tryz.underlying34 ho hx
theorem fz (ho : o.op = .call { callee := .builtin .len, args := #[x], argTypes := #[112] }) (hx : ρ x = .slice A n c) : (execOp ρ o).run Tryz.prog w = .ok (.value (.int .i64 (n : Int))) w := bQ Tryz.underlying112 ho hx
end
theorem exec_mk1B {ρ : Operand → Value} {o : Oper} {x : Operand} {w : World} {b : Blk} (ho : o.op = .buildSlice 112 1 #[(0, x)]) (hx : ρ x = blk b) :
    (execOp ρ o).run Tryz.prog w = .ok (.value (.slice (some ⟨w.heap.size, 0, none⟩) 1 1)) (w.alloc (.cells (cel b).toArray 65)) := by
  have h := exec_buildS (ρ := ρ) (o := o) (w := w) (n := 1) (parts := [(0, x)]) [b] ho (by simp [hx]) rfl (by omega) (by omega)
  rw [h]
  simp [flat]
theorem wpList_appL {w : World} {ops : Array Oper} {rest : List Oper} {o : Oper} {a : Act} {Q : Exit → Act → World → Prop} (hgd : o.guard = none) (s x : Operand)
    (ho : o.op = .call { callee := .builtin .append, args := #[s, x], argTypes := #[112, 112] })
    (g n c q : Nat) (L : List UInt8) (b : Blk) (hs : a.eval s = .slice (some ⟨g, 0, none⟩) n c) (hx : a.eval x = .slice (some ⟨q, 0, none⟩) 1 1) (hr : bF w g 65 L) (hq : w.rangeAt q 0 (cel b)) (hn : n + 1 ≤ c) (hf : 64 * (n + 1) ≤ L.length)
    (h : ∀ w', bF w' g 65 (splice L (64 * n) b.toList) → w.grownBy w' (some g) → wpList Tryz.prog ops Q rest (a.put o.dst (.slice (some ⟨g, 0, none⟩) (n + 1) c)) w') : wpList Tryz.prog ops Q (o :: rest) a w := by
  obtain ⟨i0, hi, hz0, hz1, hz2⟩ := info_parts infoB
  refine wpList_plain hgd fun K hK => ?_
  have hrun := run_append_room (P := Tryz.prog) w 112 o.type 65 i0 underS hi g n c (vals L).toArray hr ⟨q, 0, none⟩ 1 1 (cel b) (by rw [ax, hz1]) (fun j u hu => by
    rw [Addr.add_mid]
    exact hq j u hu) (cel_one b) hn (by rw [hz1, ax, List.size_toArray, bh]; omega)
  have e : (vals L).toArray.toList.take (n * i0.size) ++ cel b ++ (vals L).toArray.toList.drop (n * i0.size + (cel b).length) = vals (splice L (64 * n) b.toList) := by
    rw [← splice_vals, hz1, Nat.mul_comm n 64, ax]
    unfold splice
    rw [bh, cx, List.append_assoc]
    rfl
  rw [e] at hrun
  have hrow := setRow_heap w g (vals L).toArray (vals (splice L (64 * n) b.toList)).toArray 65 (0, 0) hr
  unfold Oper.wp
  simp [execOp, ho, resolve, invoke, builtin, hs, hx, hrun, Result.andThen]
  exact hK _ _ (h _ hrow ⟨rfl, rfl, rfl, by simp [World.setRow], fun k hk hne => setRow_other w g k _ (fun e => hne (by rw [e]))⟩)
structure LaidC (B : Nat) (w0 w : World) (g q : Nat) (x : Cl) (L : List UInt8) : Prop where
  row : bF w g 65 L
  cl : w.heap[q]? = some (.cells (cp x).toArray 104 (0, 0))
  bel : Below B w0 w
  g0 : B ≤ g
  ne : q ≠ g
section
variable {B : Nat} {w0 w w' : World} {g q : Nat} {x : Cl} {L L' : List UInt8}
theorem LaidC.grow (h : LaidC B w0 w g q x L) (hB : B ≤ w0.heap.size) (hr : bF w' g 65 L') (hg : w.grownBy w' (some g)) : LaidC B w0 w' g q x L' :=
  ⟨hr, eJ h.cl hg h.ne, h.bel.grown hg (Nat.le_trans hB h.bel.size) (fun k hk => by injection hk with e; have := h.g0; omega), h.g0, h.ne⟩
theorem LaidC.draw (h : LaidC B w0 w g q x L) : LaidC B w0 w.drew g q x L := ⟨h.row, h.cl, bd h.bel, h.g0, h.ne⟩
theorem LaidC.past (h : LaidC B w0 w g q x L) (hB : B ≤ w0.heap.size) (o : Obj) : LaidC B w0 (w.alloc o) g q x L := ⟨h.row.past o, bM h.cl o, h.bel.alloc (Nat.le_trans hB h.bel.size) o, h.g0, h.ne⟩
theorem LaidC.rng (h : LaidC B w0 w g q x L) : w.rangeAt q 0 (cp x) := d7 h.cl
theorem LaidC.cells (h : LaidC B w0 w g q x L) : w.cell? ⟨q, 0, none⟩ = some (.int .i64 x.s) ∧ w.cell? ⟨q, 1, none⟩ = some (.int .i64 x.m) ∧ w.rangeAt q 2 (cel x.b) := by
  have h1 := pl_cells (cl_place h.rng)
  have h2 := cl_blk h.rng
  exact ⟨h1.1, h1.2, h2⟩
end
def cM (p : Nat) (v : Value) (b : Nat) : Prop := b = p ∨ v.ownBlock = some b
section
variable {w w' : World} {p q : Nat} {v : Value} {x : LgS} {G : Nat → Prop}
theorem ldNts {ad : Addr} {A : Option Addr} {n c : Nat} (h : w.cell? ad = some (.slice A n c)) : (Instr.loadAt 86 (.pointer (some ad))).run Tryz.prog w = .ok (.slice A n c) w := by simp [go_sem, h]
end
section
variable {ρ : Operand → Value} {o : Oper} {x y : Operand} {w : World} {t r : TypeId} {a b : Nat}
theorem exec_sbU (ho : o.op = .binOp .sub t x y r) (hx : ρ x = .int .u64 ((a + b : Nat) : Int)) (hy : ρ y = .int .u64 (a : Int)) (h : a + b < 18446744073709551616) : (execOp ρ o).run Tryz.prog w = .ok (.value (.int .u64 (b : Int))) w := by
  have e : IntKind.u64.wrap (((a + b : Nat) : Int) - (a : Int)) = (b : Int) := by rw [show ((a + b : Nat) : Int) - (a : Int) = (b : Int) from by omega]; exact IntWalk.u64_in _ ⟨by omega, by omega⟩
  unfold execOp
  simp [ho, hx, hy, eqGuard, binOp, Op.intArith]
  simpa using e
theorem exec_cvU6I (ho : o.op = .convert 35 3 x) (hx : ρ x = .int .u64 (a : Int)) (h : a < 9223372036854775808) : (execOp ρ o).run Tryz.prog w = .ok (.value (.int .i64 (a : Int))) w := by
  have e : IntKind.i64.wrap (a : Int) = (a : Int) := IntWalk.i64_in _ ⟨by omega, by omega⟩
  have hc : (convert 35 3 (.int .u64 (a : Int))).run Tryz.prog w = .ok (.int .i64 (a : Int)) w := by simp [convert, go_sem, e]
  unfold execOp
  simp only [ho, hx, Sem.run_bind, hc, Result.andThen_ok, Sem.run_pure]
end
theorem sz_tak {n : Nte} (h : 1 ≤ n.cells ∧ n.cells ≤ 32) : sizN n.cells = bf n := by unfold sizN bf; rw [if_neg (by omega)]
section
variable {P : Program} {md : Region.Mode} {l : List Oper} {Q : Exit → Act → World → Prop} {S : World → Prop} {K : Act → World → Prop} {fuel : Nat} {listed : Array Bool} {a : Act} {w w' : World} {o : Oper} {v : Value}
theorem dV (i : Nat) {f : FuncId} {vs : Array Value} (hi : l[i]? = some o) (hw : Region.wanted o (yielded l.toArray a.tmps) = true) (h : (execOp a.eval o).run P w = .ok (.enter f vs) w)
    (hc : Calls P f vs w fun e w' => ∃ v, e = .returned v ∧ K (a.put o.dst v) w') : wpOp P l.toArray Q i K a w := by
  unfold wpOp
  simp only [List.getElem?_toArray, hi, hw, if_true]
  refine .inl ?_
  unfold Oper.wp
  rw [h]
  exact hc.mono fun e w' ⟨v, he, hk⟩ => by subst he; exact hk
theorem op_val (i : Nat) (hi : l[i]? = some o) (hw : Region.wanted o (yielded l.toArray a.tmps) = true) (h : (execOp a.eval o).run P w = .ok (.value v) w') (hk : K (a.put o.dst v) w') : wpOp P l.toArray Q i K a w := by
  unfold wpOp
  simp only [List.getElem?_toArray, hi, hw, if_true]
  refine .inl ?_
  unfold Oper.wp
  rw [h]
  exact hk
theorem held_two (i j : Nat) (hr : Region.ready md l.toArray listed = [i, j])
    (h1 : wpOp P l.toArray Q i (fun a' w' => S w' ∧ wpAnyH P md l.toArray Q S fuel (listed.setIfInBounds i true) a' w') a w) (h2 : wpOp P l.toArray Q j (fun a' w' => S w' ∧ wpAnyH P md l.toArray Q S fuel (listed.setIfInBounds j true) a' w') a w) : wpAnyH P md l.toArray Q S (fuel + 1) listed a w :=
  wpAnyH_all hr (by simp) fun k hk => by
    have hk2 : k = i ∨ k = j := by simpa using hk
    rcases hk2 with rfl | rfl
    · exact h1
    · exact h2
theorem dH (i : Nat) (hr : Region.ready md l.toArray listed = [i])
    (h1 : wpOp P l.toArray Q i (fun a' w' => S w' ∧ wpAnyH P md l.toArray Q S fuel (listed.setIfInBounds i true) a' w') a w) : wpAnyH P md l.toArray Q S (fuel + 1) listed a w :=
  wpAnyH_all hr (by simp) fun k hk => by
    obtain rfl : k = i := by simpa using hk
    exact h1
end
def kept (K : Nat → Prop) (w w' : World) : Prop := ∀ b, K b → w'.heap[b]? = w.heap[b]?
theorem rng_kept {w w' : World} {b o : Nat} {cs : List Value} (h : w'.heap[b]? = w.heap[b]?) (hr : w.rangeAt b o cs) : w'.rangeAt b o cs := fun j v hj => (World.cell?_of_block (w := w) h).trans (hr j v hj)
theorem kept.trans {K : Nat → Prop} {w w1 w2 : World} (h : kept K w w1) (k : kept K w1 w2) : kept K w w2 := fun b hb => (k b hb).trans (h b hb)
def ploC (q : Nat) (v : Value) (d c : Nat) (m : Mrk) : List Value := [ptr q, .int .i64 (d : Int), .int .u64 (c : Int), .int .u64 (m.id : Int), .int .i64 m.ring, .int .u64 (m.first : Int), .int .u64 (m.pos : Int), v]
def plgC (q : Nat) (v : Value) (x : LgS) : List Value := [ptr q, .int .i64 (x.d : Int), .int .u64 (x.cnt : Int), .int .u64 (x.own : Int), .int .i64 (x.size : Int), .int .u64 (x.fst : Int), .int .u64 (x.pos : Int), v]
def LgS.mark (x : LgS) : Mrk := ⟨x.own, (x.size : Int), x.fst, x.pos⟩
structure PLg (w : World) (p q : Nat) (v : Value) (x : LgS) : Prop where
  at_ : w.heap[p]? = some (.cells (plgC q v x).toArray 88 (0, 0))
  row : aA aW w 0 v x.nts
section
variable {w w' : World} {p q : Nat} {v : Value} {x : LgS} {G : Nat → Prop}
theorem PLg.lt (h : PLg w p q v x) : ∀ b, cM p v b → b < w.heap.size := by
  intro b hb
  rcases hb with rfl | hb
  · exact aV h.at_
  · exact h.row.own_lt b hb
theorem PLg.only (h : PLg w p q v x) (ho : Only G w w') (hn : ∀ b, cM p v b → ¬ G b) : PLg w' p q v x := ⟨ho.keep h.at_ (hn p (.inl rfl)), h.row.only ho fun b hb => hn b (.inr hb)⟩
theorem PLg.below (h : PLg w p q v x) (hb : Below w.heap.size w w') : PLg w' p q v x := h.only (Only.of_below (fun _ => False) hb) fun _ _ e => e
theorem PLg.rowp (h : PLg w p q v x) : v.ownBlock ≠ some p := h.row.cq h.at_ (by decide)
theorem PLg.rng (h : PLg w p q v x) : w.rangeAt p 0 (plgC q v x) := d7 h.at_
theorem PLg.c0 (h : PLg w p q v x) : w.cell? ⟨p, 0, none⟩ = some (.pointer (some ⟨q, 0, none⟩)) := h.rng 0 _ rfl
theorem PLg.c1 (h : PLg w p q v x) : w.cell? ⟨p, 1, none⟩ = some (.int .i64 (x.d : Int)) := h.rng 1 _ rfl
theorem PLg.c2 (h : PLg w p q v x) : w.cell? ⟨p, 2, none⟩ = some (.int .u64 (x.cnt : Int)) := h.rng 2 _ rfl
theorem PLg.c3 (h : PLg w p q v x) : w.cell? ⟨p, 3, none⟩ = some (.int .u64 (x.own : Int)) := h.rng 3 _ rfl
theorem PLg.c4 (h : PLg w p q v x) : w.cell? ⟨p, 4, none⟩ = some (.int .i64 (x.size : Int)) := h.rng 4 _ rfl
theorem PLg.c5 (h : PLg w p q v x) : w.cell? ⟨p, 5, none⟩ = some (.int .u64 (x.fst : Int)) := h.rng 5 _ rfl
theorem PLg.c6 (h : PLg w p q v x) : w.cell? ⟨p, 6, none⟩ = some (.int .u64 (x.pos : Int)) := h.rng 6 _ rfl
theorem PLg.c7 (h : PLg w p q v x) : w.cell? ⟨p, 7, none⟩ = some (v) := h.rng 7 _ rfl
theorem PLg.free_ (h : PLg w p q v x) (j : Nat) : w.frozen? ⟨p, j, none⟩ = false := frozen_of_row w p j _ _ h.at_
theorem PLg.slice (h : PLg w p q v x) : ∃ A c, v = .slice A x.nts.length c ∧ x.nts.length ≤ c ∧ c ≤ maxLen := h.row.form
theorem faQl0 : (Instr.fieldAt 88 (.pointer (some ⟨p, 0, none⟩)) 0).run Tryz.prog w = .ok (.pointer (some ⟨p, 0, none⟩)) w := by kernel_rfl
theorem faQl1 : (Instr.fieldAt 88 (.pointer (some ⟨p, 0, none⟩)) 1).run Tryz.prog w = .ok (.pointer (some ⟨p, 1, none⟩)) w := by kernel_rfl
theorem faQl2 : (Instr.fieldAt 88 (.pointer (some ⟨p, 0, none⟩)) 2).run Tryz.prog w = .ok (.pointer (some ⟨p, 2, none⟩)) w := by kernel_rfl
theorem dG : (Instr.fieldAt 88 (.pointer (some ⟨p, 0, none⟩)) 3).run Tryz.prog w = .ok (.pointer (some ⟨p, 3, none⟩)) w := by kernel_rfl
theorem faQl4 : (Instr.fieldAt 88 (.pointer (some ⟨p, 0, none⟩)) 4).run Tryz.prog w = .ok (.pointer (some ⟨p, 7, none⟩)) w := by kernel_rfl
theorem faQm1 : (Instr.fieldAt 67 (.pointer (some ⟨p, 3, none⟩)) 1).run Tryz.prog w = .ok (.pointer (some ⟨p, 4, none⟩)) w := by kernel_rfl
theorem faQm2 : (Instr.fieldAt 67 (.pointer (some ⟨p, 3, none⟩)) 2).run Tryz.prog w = .ok (.pointer (some ⟨p, 5, none⟩)) w := by kernel_rfl
theorem faQm3 : (Instr.fieldAt 67 (.pointer (some ⟨p, 3, none⟩)) 3).run Tryz.prog w = .ok (.pointer (some ⟨p, 6, none⟩)) w := by kernel_rfl
theorem ldQp {ad : Addr} {a : Option Addr} (h : w.cell? ad = some (.pointer a)) : (Instr.loadAt 24 (.pointer (some ad))).run Tryz.prog w = .ok (.pointer a) w := by simp [go_sem, h]
theorem ldLp {ad : Addr} {a : Option Addr} (h : w.cell? ad = some (.pointer a)) : (Instr.loadAt 29 (.pointer (some ad))).run Tryz.prog w = .ok (.pointer a) w := by simp [go_sem, h]
theorem PLg.mrk (h : PLg w p q v x) : w.rangeAt p 3 (bk x.mark) := fun j u hj => by
  have hj4 : j < 4 := by have := (List.getElem?_eq_some_iff.1 hj).1; rwa [celM_length] at this
  match j, hj4 with
  | 0, _ => rw [← hj]; exact h.c3
  | 1, _ => rw [← hj]; exact h.c4
  | 2, _ => rw [← hj]; exact h.c5
  | 3, _ => rw [← hj]; exact h.c6
end
def PJ (w0 : World) (H K : Nat → Prop) (w : World) (p q : Nat) (v : Value) (M : BenS) (x : LgS) : Prop :=
  ∃ G, bi.Bn w G q M ∧ PLg w p q v x ∧ (∀ b, cM p v b → ¬ G b) ∧ Only H w0 w ∧ Grow w0 H (fun b => G b ∨ cM p v b) ∧ (∀ b, K b → ¬ G b ∧ b < w.heap.size) ∧ TbG w0 H
section
variable {w0 w w' : World} {H K K' : Nat → Prop} {p q : Nat} {v : Value} {M : BenS} {x : LgS}
theorem PJ.log (h : PJ w0 H K w p q v M x) : PLg w p q v x := by obtain ⟨_, _, h, _⟩ := h; exact h
theorem PJ.tab (h : PJ w0 H K w p q v M x) : Tbs w := by obtain ⟨_, _, _, _, h, _, _, hT⟩ := h; exact hT.t.only h hT.off
theorem PJ.lt (h : PJ w0 H K w p q v M x) {b : Nat} (hb : K b) : b < w.heap.size := by obtain ⟨_, _, _, _, _, _, h, _⟩ := h; exact (h b hb).2
theorem PJ.start {G : Nat → Prop} (hb : bi.Bn w G q M) (h : PLg w p q v x) (hd : ∀ b, cM p v b → ¬ G b) (hT : TbG w (fun b => G b ∨ cM p v b)) : PJ w (fun b => G b ∨ cM p v b) (fun _ => False) w p q v M x :=
  ⟨G, hb, h, hd, Only.refl _ _, Grow.same _ _, fun _ e => e.elim, hT⟩
theorem PJ.guard (h : PJ w0 H K w p q v M x) (hb : Below w.heap.size w w') (hK : ∀ b, K' b → K b ∨ (w.heap.size ≤ b ∧ b < w'.heap.size)) : PJ w0 H K' w' p q v M x := by
  obtain ⟨G, h1, h2, h3, h4, h5, h6, h7⟩ := h
  have hlt := bi.lt h1
  have hs := hb.size
  refine ⟨G, bi.below h1 hb, h2.below hb, h3, h4.cJ hb, h5, fun b e => ?_, h7⟩
  rcases hK b e with e | ⟨e1, e2⟩
  · obtain ⟨g1, g2⟩ := h6 b e
    exact ⟨g1, by omega⟩
  · exact ⟨fun hg => by have := hlt b hg; omega, e2⟩
theorem PJ.below (h : PJ w0 H K w p q v M x) (hb : Below w.heap.size w w') : PJ w0 H K w' p q v M x := h.guard hb fun b e => .inl e
theorem PJ.drew (h : PJ w0 H K w p q v M x) : PJ w0 H K w.drew p q v M x := h.below (bd (Below.refl _ _))
theorem PJ.less (h : PJ w0 H K w p q v M x) (hK : ∀ b, K' b → K b) : PJ w0 H K' w p q v M x := h.guard (Below.refl _ _) fun b e => .inl (hK b e)
theorem PJ.kept (h : PJ w0 H K w p q v M x) (hb : Below w.heap.size w w') : kept K w w' := fun b e => hb.block b (h.lt e)
theorem PJ.turn {G G' : Nat → Prop} {M' : BenS} (h1 : bi.Bn w G q M) (h2 : PLg w p q v x) (h3 : ∀ b, cM p v b → ¬ G b) (h4 : Only H w0 w) (h5 : Grow w0 H (fun b => G b ∨ cM p v b)) (h6 : ∀ b, K b → ¬ G b ∧ b < w.heap.size) (h7 : TbG w0 H)
    (k1 : bi.Bn w' G' q M') (k2 : Only G w w') (k3 : Grow w G G') : PJ w0 H K w' p q v M' x ∧ Proofs.YtcafafdimcecpaaGreatDoor.kept K w w' := by
  have hs := k2.size
  have hs0 := h4.size
  refine ⟨⟨G', k1, h2.only k2 h3, fun b hb hg => ?_, h4.trans k2 fun b hb => h5 b (.inl hb), fun b hb => ?_, fun b hb => ?_, h7⟩, fun b hb => k2.block b (h6 b hb).2 (h6 b hb).1⟩
  · rcases k3 b hg with e | e
    · exact h3 b hb e
    · have := h2.lt b hb; omega
  · rcases hb with hb | hb
    · rcases k3 b hb with e | e
      · exact h5 b (.inl e)
      · exact .inr (by omega)
    · exact h5 b (.inr hb)
  · obtain ⟨g1, g2⟩ := h6 b hb
    refine ⟨fun hg => ?_, by omega⟩
    rcases k3 b hg with e | e
    · exact g1 e
    · omega
theorem PJ.write (d n : Int) (b : Blk) (hr : Room M 1) (h : PJ w0 H K w p q v M x) : Calls Tryz.prog 27 #[.pointer (some ⟨q, 0, none⟩), .int .i64 d, .int .i64 n, blk b] w fun e w' => e = .returned (.int .i64 (wrE6 M d n)) ∧ PJ w0 H K w' p q v (wrS6 M d n b) x ∧ Proofs.YtcafafdimcecpaaGreatDoor.kept K w w' := by
  obtain ⟨G, h1, h2, h3, h4, h5, h6, h7⟩ := h
  exact (bi.write d n b hr h1).mono fun e w' ⟨k0, G', k1, k2, k3⟩ => ⟨k0, PJ.turn h1 h2 h3 h4 h5 h6 h7 k1 k2 k3⟩
theorem PJ.flush (d : Int) (hr : Room M 1) (h : PJ w0 H K w p q v M x) : Calls Tryz.prog 119 #[.pointer (some ⟨q, 0, none⟩), .int .i64 d] w fun e w' => e = .returned (.int .i64 (flE6 M d)) ∧ PJ w0 H K w' p q v (flS6 M d) x ∧ Proofs.YtcafafdimcecpaaGreatDoor.kept K w w' := by
  obtain ⟨G, h1, h2, h3, h4, h5, h6, h7⟩ := h
  exact (bi.flush d hr h1).mono fun e w' ⟨k0, G', k1, k2, k3⟩ => ⟨k0, PJ.turn h1 h2 h3 h4 h5 h6 h7 k1 k2 k3⟩
theorem PJ.read (d n : Int) (h : PJ w0 H K w p q v M x) : Calls Tryz.prog 133 #[.pointer (some ⟨q, 0, none⟩), .int .i64 d, .int .i64 n] w fun e w' => e = .returned (.tuple #[blk (cC M d n), .int .i64 (bX M d n)]) ∧ Below w.heap.size w w' := by
  obtain ⟨G, h1, _⟩ := h
  exact bi.read d n h1
end
theorem PJ.grow {w0 w w3 : World} {H K : Nat → Prop} {p q : Nat} {v v' : Value} {M : BenS} {x x' : LgS} (h : PJ w0 H K w p q v M x) (ho : Only (cM p v) w w3) (hl : PLg w3 p q v' x') (hv : ∀ b, v'.ownBlock = some b → v.ownBlock = some b ∨ w.heap.size ≤ b) : PJ w0 H (fun _ => False) w3 p q v' M x' := by
  obtain ⟨G, h1, h2, h3, h4, h5, h6, h7⟩ := h
  have hlt := bi.lt h1
  have hs := h4.size
  refine ⟨G, bi.only h1 ho fun b hg e => h3 b e hg, hl, fun b hb' hg => ?_, h4.trans ho fun b e => h5 b (.inr e), fun b hb' => ?_, fun _ e => e.elim, h7⟩
  · rcases hb' with rfl | e
    · exact h3 _ (.inl rfl) hg
    · rcases hv b e with e | e
      · exact h3 b (.inr e) hg
      · have := hlt b hg; omega
  · rcases hb' with hg | rfl | e
    · exact h5 b (.inl hg)
    · exact h5 b (.inr (.inl rfl))
    · rcases hv b e with e | e
      · exact h5 b (.inr (.inr e))
      · exact .inr (by omega)
theorem tol_iff {r t h n : Int} : tolB r t h n = true ↔ mayB r t h = true ∧ 0 ≤ n := by unfold tolB; exact decide_eq_true_iff
theorem rom_iff {r t h n : Int} : romB r t h n = true ↔ n ≤ r - (h - t) ∧ h + n ≤ 4611686018427387904 := by unfold romB; exact decide_eq_true_iff
theorem tak_no {r t h n : Int} (hm : ¬(mayB r t h = true ∧ 0 ≤ n)) : takN r t h n = 0 ∧ takE r t h n = 2 := by
  have : tolB r t h n = false := by unfold tolB; exact decide_eq_false hm
  unfold takN takE; rw [this]; exact ⟨rfl, rfl⟩
theorem tak_full {r t h n : Int} (hm : mayB r t h = true) (h0 : 0 ≤ n) (hr : ¬(n ≤ r - (h - t) ∧ h + n ≤ 4611686018427387904)) : takN r t h n = 0 ∧ takE r t h n = 10 := by
  have e1 : romB r t h n = false := by unfold romB; exact decide_eq_false hr
  unfold takN takE; rw [tol_iff.2 ⟨hm, h0⟩, e1]; exact ⟨rfl, rfl⟩
theorem tak_in {r t h n : Int} (hm : mayB r t h = true) (h0 : 0 ≤ n) (hr : n ≤ r - (h - t) ∧ h + n ≤ 4611686018427387904) : takN r t h n = h + n ∧ takE r t h n = 0 := by
  unfold takN takE; rw [tol_iff.2 ⟨hm, h0⟩, rom_iff.2 hr]; exact ⟨rfl, rfl⟩
set_option maxHeartbeats 1000000 in
theorem ptak (r t h n : Int) (w : World) (ht0 : 0 ≤ t) (ht1 : t ≤ 18446744073709551615) (hh0 : 0 ≤ h) (hh1 : h ≤ 18446744073709551615) (hn : n ≤ 9223372036854775807) : Calls Tryz.prog 125 #[.int .i64 r, .int .u64 t, .int .u64 h, .int .i64 n] w fun e w' => e = .returned (.tuple #[.int .u64 (takN r t h n), .int .i64 (takE r t h n)]) ∧ w = w' := by
  go_enter Tryz.func125, Tryz.ntmps125
  go_wp2_with fail
  refine (pfre r t h w ht0 ht1 hh0 hh1).mono ?_
  rintro e w1 ⟨rfl, rfl⟩
  cases hm : mayB r t h
  · have hs := Lib.hid (tak_no (r := r) (t := t) (h := h) (n := n) (by rw [hm]; simp))
    rw [(fre_no hm).1, (fre_no hm).2]
    clear hm
    go_wp2
    go_ret2
    exact ⟨fm hs.out, rfl⟩
  · have HM := Lib.hid hm
    obtain ⟨g1, g2, g3, g4, g5⟩ := mayB_iff.1 hm
    rw [(fre_in hm).1, (fre_in hm).2]
    clear hm
    by_cases h0 : 0 ≤ n
    · by_cases hf : n ≤ r - (h - t)
      · by_cases ha : h + n ≤ 4611686018427387904
        · have hs := Lib.hid (tak_in HM.out h0 ⟨hf, ha⟩)
          go_wp2_with fail
          refine (ahead_ok h w hh0 g4).mono ?_
          rintro e w1 ⟨rfl, rfl⟩
          go_wp2
          go_ret2
          exact ⟨fm ⟨hs.out.1.trans (by omega), hs.out.2⟩, rfl⟩
        · have hs := Lib.hid (tak_full HM.out h0 (fun x => ha x.2))
          go_wp2_with fail
          refine (ahead_ok h w hh0 g4).mono ?_
          rintro e w1 ⟨rfl, rfl⟩
          go_wp2
          go_ret2
          exact ⟨fm hs.out, rfl⟩
      · have hs := Lib.hid (tak_full HM.out h0 (fun x => hf x.1))
        go_wp2
        go_ret2
        exact ⟨fm hs.out, rfl⟩
    · have hs := Lib.hid (tak_no (r := r) (t := t) (h := h) (n := n) (fun x => h0 x.2))
      go_wp2
      go_ret2
      exact ⟨fm hs.out, rfl⟩
theorem zer_take {i : Nat} (h : i < 10) : zerT.take (i + 1) = zerT.take i ++ [.wr (i : Int) al] := by
  rw [List.take_add_one]
  congr 1
  unfold zerT
  rw [List.getElem?_map, List.getElem?_range h]
  rfl
end Go.Proofs.YtcafafdimcecpaaGreatDoor
