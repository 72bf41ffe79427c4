import Derived.Test.YtbbcdhkinbmdnaaGreatDoorLoal
import Derived.Test.YtbbcdhkinbmdnaaGreatDoorLoag
import Derived.Test.YtbbcdhkinbmdnaaGreatDoorLoae
import Derived.Deep.DeepCutAuto
import Derived.Test.YtbbcdhkinbmdnaaGreatDoorLoai
import Derived.Test.YtbbcdhkinbmdnaaGreatDoorLoaf
import Derived.Test.YtbbcdhkinbmdnaaGreatDoorLoaj
import Derived.Test.YtbbcdhkinbmdnaaGreatDoorLoZ
namespace Go.Proofs.YtbbcdhkinbmdnaaGreatDoor
open Go.RowKit
set_option linter.unusedVariables false
set_option linter.unusedSimpArgs false
set_option maxRecDepth 100000
theorem tdiv16 (i : Nat) (h : i ≤ 1000) : IntKind.i64.wrap ((i : Int).tdiv 16) = ((i / 16 : Nat) : Int) := by
 rw [Int.tdiv_eq_ediv_of_nonneg (by omega), IntKind.wrap_i64]
 omega
theorem tmod16 (i : Nat) : (i : Int).tmod 16 = ((i % 16 : Nat) : Int) := by
 rw [Int.tmod_eq_emod_of_nonneg (by omega)]
 omega
theorem wrap_small (k : Nat) (h : k ≤ 1000000) (x : Int) (e : x = (k : Int)) : IntKind.i64.wrap x = (k : Int) := by
 subst e
 rw [IntKind.wrap_i64]
 omega
theorem grown_after {w w1 w2 : World} {B : Nat} {row : Option Nat} (hb : Below w.heap.size w w1) (hg : w1.grownBy w2 row) : w.grownBy w2 row :=
 ⟨hg.os.trans hb.os, hg.tape.trans hb.tape, hg.output.trans hb.output, Nat.le_trans hb.size hg.size, fun k hk hn => (hg.block k (Nat.lt_of_lt_of_le hk hb.size) hn).trans (hb.block k hk)⟩
set_option maxHeartbeats 1000000 in
theorem pplace (b off n c i : Nat) (w : World) (hi : i / 16 < n) (h : i ≤ 1000) :
  Calls Tryz.prog 154 #[.slice (some ⟨b, off, none⟩) n c, .int .i64 (i : Int)] w fun e w' => e = .returned (.slice (some ⟨b, off + 4 * i, none⟩) 4 (64 - i % 16 * 4)) ∧ w = w' := by
 have HQ := af (tdiv16 i h)
 have HR := af (tmod16 i)
 have HM := af (wrap_small (i % 16 * 4) (by omega) (((i % 16 : Nat) : Int) * 4) (by omega))
 have HA := af (wrap_small (i % 16 * 4 + 4) (by omega) (((i % 16 * 4 : Nat) : Int) + 4) (by omega))
 have HI := af hi
 have HE := af (show off + i / 16 * 64 + i % 16 * 4 = off + 4 * i by omega)
 have HL := af (show i % 16 * 4 + 4 - i % 16 * 4 = 4 by omega)
 have H64 := af (show i % 16 * 4 + 4 ≤ 64 by omega)
 clear hi
 go_enter Tryz.func154, Tryz.ntmps154
 go_upto_region 1 with fail
 refine ag ?_
 refine ai rfl (aj rfl (ev rfl)) ?_;simp only [aa]
 refine ai rfl (aj rfl (ev rfl)) ?_;simp only [aa]
 refine ai rfl (exec_quo rfl (ev rfl) evk (by decide) HQ.out) ?_;simp only [aa]
 refine ai rfl (dD rfl (ev rfl) (ev rfl) HI.out) ?_;simp only [aa]
 refine ai rfl (exec_allB rfl (ev rfl)) ?_;simp only [aa]
 refine ai rfl (aq rfl (ev rfl)) ?_;simp only [aa]
 refine ah ?_
 go_upto_region 2 with fail
 refine ag ?_
 refine ai rfl (aj rfl (ev rfl)) ?_;simp only [aa]
 refine ai rfl (exec_rem rfl (ev rfl) evk (by decide) HR.out) ?_;simp only [aa]
 refine ai rfl (fx rfl (ev rfl) evk HM.out) ?_;simp only [aa]
 refine ai rfl (aq rfl (ev rfl)) ?_;simp only [aa]
 refine ah ?_
 go_upto_region 3 with fail
 refine ag ?_
 iterate 3 (refine ai rfl (aj rfl (ev rfl)) ?_;simp only [aa])
 refine ai rfl (da rfl (ev rfl) evk HA.out) ?_;simp only [aa]
 refine ai rfl (exec_cutM (i % 16 * 4) (i % 16 * 4 + 4) rfl (ev rfl) (ev rfl) (ev rfl) (by omega) H64.out (by have := H64.out; omega)) ?_;simp only [aa]
 refine ai rfl (aq rfl (ev rfl)) ?_;simp only [aa]
 refine ah ?_
 go_wp2_with fail
 go_ret
 refine ⟨?_, rfl⟩
 rw [HE.out, HL.out]
 rfl
set_option maxHeartbeats 1000000 in
theorem ptell (A : Option Addr) (n c N : Nat) (b : List UInt8) (w : World) (hb : Rd w N A n b) (h1 : 1 ≤ n) (h2 : n ≤ 2) :
  Calls Tryz.prog 164 #[.slice A n c] w fun e w' => e = .returned (.int .i64 (val 8 b : Nat)) ∧ w = w' := by
 have HL := af hb.1
 have hv : val 8 b < 65536 := by
  have h3 := val_lt (all_256 b)
  have h4 : 2 ^ (8 * b.length) ≤ 2 ^ (8 * 2) := Nat.pow_le_pow_right (by omega) (by have := hb.1; omega)
  omega
 have HV := af hv
 have HP : Hid (piece b 0 n = b) := af (by
  unfold piece
  rw [List.drop_zero, List.take_of_length_le (by have := hb.1; omega)])
 clear hv
 go_enter Tryz.func164, Tryz.ntmps164
 go_wp2_with fail
 refine (get_ok A n c N b 0 n w hb (by unfold maxLen; omega) h1 (by omega) (by omega)).mono ?_
 rintro e w1 ⟨rfl, rfl⟩
 rw [HP.out]
 have hv := HV.out
 clear HV hb HL HP
 generalize hvv : val 8 b = v at *
 have HVV := af hvv
 clear hvv
 go_wp2
 go_ret
 exact ⟨by rw [HVV.out]; rfl, rfl⟩
set_option maxHeartbeats 1000000 in
theorem play (g off k c : Nat) (t : TypeId) (L : List UInt8) (n : Nat) (w : World) (hr : bR w g t L) (h1 : 1 ≤ k) (h2 : k ≤ 2) (hn : n < 256 ^ k) (hf : off + k ≤ L.length) :
  Calls Tryz.prog 155 #[.slice (some ⟨g, off, none⟩) k c, .int .i64 (n : Int)] w fun e w' => e = .returned (.tuple #[]) ∧ bR w' g t (splice L off (aX 8 k n)) ∧ w.grownBy w' (some g) := by
 have HR := af hr
 have HL := af (ay 8 k n)
 have HF := af hf
 have hn2 : n < 65536 := by
  have h4 : 256 ^ k ≤ 256 ^ 2 := Nat.pow_le_pow_right (by omega) h2
  omega
 have HN := af hn
 clear hr hf hn
 go_enter Tryz.func155, Tryz.ntmps155
 go_wp2_with fail
 refine (put_ok n k w h1 (by omega) HN.out).mono ?_
 rintro e w1 ⟨v, rfl, hv, hb⟩
 have hvm := hv.made
 obtain ⟨A, cc, rfl, hrd, _, _⟩ := hvm.open_ HL.out
 have HRD := af hrd
 have HR1 := af (HR.out.below HR.out.lt hb)
 have HB := af hb
 clear hv hvm hrd hb HR HN
 go_wp2_with (first | (refine cN rfl _ _ rfl g off k c k cc _ A t L (aX 8 k n) rfl rfl HR1.out HRD.out (Nat.le_refl _) ?_ ?_) | fail)
 ·exact HF.out
 intro w2 hr2 hg2
 have HR2 := af hr2
 have HG2 := af (grown_after (B := 0) HB.out hg2)
 clear hr2 hg2
 go_wp2_with fail
 go_end0
 exact ⟨rfl, HR2.out, HG2.out⟩
section
variable {ρ : Operand → Value} {o : Oper} {x y : Operand} {w : World} {c d : Blk} {t : TypeId}
theorem exec_neqb (b : Bool) (ho : o.op = .binOp .neq 29 x y t) (hx : ρ x = blk c) (hy : ρ y = blk d) (h : (!decide (c = d)) = b) : (execOp ρ o).run Tryz.prog w = .ok (.value (.bool b)) w := by
 rw [exec_neq ho hx hy, h]
end
theorem wp_region_read {id : Nat} {Q : Exit → Act → World → Prop} {a : Act} {w : World} {l : List Oper} (hB : Region.lexB .any l.toArray = true) (h : wpStill Tryz.prog l.toArray w.drew (fun a' => Q .normal a' w.drew) l a) :
  (Code.region id l.toArray true).wp Tryz.prog Q a w := wp_region_still_lit (by kernel_rfl) hB h
theorem getD_ext {a b : List Blk} (hl : a.length = b.length) (h : ∀ k, k < a.length → a.getD k ap = b.getD k ap) : a = b := by
 apply List.ext_getElem hl
 intro k h1 h2
 have := h k h1
 rw [List.getD, List.getD, List.getElem?_eq_getElem h1, List.getElem?_eq_getElem h2] at this
 simpa using this
def zer (n : Nat) : List UInt8 := List.replicate n 0
theorem fR (n : Nat) : (zer n).length = n := by simp [zer]
theorem zer_add (a b : Nat) : zer (a + b) = zer a ++ zer b := by simp [zer]
theorem zer_one : zer 1 = [0] := rfl
theorem splice_at {a z c x : List UInt8} {p : Nat} (hp : a.length = p) (hz : z.length = x.length) : splice (a ++ (z ++ c)) p x = a ++ (x ++ c) := by
 subst hp
 unfold splice
 rw [List.take_left' rfl, ← List.drop_drop, List.drop_left' rfl, List.drop_left' hz]
def lyL (l : List Cl) (k : Nat) : List UInt8 := rowC (l.take k) ++ (zer (64 * hd l.length - 4 * k) ++ (bJ (blks (l.take k)) ++ zer (64 * l.length - 64 * k)))
def lyA (l : List Cl) (k : Nat) (s : Nat) : List UInt8 := splice (lyL l k) (4 * k) (aX 8 2 s)
def lyB (l : List Cl) (k : Nat) (s m : Nat) : List UInt8 := splice (lyA l k s) (4 * k + 2) (aX 8 1 m)
theorem lyL_zero (l : List Cl) : lyL l 0 = zer (64 * (hd l.length + l.length)) := by
 unfold lyL
 rw [List.take_zero, Nat.mul_add, zer_add]
 rfl
theorem lyL_all (l : List Cl) : lyL l l.length = bJ (bS l) := by
 unfold lyL
 rw [byts_recL, List.take_length, Nat.sub_self, show zer 0 = [] from rfl, List.append_nil, List.append_assoc]
 rfl
section
variable {l : List Cl} {k s m : Nat} {b : Blk} (hk : k < l.length)
include hk
theorem lyL_split : lyL l k = rowC (l.take k) ++ (zer 2 ++ (zer 1 ++ (zer 1 ++ (zer (64 * hd l.length - 4 * (k + 1)) ++ (bJ (blks (l.take k)) ++ (zer 64 ++ zer (64 * l.length - 64 * (k + 1)))))))) := by
 have hle := hd_le l.length
 have e1 : zer (64 * hd l.length - 4 * k) = zer 2 ++ (zer 1 ++ (zer 1 ++ zer (64 * hd l.length - 4 * (k + 1)))) := by
  rw [← zer_add, ← zer_add, ← zer_add]
  congr 1
  omega
 have e2 : zer (64 * l.length - 64 * k) = zer 64 ++ zer (64 * l.length - 64 * (k + 1)) := by
  rw [← zer_add]
  congr 1
  omega
 unfold lyL
 rw [e1, e2]
 simp only [List.append_assoc]
theorem len_take : (rowC (l.take k)).length = 4 * k := by rw [ee, List.length_take, Nat.min_eq_left (by omega)]
theorem lyA_split : lyA l k s = (rowC (l.take k) ++ aX 8 2 s) ++ (zer 1 ++ (zer 1 ++ (zer (64 * hd l.length - 4 * (k + 1)) ++ (bJ (blks (l.take k)) ++ (zer 64 ++ zer (64 * l.length - 64 * (k + 1))))))) := by
 unfold lyA
 rw [lyL_split hk, splice_at (len_take hk) (by rw [fR, ay]), List.append_assoc]
theorem lyB_split : lyB l k s m = (rowC (l.take k) ++ (aX 8 2 s ++ (aX 8 1 m ++ (zer 1 ++ (zer (64 * hd l.length - 4 * (k + 1)) ++ bJ (blks (l.take k))))))) ++ (zer 64 ++ zer (64 * l.length - 64 * (k + 1))) := by
 unfold lyB
 rw [lyA_split hk, splice_at (by rw [List.length_append, len_take hk, ay]) (by rw [fR, ay])]
 simp only [List.append_assoc]
theorem lyL_next (hx : l.getD k cC = ⟨(s : Int), (m : Int), b⟩) : splice (lyB l k s m) (64 * (hd l.length + k)) b.toList = lyL l (k + 1) := by
 have hle := hd_le l.length
 have hlb : (bJ (blks (l.take k))).length = 64 * k := by rw [cx, eL, List.length_take, Nat.min_eq_left (by omega)]
 rw [lyB_split hk, splice_at (by simp only [List.length_append, len_take hk, ay, fR, hlb]; omega) (by rw [fR, bz])]
 have hx2 : l[k] = ⟨(s : Int), (m : Int), b⟩ := by simpa [List.getD, hk] using hx
 have et : l.take (k + 1) = l.take k ++ [⟨(s : Int), (m : Int), b⟩] := by rw [List.take_succ_eq_append_getElem hk, hx2]
 unfold lyL
 rw [et, rowC_append, show blks (l.take k ++ [⟨(s : Int), (m : Int), b⟩]) = blks (l.take k) ++ [b] from by simp [blks], eU, show bJ [b] = b.toList from by simp [bJ]]
 rw [show rowC [⟨(s : Int), (m : Int), b⟩] = aX 8 2 s ++ (aX 8 1 m ++ zer 1) from by simp [rowC, pl4, zer_one]]
 simp only [List.append_assoc]
theorem lyL_length : (lyL l k).length = 64 * (hd l.length + l.length) := by
 have hle := hd_le l.length
 unfold lyL
 simp only [List.length_append, len_take hk, fR, cx, eL, List.length_take]
 rw [Nat.min_eq_left (by omega)]
 omega
theorem lyA_length : (lyA l k s).length = 64 * (hd l.length + l.length) := by
 have hle := hd_le l.length
 unfold lyA
 rw [length_splice _ _ _ (by rw [lyL_length hk, ay]; omega), lyL_length hk]
theorem lyB_length : (lyB l k s m).length = 64 * (hd l.length + l.length) := by
 have hle := hd_le l.length
 unfold lyB
 rw [length_splice _ _ _ (by rw [lyA_length hk, ay]; omega), lyA_length hk]
end
theorem vals_byts (l : List Blk) : vals (bJ l) = flat l := byts_flat l
theorem byts_zero (n : Nat) : bJ (List.replicate n ap) = zer (64 * n) := by
 induction n with
 | zero => rfl
 | succ n ih =>
  rw [List.replicate_succ, fN, ih, show ap.toList = zer 64 from by decide, ← zer_add]
  congr 1
  omega
theorem rowL_made (w : World) (n : Nat) : bR (w.alloc (.cells (madeCells (cel ap).toArray (n * 64)) 29)) w.heap.size 29 (zer (64 * n)) := by
 have h := holdsB_made w n
 unfold cE at h
 unfold bR
 rw [h, ← byts_zero, vals_byts]
theorem bR.holds {w : World} {g : Nat} {l : List Blk} (h : bR w g 29 (bJ l)) : cE w g l := by
 unfold cE
 unfold bR at h
 rw [h, vals_byts]
theorem cE.made {w : World} {g B : Nat} {l : List Blk} (h : cE w g l) (hB : B ≤ g) (hm : l.length ≤ maxLen) : dr w B (.slice (some ⟨g, 0, none⟩) l.length l.length) l := by
 refine ⟨dO l, .inr ⟨g, l.length, _, rfl, hB, h, Nat.le_refl _, hm, by rw [List.size_toArray, dO], ?_⟩⟩
 exact List.take_of_length_le (by rw [dO]; exact Nat.le_refl _)
section
variable {ρ : Operand → Value} {o : Oper} {x y : Operand} {w : World} {n m : Nat}
theorem exec_makeC (ho : o.op = .makeSlice 123 x y) (hx : ρ x = .int .i64 (n : Int)) (hy : ρ y = .int .i64 (m : Int)) (hn : n ≤ m) (hm : m ≤ 4398046511104) :
  (execOp ρ o).run Tryz.prog w = .ok (.value (.slice (some ⟨w.heap.size, 0, none⟩) n m)) (w.alloc (.cells (madeCells (cel ap).toArray (m * 64)) 29)) := by
 obtain ⟨i0, hi, hz0, hz1, hz2⟩ := info_parts infoB
 have hr := run_make (P := Tryz.prog) w 123 29 i0 (blk ap) underS hi hz0 .i64 .i64 n m (by omega) (by omega) (by rw [hz2]; omega) (by omega)
 rw [hz1, er] at hr
 simp only [Int.toNat_natCast] at hr
 unfold execOp
 simp only [ho, hx, hy, Sem.run_bind, hr, Result.andThen_ok, Sem.run_pure]
end
section
variable {ρ : Operand → Value} {o : Oper} {x : Operand} {w : World} {t e : TypeId} {A : Option Addr} {n c : Nat}
theorem cD (hu : Tryz.prog.underlying t = some (.slice e)) (ho : o.op = .call { callee := .builtin .len, args := #[x], argTypes := #[t] }) (hx : ρ x = .slice A n c) : (execOp ρ o).run Tryz.prog w = .ok (.value (.int .i64 (n : Int))) w := by
 simp [execOp, ho, resolve, invoke, builtin, hx, Builtin.len_, run_underlying hu, Result.andThen]
 rfl
theorem exec_lenC (ho : o.op = .call { callee := .builtin .len, args := #[x], argTypes := #[52] }) (hx : ρ x = .slice A n c) : (execOp ρ o).run Tryz.prog w = .ok (.value (.int .i64 (n : Int))) w := cD Tryz.underlying52 ho hx
theorem ep (ho : o.op = .call { callee := .builtin .len, args := #[x], argTypes := #[123] }) (hx : ρ x = .slice A n c) : (execOp ρ o).run Tryz.prog w = .ok (.value (.int .i64 (n : Int))) w := cD Tryz.underlying123 ho hx
theorem exec_lenU (ho : o.op = .call { callee := .builtin .len, args := #[x], argTypes := #[118] }) (hx : ρ x = .slice A n c) : (execOp ρ o).run Tryz.prog w = .ok (.value (.int .i64 (n : Int))) w := cD Tryz.underlying118 ho hx
end
theorem exec_mk1B {ρ : Operand → Value} {o : Oper} {x : Operand} {w : World} {b : Blk} (ho : o.op = .buildSlice 123 1 #[(0, x)]) (hx : ρ x = blk b) :
  (execOp ρ o).run Tryz.prog w = .ok (.value (.slice (some ⟨w.heap.size, 0, none⟩) 1 1)) (w.alloc (.cells (cel b).toArray 29)) := by
 have h := exec_buildS (ρ := ρ) (o := o) (w := w) (n := 1) (parts := [(0, x)]) [b] ho (by simp [hx]) rfl (by omega) (by omega)
 rw [h]
 simp [flat]
theorem wpList_appL {w : World} {ops : Array Oper} {rest : List Oper} {o : Oper} {a : Act} {Q : Exit → Act → World → Prop} (hgd : o.guard = none) (s x : Operand)
  (ho : o.op = .call { callee := .builtin .append, args := #[s, x], argTypes := #[123, 123] })
  (g n c q : Nat) (L : List UInt8) (b : Blk) (hs : a.eval s = .slice (some ⟨g, 0, none⟩) n c) (hx : a.eval x = .slice (some ⟨q, 0, none⟩) 1 1) (hr : bR w g 29 L) (hq : w.rangeAt q 0 (cel b)) (hn : n + 1 ≤ c) (hf : 64 * (n + 1) ≤ L.length)
  (h : ∀ w', bR w' g 29 (splice L (64 * n) b.toList) → w.grownBy w' (some g) → wpList Tryz.prog ops Q rest (a.put o.dst (.slice (some ⟨g, 0, none⟩) (n + 1) c)) w') : wpList Tryz.prog ops Q (o :: rest) a w := by
 obtain ⟨i0, hi, hz0, hz1, hz2⟩ := info_parts infoB
 refine wpList_plain hgd fun K hK => ?_
 have hrun := run_append_room (P := Tryz.prog) w 123 o.type 29 i0 underS hi g n c (vals L).toArray hr ⟨q, 0, none⟩ 1 1 (cel b) (by rw [aA, hz1]) (fun j u hu => by
  rw [Addr.add_mid]
  exact hq j u hu) (cel_one b) hn (by rw [hz1, aA, List.size_toArray, bu]; omega)
 have e : (vals L).toArray.toList.take (n * i0.size) ++ cel b ++ (vals L).toArray.toList.drop (n * i0.size + (cel b).length) = vals (splice L (64 * n) b.toList) := by
  rw [← splice_vals, hz1, Nat.mul_comm n 64, aA]
  unfold splice
  rw [bu, bz, List.append_assoc]
  rfl
 rw [e] at hrun
 have hrow := setRow_heap w g (vals L).toArray (vals (splice L (64 * n) b.toList)).toArray 29 (0, 0) hr
 unfold Oper.wp
 simp [execOp, ho, resolve, invoke, builtin, hs, hx, hrun, Result.andThen]
 exact hK _ _ (h _ hrow ⟨rfl, rfl, rfl, by simp [World.setRow], fun k hk hne => setRow_other w g k _ (fun e => hne (by rw [e]))⟩)
structure LaidC (B : Nat) (w0 w : World) (g q : Nat) (x : Cl) (L : List UInt8) : Prop where
 row : bR w g 29 L
 cl : w.heap[q]? = some (.cells (cG x).toArray 110 (0, 0))
 bel : Below B w0 w
 g0 : B ≤ g
 ne : q ≠ g
section
variable {B : Nat} {w0 w w' : World} {g q : Nat} {x : Cl} {L L' : List UInt8}
theorem LaidC.grow (h : LaidC B w0 w g q x L) (hB : B ≤ w0.heap.size) (hr : bR w' g 29 L') (hg : w.grownBy w' (some g)) : LaidC B w0 w' g q x L' :=
 ⟨hr, fm h.cl hg h.ne, h.bel.grown hg (Nat.le_trans hB h.bel.size) (fun k hk => by injection hk with e; have := h.g0; omega), h.g0, h.ne⟩
theorem LaidC.draw (h : LaidC B w0 w g q x L) : LaidC B w0 w.drew g q x L := ⟨h.row, h.cl, bd h.bel, h.g0, h.ne⟩
theorem LaidC.past (h : LaidC B w0 w g q x L) (hB : B ≤ w0.heap.size) (o : Obj) : LaidC B w0 (w.alloc o) g q x L := ⟨h.row.past o, bU h.cl o, h.bel.alloc (Nat.le_trans hB h.bel.size) o, h.g0, h.ne⟩
theorem LaidC.rng (h : LaidC B w0 w g q x L) : w.rangeAt q 0 (cG x) := dt h.cl
theorem LaidC.cells (h : LaidC B w0 w g q x L) : w.cell? ⟨q, 0, none⟩ = some (.int .i64 x.s) ∧ w.cell? ⟨q, 1, none⟩ = some (.int .i64 x.m) ∧ w.rangeAt q 2 (cel x.b) := by
 have h1 := ed (cl_place h.rng)
 have h2 := cl_blk h.rng
 exact ⟨h1.1, h1.2, h2⟩
end
section
variable {P : Program} {ops : Array Oper} {C : World → Prop} {Q : Act → Prop} {a : Act} {o : Oper} {rest l : List Oper} {v : Value}
theorem wpQuiet_unw : ∀ (rs : List Oper) (a : Act), unw ops rs a = true → wpQuiet P ops C Q rest (aJ rs a) → wpQuiet P ops C Q (rs ++ rest) a
 | [], _, _, h => h
 | r :: rs, a, hu, h => by
  simp only [unw, Bool.and_eq_true, Bool.not_eq_true'] at hu
  exact qv_skip hu.1 (wpQuiet_unw rs _ hu.2 h)
theorem cI (n : Nat) (hw : Region.wanted o (yielded ops a.tmps) = true) (h : ∀ w, C w → (execOp a.eval o).run P w = .ok (.value v) w) (hu : unw ops (l.take n) (a.put o.dst v) = true) (hr : wpQuiet P ops C Q (l.drop n) (aJ (l.take n) (a.put o.dst v))) : wpQuiet P ops C Q (o :: l) a :=
 ao hw h (by have := wpQuiet_unw (P := P) (C := C) (Q := Q) (l.take n) _ hu hr; rwa [List.take_append_drop] at this)
end
def rlgC (q : Nat) (v : Value) (x : LgS) : List Value := [ptr q, .int .i64 (x.d : Int), .int .u64 (x.own : Int), .int .i64 (x.size : Int), .int .u64 (x.cnt : Int), .int .u64 (x.fst : Int), .int .u64 (x.pos : Int), v]
structure RLg (w : World) (p q : Nat) (v : Value) (x : LgS) : Prop where
 at_ : w.heap[p]? = some (.cells (rlgC q v x).toArray 89 (0, 0))
 row : aH aY w 0 v x.nts
def ch (p : Nat) (v : Value) (b : Nat) : Prop := b = p ∨ v.ownBlock = some b
section
variable {w w' : World} {p q : Nat} {v : Value} {x : LgS} {G : Nat → Prop}
theorem RLg.lt (h : RLg w p q v x) : ∀ b, ch p v b → b < w.heap.size := by
 intro b hb
 rcases hb with rfl | hb
 ·exact aK h.at_
 ·exact h.row.own_lt b hb
theorem RLg.only (h : RLg w p q v x) (ho : Only G w w') (hn : ∀ b, ch p v b → ¬ G b) : RLg w' p q v x := ⟨ho.keep h.at_ (hn p (.inl rfl)), h.row.only ho fun b hb => hn b (.inr hb)⟩
theorem RLg.below (h : RLg w p q v x) (hb : Below w.heap.size w w') : RLg w' p q v x := h.only (Only.of_below (fun _ => False) hb) fun _ _ e => e
theorem RLg.rowp (h : RLg w p q v x) : v.ownBlock ≠ some p := h.row.dc h.at_ (by decide)
theorem RLg.rng (h : RLg w p q v x) : w.rangeAt p 0 (rlgC q v x) := dt h.at_
theorem RLg.c0 (h : RLg w p q v x) : w.cell? ⟨p, 0, none⟩ = some (.pointer (some ⟨q, 0, none⟩)) := h.rng 0 _ rfl
theorem RLg.c1 (h : RLg w p q v x) : w.cell? ⟨p, 1, none⟩ = some (.int .i64 (x.d : Int)) := h.rng 1 _ rfl
theorem RLg.c2 (h : RLg w p q v x) : w.cell? ⟨p, 2, none⟩ = some (.int .u64 (x.own : Int)) := h.rng 2 _ rfl
theorem RLg.c3 (h : RLg w p q v x) : w.cell? ⟨p, 3, none⟩ = some (.int .i64 (x.size : Int)) := h.rng 3 _ rfl
theorem RLg.c5 (h : RLg w p q v x) : w.cell? ⟨p, 5, none⟩ = some (.int .u64 (x.fst : Int)) := h.rng 5 _ rfl
theorem RLg.c6 (h : RLg w p q v x) : w.cell? ⟨p, 6, none⟩ = some (.int .u64 (x.pos : Int)) := h.rng 6 _ rfl
theorem RLg.c7 (h : RLg w p q v x) : w.cell? ⟨p, 7, none⟩ = some (v) := h.rng 7 _ rfl
theorem RLg.slice (h : RLg w p q v x) : ∃ A c, v = .slice A x.nts.length c ∧ x.nts.length ≤ c ∧ c ≤ maxLen := h.row.form
theorem faLg0 : (Instr.fieldAt 89 (.pointer (some ⟨p, 0, none⟩)) 0).run Tryz.prog w = .ok (.pointer (some ⟨p, 0, none⟩)) w := by kernel_rfl
theorem faLg1 : (Instr.fieldAt 89 (.pointer (some ⟨p, 0, none⟩)) 1).run Tryz.prog w = .ok (.pointer (some ⟨p, 1, none⟩)) w := by kernel_rfl
theorem faLg2 : (Instr.fieldAt 89 (.pointer (some ⟨p, 0, none⟩)) 2).run Tryz.prog w = .ok (.pointer (some ⟨p, 2, none⟩)) w := by kernel_rfl
theorem faLg3 : (Instr.fieldAt 89 (.pointer (some ⟨p, 0, none⟩)) 3).run Tryz.prog w = .ok (.pointer (some ⟨p, 3, none⟩)) w := by kernel_rfl
theorem faLg5 : (Instr.fieldAt 89 (.pointer (some ⟨p, 0, none⟩)) 5).run Tryz.prog w = .ok (.pointer (some ⟨p, 5, none⟩)) w := by kernel_rfl
theorem faLg6 : (Instr.fieldAt 89 (.pointer (some ⟨p, 0, none⟩)) 6).run Tryz.prog w = .ok (.pointer (some ⟨p, 6, none⟩)) w := by kernel_rfl
theorem faLg7 : (Instr.fieldAt 89 (.pointer (some ⟨p, 0, none⟩)) 7).run Tryz.prog w = .ok (.pointer (some ⟨p, 7, none⟩)) w := by kernel_rfl
theorem faNo2 {off : Nat} : (Instr.fieldAt 35 (.pointer (some ⟨p, off, none⟩)) 2).run Tryz.prog w = .ok (.pointer (some ⟨p, off + 2, none⟩)) w := by kernel_rfl
theorem ldQr {ad : Addr} {a : Option Addr} (h : w.cell? ad = some (.pointer a)) : (Instr.loadAt 25 (.pointer (some ad))).run Tryz.prog w = .ok (.pointer a) w := by simp [go_sem, h]
theorem ldNts {ad : Addr} {A : Option Addr} {n c : Nat} (h : w.cell? ad = some (.slice A n c)) : (Instr.loadAt 78 (.pointer (some ad))).run Tryz.prog w = .ok (.slice A n c) w := by simp [go_sem, h]
end
section
variable {ρ : Operand → Value} {o : Oper} {x y : Operand} {w : World} {t r : TypeId} {a b : Nat}
theorem exec_sbU (ho : o.op = .binOp .sub t x y r) (hx : ρ x = .int .u64 ((a + b : Nat) : Int)) (hy : ρ y = .int .u64 (a : Int)) (h : a + b < 18446744073709551616) : (execOp ρ o).run Tryz.prog w = .ok (.value (.int .u64 (b : Int))) w := by
 have e : IntKind.u64.wrap (((a + b : Nat) : Int) - (a : Int)) = (b : Int) := by rw [show ((a + b : Nat) : Int) - (a : Int) = (b : Int) from by omega]; exact IntWalk.u64_in _ ⟨by omega, by omega⟩
 unfold execOp
 simp [ho, hx, hy, eqGuard, binOp, Op.intArith]
 simpa using e
theorem exec_cvU6I (ho : o.op = .convert 30 3 x) (hx : ρ x = .int .u64 (a : Int)) (h : a < 9223372036854775808) : (execOp ρ o).run Tryz.prog w = .ok (.value (.int .i64 (a : Int))) w := by
 have e : IntKind.i64.wrap (a : Int) = (a : Int) := IntWalk.i64_in _ ⟨by omega, by omega⟩
 have hc : (convert 30 3 (.int .u64 (a : Int))).run Tryz.prog w = .ok (.int .i64 (a : Int)) w := by simp [convert, go_sem, e]
 unfold execOp
 simp only [ho, hx, Sem.run_bind, hc, Result.andThen_ok, Sem.run_pure]
end
theorem sz_tak {n : Nte} (h : 1 ≤ n.cells ∧ n.cells ≤ 32) : dZ n.cells = bc n := by unfold dZ bc; rw [if_neg (by omega)]
theorem rsize_v {n : Int} {k : Nat} (h : dZ n = k) (w : World) : Calls Tryz.prog 39 #[.int .i64 n] w fun e w' => e = .returned (.int .i64 (k : Nat)) ∧ w = w' := by subst h; exact rsize n w
section
variable {p q N : Nat} {v : Value} {x : LgS} {M : BenS}
theorem rlnext (w : World) (h : RLg w p q v x) (hk : LgOk M x N) : Calls Tryz.prog 36 #[.pointer (some ⟨p, 0, none⟩)] w fun e w' => e = .returned (.int .u64 ((x.next : Nat) : Int)) ∧ Below w.heap.size w w' := by
 obtain ⟨A, c, rfl, h1, h2⟩ := h.slice
 have HL := af h
 have HN8 : Hid (x.nts.length < 18446744073709551616) := af (by have := hk.eig; omega)
 have HNX : Hid (x.fst + x.nts.length < 18446744073709551616) := af (by have := hk.nxt; have := hk.lim; unfold LgS.next at *; omega)
 clear h hk h1 h2
 go_enter Tryz.func36, Tryz.ntmps36
 go_upto_region 1 with fail
 refine aI (B := w.heap.size) (by kernel_rfl) ?_
 refine ao rfl (fun w' hw => aj rfl (ev rfl)) ?_;simp only [aa]
 refine ao rfl (fun w' hw => aB rfl (ev rfl)) ?_;simp only [aa]
 refine ao rfl (fun w' hw => am rfl (ev rfl) faLg5) ?_;simp only [aa]
 refine ao rfl (fun w' hw => au rfl (ev rfl) (bL (RLg.c5 (HL.out.below hw)))) ?_;simp only [aa]
 refine ao rfl (fun w' hw => aj rfl (ev rfl)) ?_;simp only [aa]
 refine ao rfl (fun w' hw => aB rfl (ev rfl)) ?_;simp only [aa]
 refine ao rfl (fun w' hw => am rfl (ev rfl) faLg7) ?_;simp only [aa]
 refine ao rfl (fun w' hw => au rfl (ev rfl) (ldNts (RLg.c7 (HL.out.below hw)))) ?_;simp only [aa]
 refine ao rfl (fun w' hw => cD Tryz.underlying78 rfl (ev rfl)) ?_;simp only [aa]
 refine ao rfl (fun w' hw => exec_cvIU rfl (ev rfl) HN8.out) ?_;simp only [aa]
 refine ao rfl (fun w' hw => exec_adN rfl (ev rfl) (ev rfl) HNX.out) ?_;simp only [aa]
 refine ao rfl (fun w' hw => aq rfl (ev rfl)) ?_;simp only [aa]
 refine wpQuiet_nil ?_
 intro w2 hw
 go_wp2_with fail
 go_ret
 exact ⟨rfl, hw⟩
set_option maxHeartbeats 1000000 in
theorem rlhead (w : World) (h : RLg w p q v x) (hk : LgOk M x N) : Calls Tryz.prog 38 #[.pointer (some ⟨p, 0, none⟩)] w fun e w' => e = .returned (.int .u64 ((x.head : Nat) : Int)) ∧ w = w' := by
 obtain ⟨A, c, rfl, h1, h2⟩ := h.slice
 have hrd := h.row.rd
 have hcell : ∀ i, i < x.nts.length → ∃ b off, A = some ⟨b, off, none⟩ ∧ w.cell? ⟨b, off + i * 4 + 2, none⟩ = some (.int .i64 (x.nts.getD i aM).cells) := fun i hi => by
  obtain ⟨b, off, e, _, hr⟩ := hrd.2 i hi
  exact ⟨b, off, e, hr 2 _ rfl⟩
 have hb : ∀ i, i < x.nts.length → x.pos + usd (x.nts.take (i + 1)) < 9223372036854775808 ∧ usd (x.nts.take (i + 1)) = usd (x.nts.take i) + bc (x.nts.getD i aM) ∧ dZ (x.nts.getD i aM).cells = bc (x.nts.getD i aM) := fun i hi => by
  have h1 := fu hi
  have h2 := hk.end_ hi
  have h3 := hk.hed
  have h4 := hk.lim
  have h5 : x.head = x.pos + x.used := rfl
  obtain ⟨n1, n2, _⟩ := hk.nts i hi
  exact ⟨by omega, h1, sz_tak ⟨n1, n2⟩⟩
 have HD : Hid (x.pos + usd (x.nts.take x.nts.length) = x.head) := af (by rw [List.take_length]; rfl)
 have h8 := hk.eig
 have c6 := h.c6
 have c7 := h.c7
 have HU0 : Hid (x.pos + usd (x.nts.take 0) = x.pos) := af rfl
 have HCE := fun i hi => af (hcell i hi)
 have HBD := fun i hi => af (hb i hi)
 clear h hk h1 h2 hrd hcell hb
 obtain ⟨n, hn⟩ : ∃ n, x.nts.length = n := ⟨_, rfl⟩
 rw [hn] at c7 h8 HCE HBD HD
 clear hn
 go_enter Tryz.func38, Tryz.ntmps38
 go_wp2_with fail
 go_loop [3, 4] (fun a i => ∃ k : Nat, k ≤ n ∧ i = .int .i64 (k : Int) ∧ a = .int .u64 ((x.pos + usd (x.nts.take k) : Nat) : Int)) (fun _ i => n - (intOf i).toNat)
 case atStart => exact ⟨0, Nat.zero_le _, rfl, by rw [HU0.out]⟩
 case round =>
  obtain ⟨k, hkn, rfl, rfl⟩ := hrel
  by_cases hlt : k < n
  ·obtain ⟨b, off, rfl, hce⟩ := (HCE k hlt).out
   obtain ⟨g1, g2, g3⟩ := (HBD k hlt).out
   obtain ⟨cc, hcc⟩ : ∃ cc, (x.nts.getD k aM).cells = cc := ⟨_, rfl⟩
   obtain ⟨tk, htk⟩ : ∃ tk, bc (x.nts.getD k aM) = tk := ⟨_, rfl⟩
   obtain ⟨u0, hu0⟩ : ∃ u, usd (x.nts.take k) = u := ⟨_, rfl⟩
   rw [hcc] at hce g3
   rw [htk] at g2 g3
   rw [hu0] at g2 ⊢
   have HG2 := af g2
   have HG3 := af g3
   have hu : x.pos + u0 + tk < 9223372036854775808 := by omega
   clear hcc htk hu0 g1 g2 g3 HCE HBD
   go_upto_region 5 with fail
   refine ag ?_
   refine ai rfl (aj rfl (ev rfl)) ?_;simp only [aa]
   refine ai rfl (aj rfl (ev rfl)) ?_;simp only [aa]
   refine ai rfl (aB rfl (ev rfl)) ?_;simp only [aa]
   refine ai rfl (am rfl (ev rfl) faLg7) ?_;simp only [aa]
   refine ai rfl (au rfl (ev rfl) (ldNts c7)) ?_;simp only [aa]
   refine ai rfl (aj rfl (ev rfl)) ?_;simp only [aa]
   refine ai rfl (bQ (E := aY) rfl (ev rfl) (ev rfl) hlt) ?_;simp only [aa]
   refine ai rfl (am rfl (ev rfl) faNo2) ?_;simp only [aa]
   refine ai rfl (au rfl (ev rfl) (bj hce)) ?_;simp only [aa]
   refine ar rfl (av Tryz.call39 rfl (evc (ev rfl) evn)) ?_
   refine (rsize_v HG3.out w).mono ?_
   rintro e w' ⟨rfl, rfl⟩
   refine ⟨_, rfl, ?_⟩
   simp only [aa]
   refine ai rfl (exec_cvIU rfl (ev rfl) (by omega)) ?_;simp only [aa]
   refine ai rfl (exec_adN rfl (ev rfl) (ev rfl) (by omega)) ?_;simp only [aa]
   refine ai rfl (aq rfl (ev rfl)) ?_;simp only [aa]
   refine ah ?_
   go_wp2_with fail
   go_round
   case rel => exact ⟨k + 1, by omega, by go_num, by rw [HG2.out, Nat.add_assoc]⟩
   case measure => simp [intOf]; omega
  ·have hkk : k = n := by omega
   subst hkk
   clear hlt hkn HCE HBD
   go_wp2_with fail
   go_ret
   refine ⟨bD ?_, rfl⟩
   have := HD.out
   omega
theorem rlhead_d (w : World) (h : RLg w p q v x) (hk : LgOk M x N) : Calls Tryz.prog 38 #[.pointer (some ⟨p, 0, none⟩)] w fun e w' => e = .returned (.int .u64 ((x.head : Nat) : Int)) ∧ Below w.heap.size w w' :=
 (rlhead w h hk).mono fun e w' ⟨he, hw⟩ => ⟨he, hw ▸ Below.refl _ _⟩
theorem rlfree (w : World) (h : RLg w p q v x) (hk : LgOk M x N) : Calls Tryz.prog 40 #[.pointer (some ⟨p, 0, none⟩)] w fun e w' => e = .returned (.int .i64 ((x.free : Nat) : Int)) ∧ Below w.heap.size w w' := by
 have HL := af h
 have HK := af hk
 have hu := hk.use
 have hs := hk.siz
 have HU : Hid (x.used < 9223372036854775808) := af (by omega)
 have HH : Hid (x.pos + x.used < 18446744073709551616) := af (by have := hk.hed; have := hk.lim; unfold LgS.head at *; omega)
 have HF : Hid (IntKind.i64.wrap ((x.size : Int) - (x.used : Int)) = ((x.free : Nat) : Int)) := af (by rw [IntWalk.i64_in _ ⟨by omega, by omega⟩]; unfold LgS.free; omega)
 clear h hk hu hs
 go_enter Tryz.func40, Tryz.ntmps40
 go_upto_region 1 with fail
 refine aI (B := w.heap.size) (by kernel_rfl) ?_
 refine ao rfl (fun w' hw => aj rfl (ev rfl)) ?_;simp only [aa]
 refine ao rfl (fun w' hw => aB rfl (ev rfl)) ?_;simp only [aa]
 refine ao rfl (fun w' hw => am rfl (ev rfl) faLg3) ?_;simp only [aa]
 refine ao rfl (fun w' hw => au rfl (ev rfl) (bj (RLg.c3 (HL.out.below hw)))) ?_;simp only [aa]
 refine ao rfl (fun w' hw => aj rfl (ev rfl)) ?_;simp only [aa]
 refine a9 rfl (fun _ => av Tryz.call38 rfl (evc (ev rfl) evn)) (aW (Nat.le_refl _) fun w' hw => rlhead_d w' (HL.out.below hw) HK.out) ?_;simp only [aa]
 refine ao rfl (fun w' hw => aj rfl (ev rfl)) ?_;simp only [aa]
 refine ao rfl (fun w' hw => aB rfl (ev rfl)) ?_;simp only [aa]
 refine ao rfl (fun w' hw => am rfl (ev rfl) faLg6) ?_;simp only [aa]
 refine ao rfl (fun w' hw => au rfl (ev rfl) (bL (RLg.c6 (HL.out.below hw)))) ?_;simp only [aa]
 refine ao rfl (fun w' hw => exec_sbU (a := x.pos) (b := x.used) rfl (ev rfl) (ev rfl) HH.out) ?_;simp only [aa]
 refine ao rfl (fun w' hw => exec_cvU6I rfl (ev rfl) HU.out) ?_;simp only [aa]
 refine ao rfl (fun w' hw => fw rfl (ev rfl) (ev rfl) HF.out) ?_;simp only [aa]
 refine ao rfl (fun w' hw => aq rfl (ev rfl)) ?_;simp only [aa]
 refine wpQuiet_nil ?_
 intro w2 hw
 go_wp2_with fail
 go_ret
 exact ⟨rfl, hw⟩
end
def solo (S : List Blk) (L : List (Int × Blk)) (left : Nat) (dark : Bool) (st : Nat) : BenS := ⟨[⟨S, L, false⟩], left, dark, st⟩
def Stp.okn (n : Nat) : Stp → Prop
 | .wr k _ => 0 ≤ k ∧ k < n
 | .fl => True
def aft : List Stp → List Blk × List (Int × Blk) → List Blk × List (Int × Blk)
 | [], z => z
 | .wr n b :: l, z => aft l (z.1, z.2 ++ [(n, b)])
 | .fl :: l, z => aft l (flS z.1 z.2, [])
theorem aft_app (a b : List Stp) : ∀ z, aft (a ++ b) z = aft b (aft a z) := by
 induction a with
 | nil => intro z; rfl
 | cons s a ih =>
  intro z
  cases s with
  | wr n x => exact ih _
  | fl => exact ih _
section
variable {S : List Blk} {L : List (Int × Blk)} {left st : Nat}
theorem solo_has (dark : Bool) : dV (solo S L left dark st) 0 = 0 := by unfold dV solo; simp
theorem solo_lit : dF (solo S L left false st) 0 = 0 := by rw [litE_light rfl]; exact solo_has _
theorem solo_se (dark : Bool) : bO (solo S L left dark st) 0 = (S.length : Int) := by unfold bO; rw [if_pos (solo_has _)]; rfl
theorem solo_rdE {n : Int} (h : 0 ≤ n ∧ n < S.length) : bT (solo S L left false st) 0 n = 0 := by
 unfold bT
 rw [if_pos solo_lit]
 exact fH h
theorem solo_rdB {k : Nat} (h : k < S.length) : cq (solo S [] left false st) 0 (k : Int) = S.getD k ap := by
 unfold cq
 rw [if_pos solo_lit]
 show eR S [] false (k : Int) = _
 rw [readB_ok (fH ⟨by omega, by omega⟩)]
 rfl
theorem solo_wrE {n : Int} {b : Blk} (h : 0 ≤ n ∧ n < S.length) : stpE 0 (solo S L left false st) (.wr n b) = if left = 1 then 8 else 0 := by
 show wrE6 _ _ _ = _
 unfold wrE6
 rw [if_pos (solo_rdE h)]
 rfl
theorem solo_wrS {n : Int} {b : Blk} (h : 0 ≤ n ∧ n < S.length) (hl : left ≠ 1) : stpS 0 (solo S L left false st) (.wr n b) = solo S (L ++ [(n, b)]) (left - 1) false (st + 1) := by
 show dK _ _ _ _ = _
 unfold dK
 rw [if_pos (solo_rdE h), if_neg (show ¬ (solo S L left false st).left = 1 from hl)]
 have e : wrL S L false n b = L ++ [(n, b)] := by unfold wrL; rw [if_pos (fH h)]
 show BenS.put _ _ ⟨S, wrL S L false n b, false⟩ = _
 rw [e]
 rfl
theorem solo_wrN {n : Int} {b : Blk} (h : 0 ≤ n ∧ n < S.length) : stpS 0 (solo S L 1 false st) (.wr n b) = solo S L 1 true st := by
 show dK _ _ _ _ = _
 unfold dK
 rw [if_pos (solo_rdE h), if_pos (show (solo S L 1 false st).left = 1 from rfl)]
 rfl
theorem solo_flA : flA6 (solo S L left false st) 0 = 0 := by
 unfold flA6
 rw [if_pos solo_lit]
 rfl
theorem solo_flE : stpE 0 (solo S L left false st) .fl = if left = 1 then 8 else 0 := by
 show flE6 _ _ = _
 unfold flE6
 rw [if_pos solo_flA]
 rfl
theorem solo_flS (hl : left ≠ 1) : stpS 0 (solo S L left false st) .fl = solo (flS S L) [] (left - 1) false (st + 1) := by
 show flS6 _ _ = _
 unfold flS6
 rw [if_pos solo_flA, if_neg (show ¬ (solo S L left false st).left = 1 from hl)]
 rfl
theorem solo_flN : stpS 0 (solo S L 1 false st) .fl = solo S L 1 true st := by
 show flS6 _ _ = _
 unfold flS6
 rw [if_pos solo_flA, if_pos (show (solo S L 1 false st).left = 1 from rfl)]
 rfl
end
theorem solo_go (l : List Stp) : ∀ (S : List Blk) (L : List (Int × Blk)) (left st : Nat), (∀ s ∈ l, s.okn S.length) →
  ((left = 0 ∨ l.length < left) ∧ goE 0 (solo S L left false st) l = 0 ∧ goB 0 (solo S L left false st) l = solo (aft l (S, L)).1 (aft l (S, L)).2 (left - l.length) false (st + l.length)) ∨
  (1 ≤ left ∧ left ≤ l.length ∧ goE 0 (solo S L left false st) l = 8 ∧ goB 0 (solo S L left false st) l = solo (aft (l.take (left - 1)) (S, L)).1 (aft (l.take (left - 1)) (S, L)).2 1 true (st + (left - 1))) := by
 induction l with
 | nil => intro S L left st _; exact .inl ⟨by simp; omega, rfl, rfl⟩
 | cons s l ih =>
  intro S L left st hs
  by_cases h1 : left = 1
  ·subst h1
   right
   have hE : stpE 0 (solo S L 1 false st) s = 8 := by
    cases s with
    | wr n b => rw [solo_wrE (hs _ (List.mem_cons_self ..))]; rfl
    | fl => rw [solo_flE]; rfl
   have hB : stpS 0 (solo S L 1 false st) s = solo S L 1 true st := by
    cases s with
    | wr n b => exact solo_wrN (hs _ (List.mem_cons_self ..))
    | fl => exact solo_flN
   refine ⟨Nat.le_refl _, by simp, ?_, ?_⟩
   ·rw [(go_no (by rw [hE]; decide)).1, hE]
   ·rw [(go_no (by rw [hE]; decide)).2, hB]; rfl
  ·obtain ⟨S', L', hl', hE, hB, hA⟩ : ∃ S' L', S'.length = S.length ∧ stpE 0 (solo S L left false st) s = 0 ∧ stpS 0 (solo S L left false st) s = solo S' L' (left - 1) false (st + 1) ∧ ∀ l, aft (s :: l) (S, L) = aft l (S', L') := by
    cases s with
    | wr n b => exact ⟨S, L ++ [(n, b)], rfl, by rw [solo_wrE (hs _ (List.mem_cons_self ..)), if_neg h1], solo_wrS (hs _ (List.mem_cons_self ..)) h1, fun _ => rfl⟩
    | fl => exact ⟨flS S L, [], fC _ _, by rw [solo_flE, if_neg h1], solo_flS h1, fun _ => rfl⟩
   have := ih S' L' (left - 1) (st + 1) (fun t ht => by rw [hl']; exact hs t (List.mem_cons_of_mem _ ht))
   rw [(go_ok hE).1, (go_ok hE).2, hB]
   rcases this with ⟨g1, g2, g3⟩ | ⟨g1, g2, g3, g4⟩
   ·left
    refine ⟨by rw [List.length_cons]; omega, g2, ?_⟩
    rw [g3, hA, List.length_cons, show left - 1 - l.length = left - (l.length + 1) from by omega, show st + 1 + l.length = st + (l.length + 1) from by omega]
   ·right
    refine ⟨by omega, by rw [List.length_cons]; omega, g3, ?_⟩
    rw [g4, show left - 1 = (left - 1 - 1) + 1 from by omega, List.take_succ_cons, hA, show left - 1 - 1 + 1 - 1 = left - 1 - 1 from by omega, show st + 1 + (left - 1 - 1) = st + (left - 1 - 1 + 1) from by omega]
theorem flS_off {L : List (Int × Blk)} {j : Nat} (h : ∀ q ∈ L, q.1.toNat ≠ j) : ∀ S : List Blk, (flS S L).getD j ap = S.getD j ap := by
 induction L with
 | nil => intro S; rfl
 | cons q L ih =>
  intro S
  show (flS (S.set q.1.toNat q.2) L).getD j ap = _
  rw [ih (fun p hp => h p (List.mem_cons_of_mem _ hp)), bN (Ne.symm (h q (List.mem_cons_self ..)))]
theorem crI_keep {S : List Blk} {L : List (Int × Blk)} {P : List Int} {j : Nat} (h : ∀ q ∈ L, q.1.toNat ≠ j) : ∀ i, i ≤ L.length → (crI S L P i).getD j ap = S.getD j ap
 | 0, _ => rfl
 | i + 1, hi => by
  have hm : L.getD i (0, ap) ∈ L := getD_mem (by omega)
  rw [crI, bN (Ne.symm (h _ hm))]
  exact crI_keep h i (by omega)
theorem crI_one (S : List Blk) (n : Int) (b : Blk) (P : List Int) : crI S [(n, b)] P 1 = S.set n.toNat (torn (S.getD n.toNat ap) b (P.getD 0 0)) := rfl
theorem Cod.torn_two {Y : Type} (C : Cod Y) {x : Y} {b d : Blk} {t : Int} (hx : C.pE x = 0) (hb : cH b.toList = agO b.toList) (hne : cH b.toList ≠ C.num x) (hd : torn b (C.pB x) t = d) : d = C.pB x ∨ d = b ∨ C.gE d ≠ 0 := by
 have a1 := C.of_pE hx
 have hnl : C.num x < 18446744073709551616 := by have := C.may_num _ a1; omega
 have pn := C.may_putE a1
 rw [C.pB_ok a1] at *
 have en := of_getE (put_getE hnl pn)
 have nn : cH (dL (C.num x) (C.body x)).toList = C.num x := by rw [← getN_of (put_getE hnl pn)]; exact put_getN hnl pn
 by_cases hg : C.gE d = 0
 ·have hdd := (of_getE (C.of_gE hg).1).2.1
  rw [← hd] at hdd
  rcases torn_whole (n := t) en.2.1 hb (by rw [nn]; exact fun e => hne e.symm) hdd with h | h
  ·exact .inl (by rw [← hd, h])
  ·exact .inr (.inl (by rw [← hd, h]))
 ·exact .inr (.inr hg)
theorem Cod.pB_num {Y : Type} (C : Cod Y) {x : Y} (hx : C.pE x = 0) : cH (C.pB x).toList = C.num x ∧ cH (C.pB x).toList = agO (C.pB x).toList := by
 have a1 := C.of_pE hx
 have hnl : C.num x < 18446744073709551616 := by have := C.may_num _ a1; omega
 have pn := C.may_putE a1
 rw [C.pB_ok a1]
 have en := of_getE (put_getE hnl pn)
 exact ⟨by rw [← getN_of (put_getE hnl pn)]; exact put_getN hnl pn, en.2.1⟩
theorem Cod.gN_le_num {Y : Type} (C : Cod Y) (b : Blk) : C.gN b ≤ cH b.toList := by
 by_cases h : C.gE b = 0
 ·rw [C.gN_of h, getN_of (C.of_gE h).1]; exact Nat.le_refl _
 ·rw [C.gN_no h]; exact Nat.zero_le _
theorem mod_ne {r p q : Nat} (h1 : p < q) (h2 : q < p + r) : p % r ≠ q % r := by
 intro e
 have e1 := Nat.div_add_mod p r
 have e2 := Nat.div_add_mod q r
 rw [← e] at e2
 have h3 : p / r < q / r := by
  rcases Nat.lt_or_ge (p / r) (q / r) with h | h
  ·exact h
  ·have := Nat.mul_le_mul_left r h
   omega
 have h4 := Nat.mul_le_mul_left r (show p / r + 1 ≤ q / r from h3)
 rw [Nat.mul_add, Nat.mul_one] at h4
 omega
theorem eS (r p : Nat) : (bK r p).toNat = 10 + p % r := by unfold bK; omega
theorem fq {α : Type} {f : Nat → α} {n : Nat} {a : α} (h : a ∈ (List.range n).map f) : ∃ i, i < n ∧ f i = a := by
 obtain ⟨i, hi, e⟩ := List.mem_map.1 h
 exact ⟨i, List.mem_range.1 hi, e⟩
theorem aft_wr (f : Nat → Int × Blk) : ∀ (n : Nat) (z : List Blk × List (Int × Blk)), aft ((List.range n).map fun i => Stp.wr (f i).1 (f i).2) z = (z.1, z.2 ++ (List.range n).map f)
 | 0, z => by simp [aft]
 | n + 1, z => by
  rw [List.range_succ, List.map_append, aft_app, aft_wr f n, List.map_append, ← List.append_assoc]
  rfl
theorem flS_rng (f : Nat → Int × Blk) (S : List Blk) : ∀ n, (∀ i, i < n → (f i).1.toNat < S.length) → (∀ i j, i < n → j < n → i ≠ j → (f i).1.toNat ≠ (f j).1.toNat) → ∀ i, i < n → (flS S ((List.range n).map f)).getD (f i).1.toNat ap = (f i).2
 | 0, _, _, i, hi => by omega
 | n + 1, h1, h2, i, hi => by
  have e : flS S ((List.range (n + 1)).map f) = (flS S ((List.range n).map f)).set (f n).1.toNat (f n).2 := by
   rw [List.range_succ, List.map_append]
   unfold flS
   rw [List.foldl_append]
   rfl
  rw [e]
  by_cases hin : i = n
  ·subst hin
   rw [dd (by rw [fC]; exact h1 i (by omega))]
  ·rw [bN (h2 i n hi (by omega) hin)]
   exact flS_rng f S n (fun j hj => h1 j (by omega)) (fun j k hj hk => h2 j k (by omega) (by omega)) i (by omega)
theorem flS_zero {L : List (Int × Blk)} {j : Nat} (h : ∀ q ∈ L, q.2 = ap) : ∀ S : List Blk, S.getD j ap = ap → (flS S L).getD j ap = ap := by
 induction L with
 | nil => intro S e; exact e
 | cons q L ih =>
  intro S e
  refine ih (fun p hp => h p (List.mem_cons_of_mem _ hp)) (S.set q.1.toNat q.2) ?_
  by_cases hj : j = q.1.toNat
  ·subst hj
   by_cases hl : q.1.toNat < S.length
   ·rw [dd hl]; exact h q (List.mem_cons_self ..)
   ·rw [List.getD, List.getElem?_eq_none (by rw [List.length_set]; omega)]; rfl
  ·rw [bN hj]; exact e
end Go.Proofs.YtbbcdhkinbmdnaaGreatDoor
