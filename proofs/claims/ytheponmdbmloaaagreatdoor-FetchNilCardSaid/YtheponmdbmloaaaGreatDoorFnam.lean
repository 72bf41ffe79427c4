import Derived.Test.YtheponmdbmloaaaGreatDoorFnaf
import Derived.Test.YtheponmdbmloaaaGreatDoorFnab
import Derived.Test.YtheponmdbmloaaaGreatDoorFnal
import Derived.Test.YtheponmdbmloaaaGreatDoorFnaa
import Derived.Test.YtheponmdbmloaaaGreatDoorFnZ
namespace Go.Proofs.YtheponmdbmloaaaGreatDoor
open Go.RowKit
set_option linter.unusedVariables false
set_option maxRecDepth 100000
theorem room_of {M : BenS} {st : Nat} (hs : M.steps ≤ st) (hst : st ≤ 900000) (hl : M.left = 0) (hL : ∀ j, j < M.ds.length → (M.ds.getD j bm).L.length ≤ 1) : Room M 600 := by
  refine ⟨by omega, by rw [hl]; omega, fun d hd => ?_⟩
  obtain ⟨j, hj, e⟩ := List.getElem_of_mem hd
  have := hL j hj
  rw [List.getD, List.getElem?_eq_getElem hj, Option.getD_some, e] at this
  omega
def bx (a b : Blk) : Blk := Vector.zipWith (· ^^^ ·) a b
theorem xor_byt (a b : Blk) {j : Nat} (h : j < 64) : bits .xor .u8 (byt a j) (byt b j) = byt (bx a b) j := by
  rw [byt_get a h, byt_get b h, byt_get _ h]
  rw [u8_xor_nat _ _ (UInt8.toNat_lt _) (UInt8.toNat_lt _)]
  simp [bx]
set_option maxHeartbeats 800000 in
theorem xor_any (a b : Blk) (w : World) : Calls Tryz.prog 55 #[blk a, blk b] w fun e w' => e = .returned (blk (bx a b)) ∧ Below w.heap.size w w' := by
  obtain ⟨hA, hB, hR, hO, hb⟩ := laid4 w a b ao ao
  obtain ⟨w4, hw4⟩ : ∃ w4, four_ w a b ao ao = w4 := ⟨_, rfl⟩
  rw [hw4] at hA hB hR hO hb
  have HW := Lib.hid hw4
  have HA := Lib.hid hA
  have HB := Lib.hid hB
  have HR := Lib.hid hR
  have HX := Lib.hid (fun j (h : j < 64) => xor_byt a b h)
  clear hw4 hA hB hR
  go_enter Tryz.func55, Tryz.ntmps55
  go_wp2_with (first | (refine ah rfl (bJ rfl rfl) ?_) | (refine ah rfl (aR rfl) ?_))
  have hs := HW.out
  unfold four_ at hs
  rw [hs]
  clear hs HW
  generalize hsz : w.heap.size = s at *
  go_loopw [7] (fun i wr => ∃ (j : Nat) (f : Nat → Int), j ≤ 64 ∧ i = .int .i64 j ∧ wr.rowIs (s + 1 + 1 + 1) 38 64 (fun j => .int .u8 (f j)) ∧ (∀ m, m < j → f m = byt (bx a b) m) ∧ Below (s + 1 + 1 + 1) w4 wr) (fun i _ => 64 - (intOf i).toNat)
  case atStart => exact ⟨0, byt ao, by omega, rfl, hO, fun m hm => absurd hm (by omega), Below.refl _ _⟩
  case round =>
    obtain ⟨j, f, hj, rfl, hrow, hf, hbl⟩ := hrel
    have HF := Lib.hid hf
    clear hf hO
    by_cases hlt : j < 64
    · have hc1 := hrow.cell (i := j) (by omega)
      have hfr := hrow.frozen j
      have ha := cy HA.out (by omega) hbl j _ (cel_at a hlt)
      have hb' := cy HB.out (by omega) hbl j _ (cel_at b hlt)
      rw [Nat.zero_add] at ha hb'
      go_wp2_with fail
      go_still_tail 9, (by kernel_rfl)
      change wpList _ _ _ _ _ wr.drew
      go_wp2_with fail
      go_roundw
      case rel =>
        refine ⟨j + 1, upd f j (byt (bx a b) j), by omega, by go_num, ?_, ?_, bd (hbl.setCell (by simp) _)⟩
        · rw [HX.out j hlt]; exact row_put hrow _
        · intro m hm
          by_cases e : m = j
          · subst e; exact upd_at _ _ _
          · rw [upd_off _ _ e]; exact HF.out m (by omega)
      case measure => simp [intOf]; omega
    · have hj64 : j = 64 := by omega
      subst hj64
      have hr := range_row (c := bx a b) (o := 0) hrow (by omega) (fun m hm => by rw [Nat.zero_add]; exact HF.out m hm)
      have ht := bh HR.out (by omega) hbl
      go_wp2_with (first | (refine ah rfl (aV rfl rfl hr) ?_) | (refine aZ rfl (bc rfl rfl rfl ht) ?_))
      refine bodyPost_ret (res_blk rfl _ _ _ rfl (World.rangeAt_setCells_same _ _ _ _ (by rw [aw]; exact ht))) rfl ⟨rfl, ?_⟩
      rw [hsz]
      exact hb.trans (below_setCells (hbl.mono (by omega)) (by omega) _)
def fold (l : List Blk) : Blk := l.foldl bx ao
theorem fold_snoc {l : List Blk} {j : Nat} (h : j < l.length) : fold (l.take (j + 1)) = bx (fold (l.take j)) (l.getD j ao) := by
  unfold fold
  rw [List.take_add_one, List.getElem?_eq_getElem h, List.foldl_append, List.getD, List.getElem?_eq_getElem h]
  rfl
def two_ (w : World) (a b : Blk) : World := (w.alloc (.cells (cel a).toArray 38)).alloc (.cells (cel b).toArray 38)
theorem laid2 (w : World) (a b : Blk) : (two_ w a b).rangeAt w.heap.size 0 (cel a) ∧ (two_ w a b).there w.heap.size 0 64 ∧ (two_ w a b).rangeAt (w.heap.size + 1) 0 (cel b) ∧ (two_ w a b).there (w.heap.size + 1) 0 64 ∧ Below w.heap.size w (two_ w a b) ∧ (two_ w a b).heap.size = w.heap.size + 1 + 1 := by
  unfold two_
  have e1 := World.size_alloc (w := w) (o := Obj.cells (cel a).toArray 38)
  have e2 := World.size_alloc (w := (w.alloc (.cells (cel a).toArray 38))) (o := Obj.cells (cel b).toArray 38)
  refine ⟨World.rangeAt_alloc (bW w (cel a) _) _, World.there_alloc (c9 w a _) _, ?_, ?_, ?_, by rw [e2, e1]⟩
  · rw [← e1]; exact bW _ (cel b) _
  · rw [← e1]; exact c9 _ b _
  · exact ((Below.refl _ w).alloc (Nat.le_refl _) _).alloc (by omega) _
set_option maxHeartbeats 800000 in
theorem fold_any (A : Option Addr) (n c N : Nat) (l : List Blk) (w : World) (hl : RdB w N A n l) (hN : N ≤ w.heap.size) (hn : n ≤ maxLen) :
    Calls Tryz.prog 27 #[.slice A n c] w fun e w' => e = .returned (blk (fold l)) ∧ Below w.heap.size w w' := by
  unfold maxLen at hn
  obtain ⟨_, hR, hO, hOt, hb, hsize⟩ := laid2 w ao ao
  obtain ⟨w2, hw2⟩ : ∃ w2, two_ w ao ao = w2 := ⟨_, rfl⟩
  rw [hw2] at hR hO hOt hb hsize
  have HW := Lib.hid hw2
  have HR := Lib.hid hR
  have HS := Lib.hid hsize
  clear hw2 hR hsize
  go_enter Tryz.func27, Tryz.ntmps27
  go_wp2_with (first | (refine ah rfl (bJ rfl rfl) ?_) | (refine ah rfl (aR rfl) ?_))
  have hs := HW.out
  unfold two_ at hs
  rw [hs]
  clear hs HW
  generalize hsz : w.heap.size = s at *
  go_loopw [8] (fun i wr => ∃ j : Nat, j ≤ n ∧ i = .int .i64 j ∧ wr.rangeAt (s + 1) 0 (cel (fold (l.take j))) ∧ wr.there (s + 1) 0 64 ∧ wr.there s 0 64 ∧ Below s w wr ∧ s + 1 + 1 ≤ wr.heap.size) (fun i _ => n - (intOf i).toNat)
  case atStart => exact ⟨0, by omega, rfl, hO, hOt, HR.out, hb, Nat.le_of_eq HS.out.symm⟩
  case round =>
    clear hO hOt HR hb HS
    obtain ⟨j, hj, rfl, hO, hOt, hRt, hbl, hsz2⟩ := hrel
    have HO := Lib.hid hO
    have HOT := Lib.hid hOt
    have HRT := Lib.hid hRt
    clear hO hOt hRt
    by_cases hlt : j < n
    · obtain ⟨bA, oA, rfl, hA, cA⟩ := (hl.below (hbl.mono hN)).2 j hlt
      have HE := Lib.hid (fold_snoc (l := l) (j := j) (by have := hl.1; omega))
      generalize l.getD j ao = x at *
      have hO1 := World.rangeAt_alloc HO.out (.cells (cel x).toArray 38)
      have hX1 := bW wr (cel x) 38
      have hba : Below s w (wr.alloc (.cells (cel x).toArray 38)) := hbl.alloc (by omega) _
      have HX1 := Lib.hid hX1
      have HO1 := Lib.hid hO1
      clear hX1 hO1
      go_wp2_with (first | (refine ah rfl (aV rfl rfl cA) ?_) | (refine ah rfl (aR rfl) ?_) | (refine aZ rfl (exec_fill rfl rfl rfl) ?_) | (refine ah rfl (aV rfl rfl HO1.out) ?_) | (refine ah rfl (aV rfl rfl HX1.out) ?_))
      refine (xor_any _ _ _).mono ?_
      rintro e w1 ⟨rfl, hb1⟩
      rw [World.size_alloc] at hb1
      have hOt1 := bh (World.there_alloc HOT.out (.cells (cel x).toArray 38)) (by omega) hb1
      go_wp2_with (first | (refine aZ rfl (bc rfl rfl rfl hOt1) ?_))
      go_roundw
      case rel =>
        refine ⟨j + 1, by omega, by go_num, ?_, World.there_setCells hOt1 _ _ _, World.there_setCells (bh (World.there_alloc HRT.out _) (by omega) hb1) _ _ _, ?_, ?_⟩
        · rw [HE.out]; exact World.rangeAt_setCells_same _ _ _ _ (by rw [aw]; exact hOt1)
        · exact below_setCells (hba.trans (hb1.mono (by omega))) (by omega) _
        · rw [(cW _ _ _ _).1]
          have := hb1.size
          rw [World.size_alloc] at this
          omega
      case measure => simp [intOf]; omega
    · have hjn : j = n := by omega
      subst hjn
      have hfl : l.take j = l := List.take_of_length_le (Nat.le_of_eq hl.1)
      rw [hfl] at HO
      go_wp2_with (first | (refine ah rfl (aV rfl rfl HO.out) ?_) | (refine aZ rfl (bc rfl rfl rfl HRT.out) ?_))
      refine bodyPost_ret (res_blk rfl _ _ _ rfl (World.rangeAt_setCells_same _ _ _ _ (by rw [aw]; exact HRT.out))) rfl ⟨rfl, ?_⟩
      rw [hsz]
      exact below_setCells hbl (Nat.le_refl _) _
theorem bx_get (a b : Blk) (i : Nat) (h : i < 64) : (bx a b)[i] = a[i] ^^^ b[i] := by simp [bx]
theorem zero_get (i : Nat) (h : i < 64) : ao[i] = 0 := by simp [ao]
theorem bx_comm (a b : Blk) : bx a b = bx b a := Vector.ext fun i h => by rw [bx_get, bx_get, UInt8.xor_comm]
theorem dB (a b c : Blk) : bx (bx a b) c = bx a (bx b c) := Vector.ext fun i h => by rw [bx_get, bx_get, bx_get, bx_get, UInt8.xor_assoc]
theorem bx_zero (a : Blk) : bx a ao = a := Vector.ext fun i h => by rw [bx_get, zero_get, UInt8.xor_zero]
theorem zero_bx (a : Blk) : bx ao a = a := by rw [bx_comm, bx_zero]
theorem bx_self (a : Blk) : bx a a = ao := Vector.ext fun i h => by rw [bx_get, zero_get, UInt8.xor_self]
theorem bx_left (a b c : Blk) : bx a (bx b c) = bx b (bx a c) := by rw [← dB, bx_comm a b, dB]
theorem bx_cancel (a b : Blk) : bx a (bx a b) = b := by rw [← dB, bx_self, zero_bx]
theorem bx_eq_zero (a b : Blk) : bx a b = ao ↔ a = b := by
  constructor
  · intro h
    have := congrArg (bx a) h
    rw [bx_cancel, bx_zero] at this
    exact this.symm
  · rintro rfl
    exact bx_self _
theorem foldl_bx (l : List Blk) (a : Blk) : l.foldl bx a = bx a (fold l) := by
  unfold fold
  induction l generalizing a with
  | nil => simp [bx_zero]
  | cons x l ih => rw [List.foldl_cons, List.foldl_cons, ih, ih (bx ao x), zero_bx, dB]
theorem fold_nil : fold [] = ao := rfl
theorem fold_cons (x : Blk) (l : List Blk) : fold (x :: l) = bx x (fold l) := by
  show (x :: l).foldl bx ao = _
  rw [List.foldl_cons, foldl_bx, zero_bx]
theorem fold_append (a b : List Blk) : fold (a ++ b) = bx (fold a) (fold b) := by
  show (a ++ b).foldl bx ao = _
  rw [List.foldl_append, foldl_bx]
  rfl
theorem fold_erase (l : List Blk) (k : Nat) : fold (l.eraseIdx k) = bx (fold (l.take k)) (fold (l.drop (k + 1))) := by
  rw [List.eraseIdx_eq_take_drop_succ, fold_append]
theorem mis_row {l : List Blk} (h : fold l = ao) {k : Nat} (hk : k < l.length) : fold (l.eraseIdx k) = l.getD k ao := by
  rw [fold_erase]
  have h1 : l = l.take k ++ (l.getD k ao :: l.drop (k + 1)) := by
    rw [List.getD, List.getElem?_eq_getElem hk, Option.getD_some, List.getElem_cons_drop, List.take_append_drop]
  rw [h1, fold_append, fold_cons, bx_left] at h
  exact ((bx_eq_zero _ _).1 h).symm
def ftK (s sk no : Int) : Nat → Nat → HuS → Blk → Int × Blk × HuS
  | 0, _, h, x => (0, x, h)
  | k + 1, i, h, x =>
    if (i : Int) = sk then ftK s sk no k (i + 1) h x
    else if bZ h s i = 0 then ftK s sk no k (i + 1) (hrdS h s i) (bx x (hrdB h s i))
    else (if bZ h s i = 7 then no else bZ h s i, ao, hrdS h s i)
def HRm (h : HuS) : Prop := Room h.M 600 ∧ h.ev ≤ 4611686018427387000
def ftP (s sk : Int) : Nat → Nat → HuS → Prop
  | 0, _, _ => True
  | k + 1, i, h => if (i : Int) = sk then ftP s sk k (i + 1) h else HRm h ∧ hrdK h s i ∧ (bZ h s i = 0 → ftP s sk k (i + 1) (hrdS h s i))
def ftcF (h : HuS) (s m : Int) : Int × Blk × HuS := if bZ h s m = 7 then ftK s m 16 h.R.m.toNat 0 (hrdS h s m) ao else (bZ h s m, hrdB h s m, hrdS h s m)
def ftcP (h : HuS) (s m : Int) : Prop := HRm h ∧ hrdK h s m ∧ (bZ h s m = 7 → ftP s m h.R.m.toNat 0 (hrdS h s m))
def ftsK (s : Int) : Nat → Nat → HuS → List Blk → Int × List Blk × HuS
  | 0, _, h, l => (0, l, h)
  | k + 1, i, h, l => if (ftcF h s i).1 = 0 then ftsK s k (i + 1) (ftcF h s i).2.2 (l ++ [(ftcF h s i).2.1]) else ((ftcF h s i).1, [], (ftcF h s i).2.2)
def ftsQ (s : Int) : Nat → Nat → HuS → Prop
  | 0, _, _ => True
  | k + 1, i, h => ftcP h s i ∧ ((ftcF h s i).1 = 0 → ftsQ s k (i + 1) (ftcF h s i).2.2)
def strQ (h : HuS) (s : Int) : Bool := decide (0 ≤ s ∧ s < h.R.s)
def ftsF (h : HuS) (s : Int) : Int × List Blk × HuS := if strQ h s = true then ftsK s h.R.m.toNat 0 h [] else (2, [], h)
def ftsP (h : HuS) (s : Int) : Prop := HRm h ∧ (strQ h s = true → ftsQ s h.R.m.toNat 0 h)
def ftqF (h : HuS) (s : Int) : Int × Bool × HuS :=
  if strQ h s = true then ((ftK s (-1) 17 h.R.m.toNat 0 h ao).1, decide ((ftK s (-1) 17 h.R.m.toNat 0 h ao).1 = 0) && decide ((ftK s (-1) 17 h.R.m.toNat 0 h ao).2.1 = ao), (ftK s (-1) 17 h.R.m.toNat 0 h ao).2.2) else (2, false, h)
def ftqP (h : HuS) (s : Int) : Prop := HRm h ∧ (strQ h s = true → ftP s (-1) h.R.m.toNat 0 h)
def accK (l : List Blk) (sk : Int) : Nat → Nat → Blk → Blk
  | 0, _, x => x
  | k + 1, i, x => if (i : Int) = sk then accK l sk k (i + 1) x else accK l sk k (i + 1) (bx x (l.getD i ao))
section
variable {l : List Blk} {sk : Int}
theorem drop_getD {i : Nat} (h : i < l.length) : l.drop i = l.getD i ao :: l.drop (i + 1) := by
  rw [List.drop_eq_getElem_cons h, List.getD, List.getElem?_eq_getElem h]; rfl
theorem acc_all : ∀ (k i : Nat) (x : Blk), i + k = l.length → (sk < i ∨ (l.length : Int) ≤ sk) → accK l sk k i x = bx x (fold (l.drop i))
  | 0, i, x, h, _ => by rw [accK, List.drop_eq_nil_of_le (by omega), fold_nil, bx_zero]
  | k + 1, i, x, h, hs => by
    rw [accK, if_neg (by omega), acc_all k (i + 1) _ (by omega) (by omega), drop_getD (i := i) (by omega), fold_cons, dB]
theorem acc_skip {d : Nat} (hd : d < l.length) : ∀ (k i : Nat) (x : Blk), i + k = l.length → i ≤ d → accK l (d : Int) k i x = bx x (bx (fold ((l.take d).drop i)) (fold (l.drop (d + 1))))
  | 0, i, x, h, hi => absurd h (by omega)
  | k + 1, i, x, h, hi => by
    rw [accK]
    by_cases e : i = d
    · subst e
      have e0 : (l.take i).drop i = [] := List.drop_eq_nil_of_le (by rw [List.length_take]; omega)
      rw [if_pos rfl, acc_all k (i + 1) x (by omega) (by omega), e0, fold_nil, zero_bx]
    · rw [if_neg (by omega), acc_skip hd k (i + 1) _ (by omega) (by omega)]
      have h1 : (l.take d).drop i = l.getD i ao :: (l.take d).drop (i + 1) := by
        rw [drop_getD (l := l.take d) (i := i) (by rw [List.length_take]; omega)]
        congr 1
        rw [List.getD, List.getElem?_take_of_lt (by omega)]
        rfl
      rw [h1, fold_cons, dB, dB]
theorem acc_fold {k : Nat} (h : k = l.length) : accK l (-1) k 0 ao = fold l := by
  rw [acc_all k 0 ao (by omega) (by omega), List.drop_zero, zero_bx]
theorem acc_erase {d k : Nat} (h : k = l.length) (hd : d < l.length) : accK l (d : Int) k 0 ao = fold (l.eraseIdx d) := by
  rw [acc_skip hd k 0 ao (by omega) (by omega), List.drop_zero, zero_bx, fold_erase]
end
structure StO (N T s : Nat) (l : List Blk) (dead : Nat → Bool) (st : Nat) (M : BenS) : Prop where
  bV : M.bV = false
  left : M.left = 0
  len : M.ds.length = N + 1
  steps : M.steps ≤ st
  g : ∀ j, j < N → (M.ds.getD j bm).g = dead j
  sl : ∀ j, j < N → (M.ds.getD j bm).S.length = 2 + T
  nn : ∀ j, j < N → ∀ q ∈ (M.ds.getD j bm).L, 0 ≤ q.1
  ll : ∀ j, j < N + 1 → (M.ds.getD j bm).L.length ≤ 1
  vw : ∀ j, j < N → dead j = false → vw (M.ds.getD j bm) (2 + s) = l.getD j ao
section
variable {N T s st : Nat} {l : List Blk} {dead : Nat → Bool} {M M' : BenS} {R : Ros}
theorem StO.liv (h : StO N T s l dead st M) {j : Nat} (hj : j < N) (hd : dead j = false) : Liv M j (M.ds.getD j bm) := ⟨h.bV, h.left, by rw [h.len]; omega, rfl, by rw [h.g j hj, hd], h.nn j hj⟩
theorem StO.vok (h : StO N T s l dead st M) (hR : R.m = (N : Int)) (hs : ∀ j, j < N → sta R j ≠ 1 → dead j = false) : VOk R M := by
  have hN : R.m.toNat = N := by rw [hR]; rfl
  refine ⟨h.bV, h.left, by rw [hN, h.len]; omega, fun j hj hl => ?_⟩
  rw [hN] at hj
  exact ⟨by rw [h.g j hj]; exact hs j hj hl, by rw [h.sl j hj]; omega, h.nn j hj⟩
theorem StO.lik {st' : Nat} (h : StO N T s l dead st M) (hs : s < T) (k : VLik M M') (hv : VOk R M') (hst : M'.steps ≤ st') : StO N T s l dead st' M' :=
  ⟨hv.bV, hv.left, by rw [k.len, h.len], hst, fun j hj => by rw [k.gs j, h.g j hj], fun j hj => by rw [k.sl j, h.sl j hj], fun j hj => k.nn j (h.nn j hj), fun j hj => Nat.le_trans (k.ll j) (h.ll j hj), fun j hj hd => by rw [k.vw j (2 + s) (by omega) (by rw [h.sl j hj]; omega), h.vw j hj hd]⟩
theorem StO.fail (h : StO N T s l dead st M) {d : Nat} (hd : d < N) : hasE M d = 0 ∧ StO N T s l (fun j => dead j || decide (j = d)) st (faS6 M d) := by
  have hl : d < M.ds.length := by rw [h.len]; omega
  have e : faS6 M (d : Int) = M.put d ⟨(M.ds.getD d bm).S, [], true⟩ := by
    unfold faS6
    rw [if_pos (hasE_ok hl)]
    rfl
  have hat : ∀ j, (M.put d ⟨(M.ds.getD d bm).S, [], true⟩).ds.getD j bm = if j = d then ⟨(M.ds.getD d bm).S, [], true⟩ else M.ds.getD j bm := fun j => setD _ _ _ _ _ hl
  refine ⟨hasE_ok hl, ?_⟩
  rw [e]
  refine ⟨h.bV, h.left, by show (M.ds.set d _).length = _; rw [List.length_set, h.len], h.steps, fun j hj => ?_, fun j hj => ?_, fun j hj => ?_, fun j hj => ?_, fun j hj hd' => ?_⟩
  · rw [hat j]
    by_cases ej : j = d
    · rw [if_pos ej, decide_eq_true ej, Bool.or_true]
    · rw [if_neg ej, decide_eq_false ej, Bool.or_false, h.g j hj]
  · rw [hat j]
    by_cases ej : j = d
    · rw [if_pos ej]; exact h.sl d hd
    · rw [if_neg ej]; exact h.sl j hj
  · rw [hat j]
    by_cases ej : j = d
    · rw [if_pos ej]; exact fun q hq => by cases hq
    · rw [if_neg ej]; exact h.nn j hj
  · rw [hat j]
    by_cases ej : j = d
    · rw [if_pos ej]; exact Nat.zero_le _
    · rw [if_neg ej]; exact h.ll j hj
  · simp only [Bool.or_eq_false_iff, decide_eq_false_iff_not] at hd'
    rw [hat j, if_neg hd'.2]
    exact h.vw j hj hd'.1
theorem StO.room (h : StO N T s l dead st M) (hst : st ≤ 900000) : Room M 600 := room_of h.steps hst h.left fun j hj => h.ll j (by rw [h.len] at hj; exact hj)
theorem StO.new (N T s : Nat) (l : List Blk) : StO N T s (l.take 0) (fun _ => false) 0 (newS6 (szK N (T : Int))) := by
  have hat : ∀ j, j < N → (newS6 (szK N (T : Int))).ds.getD j bm = ⟨List.replicate (2 + T) ao, [], false⟩ := fun j hj => by
    rw [newK_at hj, show (2 + (T : Int)).toNat = 2 + T by omega]
  refine ⟨rfl, rfl, newK_len, Nat.le_refl _, fun j hj => by rw [hat j hj], fun j hj => by rw [hat j hj]; exact List.length_replicate, fun j hj => by rw [hat j hj]; exact fun q hq => (by cases hq), fun j hj => ?_, fun j hj _ => ?_⟩
  · rw [dJ, List.getD, List.getElem?_map]
    cases (szK N (T : Int))[j]? <;> exact Nat.zero_le _
  · rw [hat j hj, vw_nil]
    simp only [List.getD, List.getElem?_replicate, List.take_zero, List.getElem?_nil]
    split <;> rfl
structure Fws (N T s : Nat) (l : List Blk) (k : Nat) (h : HuS) : Prop where
  id : h.id = 9
  ev : h.ev = 0
  R : h.R = neR N (T : Int)
  M : StO N T s (l.take k) (fun _ => false) k h.M
  no : ∀ j, k ≤ j → j < N → (h.M.ds.getD j bm).L = []
theorem fws_step (hs : s < T) {k : Nat} {h : HuS} (f : Fws N T s l k h) (hk : k < N) (hkl : k < l.length) (hp : Plc h.R s k) (hb : hasB h.R k s = true) :
    hwrE h s k (l.getD k ao) = 0 ∧ Fws N T s l (k + 1) (hwrS h s k (l.getD k ao)) := by
  have hlv := f.M.liv hk rfl
  have hsl := f.M.sl k hk
  have hno := f.no k (Nat.le_refl _) hk
  obtain ⟨e1, e2⟩ := hwr_ok hp hb hlv (by rw [hsl]; omega) (l.getD k ao)
  refine ⟨e1, ?_⟩
  rw [e2]
  have hlt : k < h.M.ds.length := by rw [f.M.len]; omega
  obtain ⟨x, hx⟩ : ∃ x, h.M.ds.getD k bm = x := ⟨_, rfl⟩
  rw [hx] at hsl hno ⊢
  have hat : ∀ j, (h.M.done.put k ⟨x.S, x.L ++ [(((2 + s : Nat) : Int), l.getD k ao)], false⟩).ds.getD j bm = if j = k then ⟨x.S, x.L ++ [(((2 + s : Nat) : Int), l.getD k ao)], false⟩ else h.M.ds.getD j bm := fun j => setD _ _ _ _ _ hlt
  refine ⟨f.id, f.ev, f.R, ⟨f.M.bV, by show h.M.left - 1 = 0; rw [f.M.left], by show (h.M.ds.set k _).length = _; rw [List.length_set, f.M.len], by show h.M.steps + 1 ≤ _; have := f.M.steps; omega, fun j hj => ?_, fun j hj => ?_, fun j hj => ?_, fun j hj => ?_, fun j hj _ => ?_⟩, fun j hj hjN => ?_⟩
  · rw [hat j]
    by_cases e : j = k
    · rw [if_pos e]
    · rw [if_neg e]; exact f.M.g j hj
  · rw [hat j]
    by_cases e : j = k
    · rw [if_pos e]; exact hsl
    · rw [if_neg e]; exact f.M.sl j hj
  · rw [hat j]
    by_cases e : j = k
    · rw [if_pos e]
      show ∀ q ∈ x.L ++ [(((2 + s : Nat) : Int), l.getD k ao)], 0 ≤ q.1
      rw [hno]
      intro q hq
      simp only [List.nil_append, List.mem_singleton] at hq
      subst hq
      exact Int.natCast_nonneg _
    · rw [if_neg e]; exact f.M.nn j hj
  · rw [hat j]
    by_cases e : j = k
    · rw [if_pos e]
      show (x.L ++ [(((2 + s : Nat) : Int), l.getD k ao)]).length ≤ 1
      rw [hno]
      exact Nat.le_refl _
    · rw [if_neg e]; exact f.M.ll j hj
  · rw [hat j]
    by_cases e : j = k
    · subst e
      rw [if_pos rfl, vw_app, if_pos rfl]
      simp only [List.getD]
      rw [List.getElem?_take_of_lt (by omega)]
    · rw [if_neg e, f.M.vw j hj rfl]
      simp only [List.getD]
      by_cases e2 : j < k
      · rw [List.getElem?_take_of_lt e2, List.getElem?_take_of_lt (by omega)]
      · rw [List.getElem?_eq_none (by rw [List.length_take]; omega), List.getElem?_eq_none (by rw [List.length_take]; omega)]
  · rw [hat j, if_neg (by omega)]
    exact f.no j (by omega) hjN
theorem ft_run {h : HuS} {no sk : Int} (hM : StO N T s l dead st h.M) (hs : s < T) (hl : l.length = N) (hr : HRm h) : ∀ (k i : Nat) (x : Blk), i + k = N →
    (∀ j, i ≤ j → j < N → (j : Int) ≠ sk → Plc h.R s j ∧ hasB h.R j s = true ∧ dead j = false) → ftK s sk no k i h x = (0, accK l sk k i x, h) ∧ ftP s sk k i h
  | 0, i, x, _, _ => ⟨rfl, trivial⟩
  | k + 1, i, x, hk, hj => by
    by_cases e : (i : Int) = sk
    · obtain ⟨h1, h2⟩ := ft_run hM hs hl hr k (i + 1) x (by omega) (fun j h3 h4 h5 => hj j (by omega) h4 h5)
      exact ⟨by rw [ftK, if_pos e, h1, accK, if_pos e], by rw [ftP, if_pos e]; exact h2⟩
    · obtain ⟨a1, a2, a3⟩ := hj i (Nat.le_refl _) (by omega) e
      obtain ⟨b1, b2, b3⟩ := hrd_ok a1 a2 (hM.liv (by omega) a3) (by rw [hM.sl i (by omega)]; omega)
      rw [hM.vw i (by omega) a3] at b2
      obtain ⟨h1, h2⟩ := ft_run hM hs hl hr k (i + 1) (bx x (l.getD i ao)) (by omega) (fun j h3 h4 h5 => hj j (by omega) h4 h5)
      exact ⟨by rw [ftK, if_neg e, if_pos b1, b2, b3, h1, accK, if_neg e], by rw [ftP, if_neg e]; exact ⟨hr, hrdK_is b1 (by decide) (by decide), fun _ => by rw [b3]; exact h2⟩⟩
theorem ftc_dead {h : HuS} {m : Nat} (hM : StO N T s l dead st h.M) (hs : s < T) (hl : l.length = N) (hf : fold l = ao) (hst : st + 100 ≤ 900000) (hev : h.ev < 1000) (hm : m < N) (hN : h.R.m = (N : Int)) (hN6 : N ≤ 6) (hp : Plc h.R s m) (hb : hasB h.R m s = true) (hd : dead m = true)
    (hm1 : (bl h.R m).m = (N : Int)) (hs1 : ∀ j, j < N → sta (bl h.R m) j ≠ 1 → dead j = false) (hf1 : faiH (bl h.R m) = false)
    (hj : ∀ j, j < N → j ≠ m → Plc (bl h.R m) s j ∧ hasB (bl h.R m) j s = true ∧ dead j = false) :
    ∃ M', ftcF h s m = (0, l.getD m ao, ⟨M', h.id, h.ev + 1, bl h.R m⟩) ∧ ftcP h s m ∧ StO N T s l dead (st + 100) M' := by
  have hv := hM.vok hm1 hs1
  have hr : HRm h := ⟨hM.room (by omega), by omega⟩
  obtain ⟨M', b1, b2, b3, b4, b5, b6⟩ := hrd_ded hp hb hM.bV (by rw [hM.len]; omega) (by rw [hM.g m hm, hd]) (by rw [hM.sl m hm]; omega) hv
  rw [hf1, if_neg (by decide)] at b1
  have hn : h.R.m.toNat = N := by rw [hN]; rfl
  have hM' : StO N T s l dead (st + 100) M' := hM.lik hs b5 b4 (by have := hM.steps; rw [hm1] at b6; omega)
  have hr' : HRm ⟨M', h.id, h.ev + 1, bl h.R m⟩ := ⟨hM'.room hst, by show h.ev + 1 ≤ _; omega⟩
  obtain ⟨r1, r2⟩ := ft_run (h := ⟨M', h.id, h.ev + 1, bl h.R m⟩) (no := 16) (sk := (m : Int)) hM' hs hl hr' N 0 ao (by omega) (fun j _ h4 h5 => hj j h4 (by omega))
  rw [acc_erase hl.symm (by omega), mis_row hf (by omega)] at r1
  exact ⟨M', by unfold ftcF; rw [if_pos b1, b3, hn, r1], ⟨hr, hrdK_is b1 (by decide) (by decide), fun _ => by rw [b3, hn]; exact r2⟩, hM'⟩
end
def rosQ (T N d s m : Nat) : Bool :=
  plcH (neR N (T : Int)) s m && (!faiH (neR N (T : Int)) && (hasB (neR N (T : Int)) m s && (decide ((bl (neR N (T : Int)) d).m = (N : Int)) && (plcH (bl (neR N (T : Int)) d) s m && (!faiH (bl (neR N (T : Int)) d) && ((hasB (bl (neR N (T : Int)) d) m s == !(m == d)) && (decide (sta (bl (neR N (T : Int)) d) m = 1) == (m == d))))))))
def rosC (T : Nat) : Bool := (List.range 4).all fun a => (List.range (3 + a)).all fun d => (List.range T).all fun s => (List.range (3 + a)).all fun m => rosQ T (3 + a) d s m
theorem rosC4 : rosC 4 = true := by decide +kernel
structure Ro1 (T N d s m : Nat) : Prop where
  p0 : Plc (neR N (T : Int)) s m
  b0 : hasB (neR N (T : Int)) m s = true
  m1 : (bl (neR N (T : Int)) d).m = (N : Int)
  p1 : Plc (bl (neR N (T : Int)) d) s m
  b1 : hasB (bl (neR N (T : Int)) d) m s = !(m == d)
  s1 : sta (bl (neR N (T : Int)) d) m = 1 ↔ m = d
theorem ro1_of {T N d s m : Nat} (hT : rosC T = true) (h1 : 3 ≤ N) (h2 : N ≤ 6) (hd : d < N) (hs : s < T) (hm : m < N) : Ro1 T N d s m := by
  obtain ⟨a, rfl⟩ : ∃ a, N = 3 + a := ⟨N - 3, by omega⟩
  unfold rosC at hT
  have e := List.all_eq_true.1 hT a (List.mem_range.2 (by omega))
  have e := List.all_eq_true.1 e d (List.mem_range.2 hd)
  have e := List.all_eq_true.1 e s (List.mem_range.2 hs)
  have e := List.all_eq_true.1 e m (List.mem_range.2 hm)
  unfold rosQ at e
  simp only [Bool.and_eq_true, Bool.not_eq_true', decide_eq_true_eq, beq_iff_eq] at e
  obtain ⟨e1, e2, e3, e4, e5, e6, e7, e8⟩ := e
  refine ⟨⟨e1, e2⟩, e3, e4, ⟨e5, e6⟩, e7, ?_⟩
  constructor
  · intro h
    rw [decide_eq_true h] at e8
    exact beq_iff_eq.1 e8.symm
  · intro h
    rw [beq_iff_eq.2 h] at e8
    exact of_decide_eq_true e8
section
variable {N T s st : Nat} {l : List Blk} {dead : Nat → Bool} {h h' : HuS}
theorem sound_ok (hT : rosC T = true) (h1 : 3 ≤ N) (h2 : N ≤ 6) (hs : s < T) (hl : l.length = N) (hf : fold l = ao) (hM : StO N T s l (fun _ => false) st h.M) (hR : h.R = neR N (T : Int)) (hr : HRm h) : ftqF h s = (0, true, h) ∧ ftqP h s := by
  have hn : h.R.m.toNat = N := by rw [hR]; exact neR_m N _
  have hq : strQ h s = true := by unfold strQ; rw [hR]; exact decide_eq_true ⟨by omega, by show (s : Int) < (T : Int); omega⟩
  obtain ⟨r1, r2⟩ := ft_run (no := 17) (sk := -1) hM hs hl hr N 0 ao (by omega) (fun j _ h4 _ => by
    have := ro1_of (s := s) (m := j) (d := 0) hT h1 h2 (by omega) hs h4
    rw [hR]
    exact ⟨this.p0, this.b0, rfl⟩)
  rw [acc_fold hl.symm, hf] at r1
  constructor
  · unfold ftqF
    rw [if_pos hq, hn, r1]
    simp
  · refine ⟨hr, fun _ => ?_⟩
    rw [hn]
    exact r2
theorem fws_new (N T s : Nat) (l : List Blk) : Fws N T s l 0 ⟨newS6 (szK N (T : Int)), 9, 0, neR N (T : Int)⟩ :=
  ⟨rfl, rfl, rfl, StO.new N T s l, fun j _ hj => by rw [newK_at hj]⟩
theorem fws_wr (hT : rosC T = true) (h1 : 3 ≤ N) (h2 : N ≤ 6) (hs : s < T) {k : Nat} (f : Fws N T s l k h) (hk : k < N) (hkl : k < l.length) : hwrE h s k (l.getD k ao) = 0 ∧ Fws N T s l (k + 1) (hwrS h s k (l.getD k ao)) ∧ HRm h := by
  have ro := ro1_of (s := s) (m := k) (d := 0) hT h1 h2 (by omega) hs hk
  obtain ⟨e1, e2⟩ := fws_step hs f hk hkl (by rw [f.R]; exact ro.p0) (by rw [f.R]; exact ro.b0)
  exact ⟨e1, e2, f.M.room (by omega), by rw [f.ev]; omega⟩
theorem Fws.all (f : Fws N T s l N h) (hl : l.length = N) : StO N T s l (fun _ => false) N h.M := by
  have := f.M
  rwa [List.take_of_length_le (by omega)] at this
theorem Fws.rm (f : Fws N T s l N h) (hN : N ≤ 6) : HRm h := ⟨f.M.room (by omega), by rw [f.ev]; omega⟩
theorem Fws.fail (f : Fws N T s l N h) (hl : l.length = N) {d : Nat} (hd : d < N) : hasE h.M d = 0 ∧ StO N T s l (fun j => decide (j = d)) N (faS6 h.M d) := by
  obtain ⟨e1, e2⟩ := (f.all hl).fail hd
  refine ⟨e1, ?_⟩
  have : (fun j => false || decide (j = d)) = (fun j => decide (j = d)) := funext fun j => Bool.false_or _
  rwa [this] at e2
theorem lvF_ros : faiH (bl (bl (neR 3 4) 1) 0) = true ∧ (bl (bl (neR 3 4) 1) 0).m = 3 ∧ (∀ j, j < 3 → sta (bl (bl (neR 3 4) 1) 0) j ≠ 1 → j = 2) := by
  refine ⟨by decide +kernel, by decide +kernel, fun j hj h => ?_⟩
  rcases (show j = 0 ∨ j = 1 ∨ j = 2 by omega) with rfl | rfl | rfl
  · exact absurd (show sta (bl (bl (neR 3 4) 1) 0) 0 = 1 by decide +kernel) h
  · exact absurd (show sta (bl (bl (neR 3 4) 1) 0) 1 = 1 by decide +kernel) h
  · rfl
theorem lvF (l : List Blk) (hl : l.length = 3) (hf : fold l = ao) (f : Fws 3 4 0 l 3 h) : ∃ h2 M4,
    (ftqF h 0 = (0, true, h) ∧ ftqP h 0) ∧ (hasE h.M 1 = 0 ∧ Room h.M 600) ∧ (ftcF { h with M := faS6 h.M 1 } 0 1 = (0, l.getD 1 ao, h2) ∧ ftcP { h with M := faS6 h.M 1 } 0 1) ∧ (ftqF h2 0 = (17, false, h2) ∧ ftqP h2 0) ∧ (hasE h2.M 0 = 0 ∧ Room h2.M 600) ∧
    (ftcF { h2 with M := faS6 h2.M 0 } 0 1 = (16, ao, ⟨M4, h2.id, h2.ev + 1, bl h2.R 0⟩) ∧ ftcP { h2 with M := faS6 h2.M 0 } 0 1) := by
  have hT := rosC4
  have hr := f.rm (by omega)
  have so := sound_ok hT (Nat.le_refl 3) (by omega) (by omega) hl hf (f.all hl) f.R hr
  have ro : ∀ j, j < 3 → Ro1 4 3 1 0 j := fun j hj => ro1_of hT (by omega) (by omega) (by omega) (by omega) hj
  obtain ⟨e1, hM1⟩ := f.fail hl (d := 1) (by omega)
  have hbf : ∀ j, j ≠ 1 → decide (j = 1) = false := fun j hj => decide_eq_false hj
  obtain ⟨M2, c1, c2, c3⟩ := ftc_dead (h := { h with M := faS6 h.M 1 }) (m := 1) hM1 (by omega) hl hf (by omega) (by show h.ev < _; rw [f.ev]; omega) (by omega) (by show h.R.m = _; rw [f.R]; rfl) (by omega) (by show Plc h.R 0 1; rw [f.R]; exact (ro 1 (by omega)).p0) (by show hasB h.R _ _ = true; rw [f.R]; exact (ro 1 (by omega)).b0) (decide_eq_true rfl)
    (by show (bl h.R _).m = _; rw [f.R]; exact (ro 1 (by omega)).m1) (fun j hj hs1 => hbf j fun e => hs1 (by show sta (bl h.R _) j = 1; rw [f.R]; exact (ro j hj).s1.2 e)) (by show faiH (bl h.R _) = false; rw [f.R]; exact (ro 1 (by omega)).p1.f)
    (fun j hj hne => by show Plc (bl h.R _) 0 j ∧ hasB (bl h.R _) j _ = true ∧ _; rw [f.R]; exact ⟨(ro j hj).p1, by have := (ro j hj).b1; rw [beq_false_of_ne hne] at this; exact this, hbf j hne⟩)
  have hrF : HRm { h with M := faS6 h.M 1 } := ⟨hM1.room (by omega), by show h.ev ≤ _; rw [f.ev]; omega⟩
  obtain ⟨h2, hh2⟩ : ∃ h2, (⟨M2, h.id, h.ev + 1, bl h.R (1 : Nat)⟩ : HuS) = h2 := ⟨_, rfl⟩
  have c1' : ftcF { h with M := faS6 h.M 1 } 0 1 = (0, l.getD 1 ao, h2) := by rw [← hh2]; exact c1
  have g1 : h2.ev = 1 := by rw [← hh2]; show h.ev + 1 = 1; rw [f.ev]
  have g2 : h2.R = bl (neR 3 4) 1 := by rw [← hh2]; show bl h.R _ = _; rw [f.R]; rfl
  have g3 : StO 3 4 0 l (fun j => decide (j = 1)) 103 h2.M := by rw [← hh2]; exact c3
  have hr2 : HRm h2 := ⟨g3.room (by omega), by rw [g1]; omega⟩
  have hn2 : h2.R.m.toNat = 3 := by rw [g2]; decide +kernel
  have hq2 : strQ h2 0 = true := by unfold strQ; rw [g2]; decide +kernel
  have r0 := hrd_ok (h := h2) (s := 0) (m := 0) (by rw [g2]; exact (ro 0 (by omega)).p1) (by rw [g2]; exact (ro 0 (by omega)).b1) (g3.liv (by omega) (hbf 0 (by omega))) (by rw [g3.sl 0 (by omega)]; omega)
  have r1 := hrd_none (h := h2) (s := 0) (m := 1) (by rw [g2]; exact (ro 1 (by omega)).p1) (by rw [g2]; exact (ro 1 (by omega)).b1)
  have k1 : ∀ x, ftK 0 (-1) 17 3 0 h2 x = (17, ao, h2) := fun x => by
    have a0 : bZ h2 0 ((0 : Nat) : Int) = 0 := r0.1
    have a1 : hrdS h2 0 ((0 : Nat) : Int) = h2 := r0.2.2
    have a2 : bZ h2 0 ((0 + 1 : Nat) : Int) = 7 := r1.1
    have a3 : hrdS h2 0 ((0 + 1 : Nat) : Int) = h2 := r1.2.2
    rw [ftK, if_neg (by decide), if_pos a0, a1, ftK, if_neg (by decide), if_neg (by rw [a2]; decide), if_pos a2, a3]
  obtain ⟨e3, hM3⟩ := g3.fail (d := 0) (by omega)
  have hv3 := hM3.vok (R := bl (bl (neR 3 4) 1) 0) lvF_ros.2.1 (fun j hj hs => by have := lvF_ros.2.2 j hj hs; subst this; rfl)
  obtain ⟨h3, hh3⟩ : ∃ h3, ({ h2 with M := faS6 h2.M 0 } : HuS) = h3 := ⟨_, rfl⟩
  have m3 : h3.M = faS6 h2.M (0 : Nat) := by rw [← hh3]; rfl
  have R3 : h3.R = bl (neR 3 4) 1 := by rw [← hh3]; exact g2
  have v3 : h3.ev = 1 := by rw [← hh3]; exact g1
  rw [← m3] at hM3 hv3
  have p1 := hrd_none (h := h3) (s := 0) (m := 1) (by rw [R3]; exact (ro 1 (by omega)).p1) (by rw [R3]; exact (ro 1 (by omega)).b1)
  obtain ⟨M4, d1, d2, d3, _⟩ := hrd_ded (h := h3) (s := 0) (m := 0) (by rw [R3]; exact (ro 0 (by omega)).p1) (by rw [R3]; exact (ro 0 (by omega)).b1) hM3.bV (by rw [hM3.len]; omega) (by rw [hM3.g 0 (by omega)]; rfl) (by rw [hM3.sl 0 (by omega)]; omega) (by rw [R3]; exact hv3)
  rw [R3, show faiH (bl (bl (neR 3 4) 1) (0 : Nat)) = true from lvF_ros.1, if_pos rfl] at d1
  have hr3 : HRm h3 := ⟨hM3.room (by omega), by rw [v3]; omega⟩
  have hn3 : h3.R.m.toNat = 3 := by rw [R3]; decide +kernel
  refine ⟨h2, M4, so, ⟨e1, hr.1⟩, ⟨c1', c2⟩, ⟨?_, ?_⟩, ⟨e3, hr2.1⟩, ?_, ?_⟩
  · unfold ftqF
    rw [if_pos hq2, hn2, k1]
    rfl
  · refine ⟨hr2, fun _ => ?_⟩
    rw [hn2, ftP, if_neg (by decide)]
    refine ⟨hr2, hrdK_is r0.1 (by decide) (by decide), fun _ => ?_⟩
    rw [show hrdS h2 0 ((0 : Nat) : Int) = h2 from r0.2.2, ftP, if_neg (by decide)]
    exact ⟨hr2, hrdK_is (show bZ h2 0 ((0 + 1 : Nat) : Int) = 7 from r1.1) (by decide) (by decide), fun e => by rw [show bZ h2 0 ((0 + 1 : Nat) : Int) = 7 from r1.1] at e; exact absurd e (by decide)⟩
  · rw [hh3]
    unfold ftcF
    rw [if_pos (show bZ h3 0 1 = 7 from p1.1), show hrdS h3 0 1 = h3 from p1.2.2, hn3, ftK, if_neg (by decide), if_neg (by rw [show bZ h3 0 ((0 : Nat) : Int) = 16 from d1]; decide), if_neg (by rw [show bZ h3 0 ((0 : Nat) : Int) = 16 from d1]; decide), show bZ h3 0 ((0 : Nat) : Int) = 16 from d1, show hrdS h3 0 ((0 : Nat) : Int) = _ from d3]
    rw [← hh3]
    rfl
  · rw [hh3]
    refine ⟨hr3, hrdK_is (show bZ h3 0 1 = 7 from p1.1) (by decide) (by decide), fun _ => ?_⟩
    rw [show hrdS h3 0 1 = h3 from p1.2.2, hn3, ftP, if_neg (by decide)]
    exact ⟨hr3, hrdK_is (show bZ h3 0 ((0 : Nat) : Int) = 16 from d1) (by decide) (by decide), fun e => by rw [show bZ h3 0 ((0 : Nat) : Int) = 16 from d1] at e; exact absurd e (by decide)⟩
end
structure FetI (C : HulI) where
  cell : ∀ {w G q p h} (s m : Int), C.J w G q p h → CrG w G → ftcP h s m → Calls Tryz.prog 13 #[.pointer (some ⟨p, 0, none⟩), .agg #[.int .i64 s, .int .i64 m]] w fun e w' => e = .returned (.tuple #[blk (ftcF h s m).2.1, .int .i64 (ftcF h s m).1]) ∧ ∃ G', C.J w' G' q p (ftcF h s m).2.2 ∧ Only G w w' ∧ Grow w G G'
  stripe : ∀ {w G q p h} (s : Int), C.J w G q p h → CrG w G → ftsP h s → Calls Tryz.prog 10 #[.pointer (some ⟨p, 0, none⟩), .int .i64 s] w fun e w' => ∃ v G', e = .returned (.tuple #[v, .int .i64 (ftsF h s).1]) ∧ aJ BlkE w' w.heap.size v (ftsF h s).2.1 ∧ (∀ b, v.ownBlock = some b → ¬ G' b) ∧ C.J w' G' q p (ftsF h s).2.2 ∧ Only G w w' ∧ Grow w G G'
  sound : ∀ {w G q p h} (s : Int), C.J w G q p h → CrG w G → ftqP h s → Calls Tryz.prog 8 #[.pointer (some ⟨p, 0, none⟩), .int .i64 s] w fun e w' => e = .returned (.tuple #[.bool (ftqF h s).2.1, .int .i64 (ftqF h s).1]) ∧ ∃ G', C.J w' G' q p (ftqF h s).2.2 ∧ Only G w w' ∧ Grow w G G'
  no_cell : ∀ (w : World) (v : Value) (s m : Int), C.No w v → Calls Tryz.prog 13 #[v, .agg #[.int .i64 s, .int .i64 m]] w fun e w' => (∃ b : Blk, e = .returned (.tuple #[blk b, .int .i64 1])) ∧ Below w.heap.size w w'
  no_stripe : ∀ (w : World) (v : Value) (s : Int), C.No w v → Calls Tryz.prog 10 #[v, .int .i64 s] w fun e w' => e = .returned (.tuple #[.slice none 0 0, .int .i64 1]) ∧ Below w.heap.size w w'
  no_sound : ∀ (w : World) (v : Value) (s : Int), C.No w v → Calls Tryz.prog 8 #[v, .int .i64 s] w fun e w' => e = .returned (.tuple #[.bool false, .int .i64 1]) ∧ Below w.heap.size w w'
section
variable {C : HulI} {D : FetI C} {w0 w w' : World} {B q p : Nat} {K K' : Nat → Prop} {h h' : HuS}
theorem HAt.cell (D : FetI C) (s m : Int) (a : HAt C w0 B K w q p h) (hp : ftcP h s m) {x : Int × Blk × HuS} (hx : ftcF h s m = x) : Calls Tryz.prog 13 #[.pointer (some ⟨p, 0, none⟩), .agg #[.int .i64 s, .int .i64 m]] w fun e w' => e = .returned (.tuple #[blk x.2.1, .int .i64 x.1]) ∧ HAt C w0 B K w' q p x.2.2 ∧ bk K w w' := by
  subst hx
  obtain ⟨G, h1, h2, h3, h4, h5⟩ := a
  exact (D.cell s m h1 (h4.crg h3 h2) hp).mono fun e w' ⟨k0, G', k1, k2, k3⟩ => ⟨k0, HAt.turn h2 h3 h4 h5 k1 k2 k3⟩
theorem HAt.sound (D : FetI C) (s : Int) (a : HAt C w0 B K w q p h) (hp : ftqP h s) {x : Int × Bool × HuS} (hx : ftqF h s = x) : Calls Tryz.prog 8 #[.pointer (some ⟨p, 0, none⟩), .int .i64 s] w fun e w' => e = .returned (.tuple #[.bool x.2.1, .int .i64 x.1]) ∧ HAt C w0 B K w' q p x.2.2 ∧ bk K w w' := by
  subst hx
  obtain ⟨G, h1, h2, h3, h4, h5⟩ := a
  exact (D.sound s h1 (h4.crg h3 h2) hp).mono fun e w' ⟨k0, G', k1, k2, k3⟩ => ⟨k0, HAt.turn h2 h3 h4 h5 k1 k2 k3⟩
end
section
variable {ρ : Operand → Value} {o : Oper} {x y : Operand} {w : World} {a : Int}
theorem exec_rem8 {t r : TypeId} {b c : Int} (ho : o.op = .binOp .rem t x y r) (hx : ρ x = .int .u8 a) (hy : ρ y = .int .u8 b) (h0 : b ≠ 0) (h : a.tmod b = c) : (execOp ρ o).run Tryz.prog w = .ok (.value (.int .u8 c)) w := by
  unfold execOp
  simp [ho, hx, hy, eqGuard, binOp, Op.intDiv, h, h0]
theorem run_cv8 (h : IntKind.i64.wrap a = a) : (convert 5 3 (.int .u8 a)).run Tryz.prog w = .ok (.int .i64 a) w := by
  simp [convert, go_sem, h]
theorem exec_cv8 (ho : o.op = .convert 5 3 x) (hx : ρ x = .int .u8 a) (h : IntKind.i64.wrap a = a) : (execOp ρ o).run Tryz.prog w = .ok (.value (.int .i64 a)) w := by
  unfold execOp
  simp only [ho, hx, Sem.run_bind, run_cv8 h, Result.andThen_ok, Sem.run_pure]
end
end Go.Proofs.YtheponmdbmloaaaGreatDoor
