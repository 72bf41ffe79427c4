/-
  The reference's Data, whatever is asked; rows of places; all places, in order.
-/
import Derived.Test.YthephlgdjbdaoaaGeoD
namespace Go.Proofs.Ythephlgdjbdaoaa
open Go.RowKit
set_option linter.unusedVariables false

theorem rdata_err (m s r t : Int) (w : World) (c : Int) (hc : parE m s r t = c) (h0 : c = 2 ∨ c = 12) : Calls Try.prog 15 #[geoV m s r, .int .i64 t] w fun e w' => e = .returned (.tuple #[.slice none 0 0, .int .i64 c]) ∧ Below w.heap.size w w' := by
  have HC := Lib.hid hc
  clear hc
  unfold geoV
  rcases h0 with rfl | rfl
  all_goals
    go_enter Try.func15, Try.ntmps15
    go_wp2_with fail
    refine (parity_ref m s r t _).mono ?_
    rintro e w1 ⟨rfl, hb1⟩
    obtain ⟨K0, HB⟩ := behind_g hb1 (new1 ..)
    rw [HC.out]
    clear hb1
    go_wp2
    go_ret2
    exact ⟨rfl, HB.out⟩
theorem data_ref (m s r t : Int) (B : Nat) (w : World) (HB : Hid (B = w.heap.size)) : Calls Try.prog 15 #[geoV m s r, .int .i64 t] w fun e w' => ∃ v, e = .returned (.tuple #[v, .int .i64 (parE m s r t)]) ∧ MadeE IntE w' B v (datL m s r t) ∧ Below B w w' := by
  cases h : may m s r
  · rw [datL_no t h]; exact (rdata_err m s r t w _ rfl (.inl (parE_no t h))).mono fun e w' ⟨he, hb⟩ => ⟨_, he, MadeE.nil _ _, by rw [HB.out]; exact hb⟩
  · cases h' : has s t
    · rw [datL_out h h']; exact (rdata_err m s r t w _ rfl (.inr (parE_out h h'))).mono fun e w' ⟨he, hb⟩ => ⟨_, he, MadeE.nil _ _, by rw [HB.out]; exact hb⟩
    · obtain ⟨M, S, rfl, rfl, _⟩ := nat_geo h
      obtain ⟨T, rfl, _⟩ := nat_stripe h'
      rw [datL_in h h', parE_in h h']
      exact rdata_in M S T B r w HB h h'

/-! ### Places -/
def PlaceE : Elt (Nat × Nat) where
  s := 50
  t := 25
  n := 2
  by_ := 16
  cel p := [.int .i64 (p.1 : Int), .int .i64 (p.2 : Int)]
  d := (0, 0)
  z := .agg #[.int .i64 0, .int .i64 0]
  pos := by omega
  small := by omega
  len _ := rfl
  one x v hv := by simp at hv; rcases hv with rfl | rfl <;> rfl
  und := Try.underlying50
  info := by kernel_rfl
  zc := rfl
theorem MadeE.other {α β : Type} {E : Elt α} {E' : Elt β} {w : World} {B B' : Nat} {v v' : Value} {l : List α} {l' : List β} (h : MadeE E w B v l) (h' : MadeE E' w B' v' l') (hne : E.t ≠ E'.t) : v.ownBlock = none ∨ v.ownBlock ≠ v'.ownBlock := by
  rcases h.2 with ⟨rfl, _⟩ | ⟨g, cap, cur, rfl, _, hg, _⟩
  · exact .inl rfl
  · rcases h'.2 with ⟨rfl, _⟩ | ⟨g', cap', cur', rfl, _, hg', _⟩
    · exact .inr (by simp [Value.ownBlock])
    · refine .inr fun e => ?_
      simp [Value.ownBlock] at e
      subst e
      rw [hg] at hg'
      simp at hg'
      exact hne hg'.2
theorem MadeE.kept {α : Type} {E : Elt α} {w w' : World} {B : Nat} {v : Value} {l : List α} {row : Option Nat} (h : MadeE E w B v l) (hg : w.grownBy w' row) (hne : v.ownBlock = none ∨ v.ownBlock ≠ row) : MadeE E w' B v l := World.ownsRow.kept h hg hne
/-- The places of a stripe's blocks; of all stripes ahead of one. -/
def plR (M T : Nat) : List (Nat × Nat) := (List.range (M - 1)).map fun d => (T, dat M T d)
def allR (M : Nat) : Nat → List (Nat × Nat)
  | 0 => []
  | T + 1 => allR M T ++ plR M T
theorem plR_len (M T : Nat) : (plR M T).length = M - 1 := by simp [plR]
theorem allR_len (M S : Nat) : (allR M S).length = S * (M - 1) := by
  induction S with
  | zero => simp [allR]
  | succ S ih => rw [allR, List.length_append, ih, plR_len, Nat.add_mul]; omega
theorem plR_succ {M T d : Nat} (h : d < M - 1) : (plR M T).take d ++ [(T, dat M T d)] = (plR M T).take (d + 1) := by
  rw [List.take_add_one]
  congr 1
  unfold plR
  simp [List.getElem?_map, List.getElem?_range h]
theorem allR_at {M S T d : Nat} (ht : T < S) (hd : d < M - 1) : (allR M S)[T * (M - 1) + d]? = some (T, dat M T d) := by
  induction S with
  | zero => omega
  | succ S ih =>
    rw [allR]
    by_cases h : T < S
    · rw [List.getElem?_append_left, ih h]
      rw [allR_len]
      have := Nat.mul_le_mul_right (M - 1) (show T + 1 ≤ S by omega)
      rw [Nat.add_mul] at this
      omega
    · have : T = S := by omega
      subst this
      rw [List.getElem?_append_right (by rw [allR_len]; omega), allR_len, Nat.add_sub_cancel_left]
      unfold plR
      simp [List.getElem?_map, List.getElem?_range hd]
set_option maxHeartbeats 1000000 in
theorem all_in (M S B : Nat) (r : Int) (w : World) (HB0 : Hid (B = w.heap.size)) (h : may M S r = true) :
    Calls Try.prog 29 #[geoV M S r] w fun e w' => ∃ v, e = .returned v ∧ MadeE PlaceE w' B v (allR M S) ∧ Below B w w' := by
  have hm := may_iff.1 h
  have H := Lib.hid h
  have HG0 := Lib.hid (new1 w #[.int .i64 M, .int .i64 S, .int .i64 r] 23)
  have HBL0 := Lib.hid ((Below.refl w.heap.size w).alloc (Nat.le_refl _) (.cells #[.int .i64 M, .int .i64 S, .int .i64 r] 23))
  clear h
  unfold geoV
  go_enter Try.func29, Try.ntmps29
  go_wp2_with fail
  generalize w.alloc (.cells #[.int .i64 M, .int .i64 S, .int .i64 r] 23) = w1 at *
  have K4 := HG0.out
  have hbl0 : Below B w w1 := by rw [HB0.out]; exact HBL0.out
  have hlt4 : w.heap.size < w1.heap.size := blk_lt K4
  generalize hb : w.heap.size = b at *
  have HBB := Lib.hid hb
  clear hb HG0 HBL0
  go_loopw [3, 4, 5, 6, 7] (fun v i x5 x6 x7 wr => ∃ t : Nat, t ≤ S ∧ i = .int .i64 t ∧ MadeE PlaceE wr (b + 1) v (allR M t) ∧ wr.heap[b]? = some (.cells #[.int .i64 M, .int .i64 S, .int .i64 r] 23) ∧ Below B w wr) (fun _ i _ _ _ _ => S - (intOf i).toNat)
  case atStart => exact ⟨0, Nat.zero_le _, rfl, MadeE.nil _ _, K4, hbl0⟩
  case round =>
    clear K4 hbl0
    obtain ⟨t, hk, rfl, hmd, K, hbl⟩ := hrel
    obtain ⟨c0, c1, c2⟩ := cells3 K
    have hle : b < wr.heap.size := blk_lt K
    by_cases hlt : t < S
    · have H' := Lib.hid (show has S t = true from has_iff.2 (by omega))
      go_wp2_with fail
      refine (may_ref M S r _).mono ?_
      rintro e w2 ⟨rfl, hb2⟩
      rw [H.out]
      have K2 := blk_keep K hb2
      have hmd2 := hmd.below hb2
      have hbl2 := hbl.trans (hb2.mono (by have := HB0.out; omega))
      obtain ⟨d0, d1, d2⟩ := cells3 K2
      clear hb2 hmd K hbl c0 c1 c2
      have hlt2 := blk_lt K2
      go_wp2_with fail
      refine (rdata_in M S t _ r _ (Lib.hid rfl) H.out H'.out).mono ?_
      rintro e w3 ⟨dv, rfl, hdv, hb3⟩
      have K3 := blk_keep K2 hb3
      have hmd3 := hmd2.below hb3
      have hbl3 := hbl2.trans (hb3.mono (by have := HB0.out; omega))
      clear d0 d1 d2 K2 hmd2 hb3 hbl2
      obtain ⟨A, c, rfl, -, hc1, hc2⟩ := hdv.open_ (n := M - 1) (datR_len M t)
      go_wp2_with fail
      generalize w2.heap.size = D at *
      have hpl := plR_len M t
      have hWs := fun (d : Nat) (hd : d < M - 1) => plR_succ (M := M) (T := t) hd
      have hWd := fun (d : Nat) (hd : d < M - 1) => datR_at (M := M) (T := t) hd
      have hW15 : M - 1 ≤ 15 := by omega
      have hal := allR_len M t
      have hal2 := Nat.mul_le_mul (show t ≤ 64 by omega) hW15
      have hal3 : (allR M t).length ≤ 960 := by rw [hal]; omega
      clear hal hal2
      generalize hW : M - 1 = W at *
      have HWs := Lib.hid hWs
      have HWd := Lib.hid hWd
      have HPL := Lib.hid hpl
      have HAL := Lib.hid hal3
      clear hW hWs hWd hpl hal3
      go_loopw [3, 7] (fun v i wr => ∃ k : Nat, k ≤ W ∧ i = .int .i64 k ∧ MadeE PlaceE wr (b + 1) v (allR M t ++ (plR M t).take k) ∧ MadeE IntE wr D (.slice A W c) (datR M t) ∧ wr.heap[b]? = some (.cells #[.int .i64 M, .int .i64 S, .int .i64 r] 23) ∧ Below B w wr) (fun _ i _ => W - (intOf i).toNat)
      case atStart => exact ⟨0, Nat.zero_le _, rfl, by simpa using hmd3, hdv, K3, hbl3⟩
      case round =>
        clear hmd3 hdv K3 hbl3
        obtain ⟨k, hk, rfl, hmd, hdv, K, hbl⟩ := hrel
        by_cases hltk : k < W
        · obtain ⟨bA, oA, hA, hbA, cA⟩ := hdv.rd.int hltk
          have hdat := HWd.out k hltk
          rw [hdat] at cA
          subst hA
          have hnew : RdE PlaceE _ _ _ 1 _ := rdE_new (E := PlaceE) (l := [(t, dat M t k)]) wr #[.int .i64 t, .int .i64 ((dat M t k : Nat) : Int)] 25 rfl
          have hmd' := hmd.below ((Below.refl wr.heap.size wr).alloc (Nat.le_refl _) (.cells #[.int .i64 t, .int .i64 ((dat M t k : Nat) : Int)] 25))
          have hdv' := hdv.below ((Below.refl wr.heap.size wr).alloc (Nat.le_refl _) (.cells #[.int .i64 t, .int .i64 ((dat M t k : Nat) : Int)] 25))
          have K' := blk_past K (.cells #[.int .i64 t, .int .i64 ((dat M t k : Nat) : Int)] 25)
          have hsz : b + 1 ≤ (wr.alloc (.cells #[.int .i64 t, .int .i64 ((dat M t k : Nat) : Int)] 25)).heap.size := by rw [World.size_alloc]; have := blk_lt K; omega
          clear hdat
          go_wp2_with (at_builtin; refine wpList_appE PlaceE rfl _ _ rfl (b + 1) _ 1 _ _ _ _ _ rfl rfl hmd' hnew hsz ?c1 ?_)
          case c1 => rw [List.length_append, List.length_take, HPL.out]; have := HAL.out; omega
          intro v6 w6 hm6 hg6
          have hb6 : Below (b + 1) (wr.alloc (.cells #[.int .i64 t, .int .i64 ((dat M t k : Nat) : Int)] 25)) w6 := (Below.refl _ _).grown hg6 hsz hmd.lt_own
          have K6 := (hb6.block b (by omega)).trans K'
          have hdv6 := hdv'.kept hg6 (hdv.other hmd (by decide))
          have hB6 : Below B w w6 := (hbl.alloc (by have := HB0.out; have := blk_lt K; omega) _).trans (hb6.mono (by have := HB0.out; omega))
          have hS := HWs.out k hltk
          rw [hS] at hm6
          clear hnew hmd' K' hsz hg6 hb6 hmd K hbl hdv hdv' hS cA
          go_wp2_with fail
          go_roundw
          case rel => exact ⟨k + 1, by omega, by go_num, hm6, hdv6, K6, hB6⟩
          case measure => simp [intOf]; omega
        · have hkn : k = W := by omega
          subst hkn
          rw [List.take_of_length_le (by rw [HPL.out]; exact Nat.le_refl _)] at hmd
          go_wp2_with fail
          go_roundw
          case rel => exact ⟨t + 1, by omega, by go_num, hmd, K, hbl⟩
          case measure => simp [intOf]; omega
    · have hkn : t = S := by omega
      subst hkn
      go_wp2_with fail
      go_ret
      exact ⟨_, rfl, hmd.base (by have := HB0.out; omega), hbl⟩
end Go.Proofs.Ythephlgdjbdaoaa
