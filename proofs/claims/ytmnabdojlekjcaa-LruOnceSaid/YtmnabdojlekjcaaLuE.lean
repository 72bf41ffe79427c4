/-
  The document's list of what was asked for last: its keys in memory; place, without, ahead; New, Touch, Pin, Drop, Has, Pinned, Keys.
-/
import Derived.Test.YtmnabdojlekjcaaLuA
import Derived.Test.YtmnabdojlekjcaaEltOps
import Derived.Test.YtmnabdojlekjcaaIntE
import Derived.Test.YtmnabdojlekjcaaLast
namespace Go.Proofs.Ytmnabdojlekjcaa
open Go.RowKit
set_option linter.unusedVariables false
set_option linter.unusedSimpArgs false
set_option maxRecDepth 100000

def KyE : Elt Ky where
  s := 53
  t := 58
  n := 2
  by_ := 16
  cel x := [.int .i64 x.n, .bool x.pin]
  d := ky0
  z := .agg #[.int .i64 0, .bool false]
  pos := by omega
  small := by omega
  len _ := rfl
  one x v hv := by
    simp only [List.mem_cons, List.mem_singleton, List.not_mem_nil, or_false] at hv
    rcases hv with rfl | rfl <;> rfl
  und := Try.underlying53
  info := by kernel_rfl
  zc := rfl
def kyV (x : Ky) : Value := .agg #[.int .i64 x.n, .bool x.pin]
theorem kyV_cells (x : Ky) : (kyV x).cells = (KyE.cel x).toArray := rfl
section
variable {α : Type} {E : Elt α} {ρ : Operand → Value} {o : Oper} {x y : Operand} {w : World} {A : Option Addr} {n c k B b off : Nat} {l : List α}
/-! ### Pieces of rows of elements -/
theorem add_zero_ (A : Option Addr) : A.map (fun x => x.add 0) = A := by
  cases A with
  | none => rfl
  | some a =>
    obtain ⟨b, off, s⟩ := a
    cases s <;> simp [Addr.add]
theorem exec_headE (ho : o.op = .slice E.s x none (some y) none) (hx : ρ x = .slice A n c) (hy : ρ y = .int .i64 (k : Int)) (hk : k ≤ c) : (execOp ρ o).run Try.prog w = .ok (.value (.slice A k c)) w := by
  have hs := run_sizeE E w
  unfold execOp
  simp [ho, hx, hy, Instr.sliceAt, Instr.slice, Instr.sliceBounds, Instr.sliceBound, asIntOf, run_underlying E.und, hs]
  have := add_zero_ A
  split <;> simp_all
def tailE (E : Elt α) (A : Option Addr) (c k : Nat) : Option Addr := if c = k then A else A.map (fun x => x.add (k * E.n))
theorem exec_tailE (ho : o.op = .slice E.s x (some y) none none) (hx : ρ x = .slice A n c) (hy : ρ y = .int .i64 (k : Int)) (hk : k ≤ n) : (execOp ρ o).run Try.prog w = .ok (.value (.slice (tailE E A c k) (n - k) (c - k))) w := by
  have hs := run_sizeE E w
  unfold execOp tailE
  simp [ho, hx, hy, Instr.sliceAt, Instr.slice, Instr.sliceBounds, Instr.sliceBound, asIntOf, run_underlying E.und, hs]
  intro hh
  omega
theorem RdE.headE (h : RdE E w B A n l) (hk : k ≤ n) : RdE E w B A k (l.take k) :=
  ⟨by rw [List.length_take, h.1]; omega, fun j hj => by
    obtain ⟨b, off, e, hb, hc⟩ := h.2 j (by omega)
    refine ⟨b, off, e, hb, ?_⟩
    rw [List.getD, List.getElem?_take_of_lt hj]
    exact hc⟩
theorem RdE.tailE (h : RdE E w B A n l) (hk : k ≤ n) (hc : n ≤ c) : RdE E w B (Go.Proofs.Ytmnabdojlekjcaa.tailE E A c k) (n - k) (l.drop k) :=
  ⟨by rw [List.length_drop, h.1], fun j hj => by
    obtain ⟨b, off, e, hb, hr⟩ := h.2 (k + j) (by omega)
    refine ⟨b, off + k * E.n, ?_, hb, ?_⟩
    · unfold Go.Proofs.Ytmnabdojlekjcaa.tailE
      rw [if_neg (by omega), e]
      simp [Addr.add_mid]
    · rw [List.getD, List.getElem?_drop, show off + k * E.n + j * E.n = off + (k + j) * E.n from by rw [Nat.add_mul]; omega]
      exact hr⟩
theorem exec_lenE (E : Elt α) (ho : o.op = .call { callee := .builtin .len, args := #[x], argTypes := #[E.s] }) (hx : ρ x = .slice A n c) : (execOp ρ o).run Try.prog w = .ok (.value (.int .i64 (n : Int))) w := by
  simp [execOp, ho, resolve, invoke, builtin, hx, Builtin.len_, run_underlying E.und, Result.andThen]
  rfl
theorem exec_bld1 {t : TypeId} {p v : Value} (ho : o.op = .build t #[(0, x)]) (hx : ρ x = p) (h : (Instr.build t #[(0, p)]).run Try.prog w = .ok v w) : (execOp ρ o).run Try.prog w = .ok (.value v) w := by
  unfold execOp
  simp [ho, hx, h, Result.andThen]
end
section
variable {ρ : Operand → Value} {o : Oper} {x y : Operand} {w w' : World} {A : Option Addr} {n c B b off j : Nat} {l L : List Ky} {v : Value} {a : Ky}
theorem bldKy (k : Int) (w : World) : (Instr.build 58 #[(0, .int .i64 k)]).run Try.prog w = .ok (kyV ⟨k, false⟩) w := by kernel_rfl
theorem exec_loadK (ho : o.op = .load 58 x) (hx : ρ x = .pointer (some ⟨b, off, none⟩)) (hc : w.rangeAt b off (KyE.cel a)) : (execOp ρ o).run Try.prog w = .ok (.value (kyV a)) w :=
  exec_loadT (cs := KyE.cel a) Try.underlying58 rfl (by kernel_rfl) ho hx hc
theorem faKy0 : (Instr.fieldAt 58 (.pointer (some ⟨b, off, none⟩)) 0).run Try.prog w = .ok (.pointer (some ⟨b, off, none⟩)) w := by kernel_rfl
theorem faKy1 : (Instr.fieldAt 58 (.pointer (some ⟨b, off, none⟩)) 1).run Try.prog w = .ok (.pointer (some ⟨b, off + 1, none⟩)) w := by kernel_rfl
theorem faRl0 : (Instr.fieldAt 55 (.pointer (some ⟨b, 0, none⟩)) 0).run Try.prog w = .ok (.pointer (some ⟨b, 0, none⟩)) w := by kernel_rfl
theorem faRl1 : (Instr.fieldAt 55 (.pointer (some ⟨b, 0, none⟩)) 1).run Try.prog w = .ok (.pointer (some ⟨b, 1, none⟩)) w := by kernel_rfl
theorem ldKs {ad : Addr} (h : w.cell? ad = some (.slice A n c)) : (Instr.loadAt 53 (.pointer (some ad))).run Try.prog w = .ok (.slice A n c) w := by simp [go_sem, h]
theorem stKs {ad : Addr} {u : Value} (h : w.cell? ad = some u) (hf : w.frozen? ad = false) : (Instr.storeAt 53 (.pointer (some ad)) (.slice A n c)).run Try.prog w = .ok () (w.setCell ad (.slice A n c)) := by simp [go_sem, h, hf]
theorem RdE.ky (h : RdE KyE w B A n l) (hj : j < n) : ∃ b off, A = some ⟨b, off, none⟩ ∧ w.rangeAt b (off + j * 2) (KyE.cel (l.getD j ky0)) := by
  obtain ⟨b, off, e, hb, hc⟩ := h.2 j hj
  exact ⟨b, off, e, hc⟩
theorem ky_n (h : w.rangeAt b off (KyE.cel a)) : w.cell? ⟨b, off, none⟩ = some (.int .i64 a.n) := h 0 _ rfl
theorem ky_p (h : w.rangeAt b off (KyE.cel a)) : w.cell? ⟨b, off + 1, none⟩ = some (.bool a.pin) := h 1 _ rfl
end
/-! ### The object -/
def isRl : Obj → Prop
  | .cells _ t _ => t = 55 ∨ t = 58
  | _ => False
abbrev TurnR := Turn isRl
theorem pl_not_rl (o : Obj) (h : isPl o) : ¬ isRl o := by
  cases o <;> first | exact fun e => e | skip
  rename_i cs t fr
  intro e
  have e1 : t = 52 ∨ t = 49 := h
  have e2 : t = 55 ∨ t = 58 := e
  rcases e1 with rfl | rfl <;> rcases e2 with e2 | e2 <;> exact absurd e2 (by decide)
theorem rl_not_pl (o : Obj) (h : isRl o) : ¬ isPl o := fun e => pl_not_rl o e h
/-- The document's list lies at q: it has the keys L. -/
structure RLu (w : World) (B q room : Nat) (v : Value) (L : List Ky) : Prop where
  at_ : w.heap[q]? = some (.cells #[.int .i64 (room : Int), v] 55 (0, 0))
  row : MadeE KyE w B v L
  low : B ≤ q
  len : L.length ≤ 64
def RL (w : World) (B q room : Nat) (L : List Ky) : Prop := ∃ v, RLu w B q room v L
section
variable {w w' : World} {B q room n c : Nat} {A : Option Addr} {v : Value} {L : List Ky} {k : Int}
theorem MadeE.kept_all {α : Type} {E : Elt α} {l : List α} (h : MadeE E w B v l) (hk : ∀ (b : Nat) (cs : Array Value), w.heap[b]? = some (Obj.cells cs E.t (0, 0)) → w'.heap[b]? = some (Obj.cells cs E.t (0, 0))) : MadeE E w' B v l := by
  refine ⟨h.1, ?_⟩
  rcases h.2 with hn | ⟨g, cap, cur, rfl, hbg, hg, rest⟩
  · exact .inl hn
  · exact .inr ⟨g, cap, cur, rfl, hbg, hk g cur hg, rest⟩
theorem RLu.keep (h : RLu w B q room v L) (hk : ∀ (b : Nat) (o : Obj), w.heap[b]? = some o → isRl o → w'.heap[b]? = some o) : RLu w' B q room v L :=
  ⟨hk _ _ h.at_ (.inl rfl), h.row.kept_all fun b cs hb => hk b _ hb (.inr rfl), h.low, h.len⟩
theorem RL.keep (h : RL w B q room L) (hk : ∀ (b : Nat) (o : Obj), w.heap[b]? = some o → isRl o → w'.heap[b]? = some o) : RL w' B q room L := by
  obtain ⟨v, h⟩ := h
  exact ⟨v, h.keep hk⟩
theorem RLu.below (h : RLu w B q room v L) (hb : Below w.heap.size w w') : RLu w' B q room v L := h.keep fun b o ho _ => blk_keep ho hb
theorem RL.below (h : RL w B q room L) (hb : Below w.heap.size w w') : RL w' B q room L := h.keep fun b o ho _ => blk_keep ho hb
theorem RL.other {I : Obj → Prop} {B' : Nat} (h : RL w B q room L) (hb : Turn I B' w w') (hI : ∀ o, isRl o → ¬ I o) : RL w' B q room L := h.keep fun b o ho hp => hb.keep ho (hI o hp)
theorem RLu.c0 (h : RLu w B q room v L) : w.cell? ⟨q, 0, none⟩ = some (.int .i64 (room : Int)) := (cells2 h.at_).1
theorem RLu.c1 (h : RLu w B q room v L) : w.cell? ⟨q, 1, none⟩ = some v := (cells2 h.at_).2.1
theorem RLu.fz (h : RLu w B q room v L) (j : Nat) : w.frozen? ⟨q, j, none⟩ = false := frozen_of_row w q j _ _ h.at_
/-- Its row is laid anew. -/
theorem RLu.set (h : RLu w B q room v L) {v' : Value} {L' : List Ky} (hb : Below w.heap.size w w') (hm : MadeE KyE w' w.heap.size v' L') (hl : L'.length ≤ 64) : RLu (w'.setCell ⟨q, 1, none⟩ v') B q room v' L' ∧ TurnR B w (w'.setCell ⟨q, 1, none⟩ v') := by
  have h' := h.below hb
  have hq := blk_lt h.at_
  refine ⟨⟨?_, hm.base (Nat.le_trans h.low (by omega)) |>.kept_all fun b cs hb' => ?_, h.low, hl⟩, (Turn.of_below hb).setCell (p := ⟨q, 1, none⟩) h.low h'.at_ (.inl rfl) v'⟩
  · have := heap_setCell_same w' q 1 _ _ v' h'.at_
    simpa using this
  · have hne : b ≠ q := fun e => by subst e; rw [h'.at_] at hb'; simp at hb'; exact absurd hb'.2 (by decide)
    rw [heap_setCell_other w' ⟨q, 1, none⟩ b v' hne]
    exact hb'
def plcI (k : Int) (L : List Ky) : Int := if plc k L < L.length then (plc k L : Int) else -1
theorem plcI_hit {i : Nat} (h : plc k L = i) (hi : i < L.length) : plcI k L = (i : Int) := by unfold plcI; rw [h, if_pos hi]
theorem plcI_no (h : ¬ plc k L < L.length) : plcI k L = -1 := if_neg h
set_option maxHeartbeats 1000000 in
theorem r_place (w : World) (h : RLu w B q room v L) : Calls Try.prog 34 #[.pointer (some ⟨q, 0, none⟩), .int .i64 k] w fun e w' => e = .returned (.int .i64 (plcI k L)) ∧ w = w' := by
  obtain ⟨A, c, rfl, h1, h2⟩ := h.row.form
  have HL := Lib.hid h
  have HN : Hid (L.length ≤ 64) := Lib.hid h.len
  clear h h1 h2
  go_enter Try.func34, Try.ntmps34
  go_wp2_with fail
  go_loop [5] (fun i => ∃ j : Nat, j ≤ L.length ∧ i = .int .i64 j ∧ Hid (∀ t, t < j → (L.getD t ky0).n ≠ k)) (fun i => L.length - (intOf i).toNat)
  case atStart => exact ⟨0, Nat.zero_le _, rfl, Lib.hid fun t ht => absurd ht (by omega)⟩
  case round =>
    obtain ⟨j, hj, rfl, hno⟩ := hrel
    by_cases hlt : j < L.length
    · have HLS : Hid (decide ((j : Int) < (L.length : Int)) = true) := Lib.hid (decide_eq_true (by omega))
      obtain ⟨b, off, hA, hc⟩ := HL.out.row.rd.ky hlt
      have HA := Lib.hid hA
      have HC := Lib.hid hc
      have HLT := Lib.hid hlt
      clear hA hc hlt
      go_upto_region 2 with fail
      refine wp_region_lit ?_
      refine wpList_valn rfl (exec_mv rfl (ev rfl)) ?_
      simp only [Act.put, List.setIfInBounds_toArray, List.set_cons_succ, List.set_cons_zero]
      refine wpList_valn rfl (exec_mv rfl (ev rfl)) ?_
      simp only [Act.put, List.setIfInBounds_toArray, List.set_cons_succ, List.set_cons_zero]
      refine wpList_valn rfl (exec_nil rfl (ev rfl)) ?_
      simp only [Act.put, List.setIfInBounds_toArray, List.set_cons_succ, List.set_cons_zero]
      refine wpList_valn rfl (exec_faddr rfl (ev rfl) faRl1) ?_
      simp only [Act.put, List.setIfInBounds_toArray, List.set_cons_succ, List.set_cons_zero]
      refine wpList_valn rfl (exec_ld rfl (ev rfl) (ldKs (HL.out).c1)) ?_
      simp only [Act.put, List.setIfInBounds_toArray, List.set_cons_succ, List.set_cons_zero]
      refine wpList_valn rfl (exec_lenE KyE rfl (ev rfl)) ?_
      simp only [Act.put, List.setIfInBounds_toArray, List.set_cons_succ, List.set_cons_zero]
      refine wpList_valn (v := .bool true) rfl (exec_lss true rfl (ev rfl) (ev rfl) HLS.out) ?_
      simp only [Act.put, List.setIfInBounds_toArray, List.set_cons_succ, List.set_cons_zero]
      refine wpList_nil ?_
      by_cases he : (L.getD j ky0).n = k
      · have HEQ : Hid (((L.getD j ky0).n == k) = true) := Lib.hid (by simpa using he)
        have HE := Lib.hid he
        clear he
        go_upto_region 4 with fail
        refine wp_region_lit ?_
        refine wpList_valn rfl (exec_mv rfl (ev rfl)) ?_
        simp only [Act.put, List.setIfInBounds_toArray, List.set_cons_succ, List.set_cons_zero]
        refine wpList_valn rfl (exec_nil rfl (ev rfl)) ?_
        simp only [Act.put, List.setIfInBounds_toArray, List.set_cons_succ, List.set_cons_zero]
        refine wpList_valn rfl (exec_faddr rfl (ev rfl) faRl1) ?_
        simp only [Act.put, List.setIfInBounds_toArray, List.set_cons_succ, List.set_cons_zero]
        refine wpList_valn rfl (exec_ld rfl (ev rfl) (ldKs (HL.out).c1)) ?_
        simp only [Act.put, List.setIfInBounds_toArray, List.set_cons_succ, List.set_cons_zero]
        refine wpList_valn rfl (exec_mv rfl (ev rfl)) ?_
        simp only [Act.put, List.setIfInBounds_toArray, List.set_cons_succ, List.set_cons_zero]
        refine wpList_valn rfl (exec_indexE (E := KyE) (b := b) (off := off) (j := j) rfl ((ev rfl).trans (by rw [HA.out])) (ev rfl) HLT.out) ?_
        simp only [Act.put, List.setIfInBounds_toArray, List.set_cons_succ, List.set_cons_zero]
        refine wpList_valn rfl (exec_faddr rfl (ev rfl) faKy0) ?_
        simp only [Act.put, List.setIfInBounds_toArray, List.set_cons_succ, List.set_cons_zero]
        refine wpList_valn rfl (exec_ld rfl (ev rfl) (ldInt (ky_n HC.out))) ?_
        simp only [Act.put, List.setIfInBounds_toArray, List.set_cons_succ, List.set_cons_zero]
        refine wpList_valn rfl (exec_mv rfl (ev rfl)) ?_
        simp only [Act.put, List.setIfInBounds_toArray, List.set_cons_succ, List.set_cons_zero]
        refine wpList_valn (v := .bool true) rfl (exec_eqInt true rfl (ev rfl) (ev rfl) HEQ.out) ?_
        simp only [Act.put, List.setIfInBounds_toArray, List.set_cons_succ, List.set_cons_zero]
        refine wpList_nil ?_
        go_wp2_with fail
        go_ret
        exact ⟨by rw [plcI_hit (plc_of HLT.out HE.out hno.out) HLT.out]; rfl, rfl⟩
      · have HEQ : Hid (((L.getD j ky0).n == k) = false) := Lib.hid (by simpa using he)
        have HE := Lib.hid he
        have hn := HN.out
        clear he
        go_upto_region 4 with fail
        refine wp_region_lit ?_
        refine wpList_valn rfl (exec_mv rfl (ev rfl)) ?_
        simp only [Act.put, List.setIfInBounds_toArray, List.set_cons_succ, List.set_cons_zero]
        refine wpList_valn rfl (exec_nil rfl (ev rfl)) ?_
        simp only [Act.put, List.setIfInBounds_toArray, List.set_cons_succ, List.set_cons_zero]
        refine wpList_valn rfl (exec_faddr rfl (ev rfl) faRl1) ?_
        simp only [Act.put, List.setIfInBounds_toArray, List.set_cons_succ, List.set_cons_zero]
        refine wpList_valn rfl (exec_ld rfl (ev rfl) (ldKs (HL.out).c1)) ?_
        simp only [Act.put, List.setIfInBounds_toArray, List.set_cons_succ, List.set_cons_zero]
        refine wpList_valn rfl (exec_mv rfl (ev rfl)) ?_
        simp only [Act.put, List.setIfInBounds_toArray, List.set_cons_succ, List.set_cons_zero]
        refine wpList_valn rfl (exec_indexE (E := KyE) (b := b) (off := off) (j := j) rfl ((ev rfl).trans (by rw [HA.out])) (ev rfl) HLT.out) ?_
        simp only [Act.put, List.setIfInBounds_toArray, List.set_cons_succ, List.set_cons_zero]
        refine wpList_valn rfl (exec_faddr rfl (ev rfl) faKy0) ?_
        simp only [Act.put, List.setIfInBounds_toArray, List.set_cons_succ, List.set_cons_zero]
        refine wpList_valn rfl (exec_ld rfl (ev rfl) (ldInt (ky_n HC.out))) ?_
        simp only [Act.put, List.setIfInBounds_toArray, List.set_cons_succ, List.set_cons_zero]
        refine wpList_valn rfl (exec_mv rfl (ev rfl)) ?_
        simp only [Act.put, List.setIfInBounds_toArray, List.set_cons_succ, List.set_cons_zero]
        refine wpList_valn (v := .bool false) rfl (exec_eqInt false rfl (ev rfl) (ev rfl) HEQ.out) ?_
        simp only [Act.put, List.setIfInBounds_toArray, List.set_cons_succ, List.set_cons_zero]
        refine wpList_nil ?_
        go_wp2_with fail
        go_round
        case rel =>
          refine ⟨j + 1, HLT.out, by go_num, Lib.hid fun t ht => ?_⟩
          by_cases e : t = j
          · subst e; exact HE.out
          · exact hno.out t (by omega)
        case measure => have := HLT.out; simp [intOf]; omega
    · have HLS : Hid (decide ((j : Int) < (L.length : Int)) = false) := Lib.hid (decide_eq_false (by omega))
      have HP : Hid (¬ plc k L < L.length) := Lib.hid (by rw [plc_none fun t ht => hno.out t (by omega)]; omega)
      clear hlt
      go_upto_region 2 with fail
      refine wp_region_lit ?_
      refine wpList_valn rfl (exec_mv rfl (ev rfl)) ?_
      simp only [Act.put, List.setIfInBounds_toArray, List.set_cons_succ, List.set_cons_zero]
      refine wpList_valn rfl (exec_mv rfl (ev rfl)) ?_
      simp only [Act.put, List.setIfInBounds_toArray, List.set_cons_succ, List.set_cons_zero]
      refine wpList_valn rfl (exec_nil rfl (ev rfl)) ?_
      simp only [Act.put, List.setIfInBounds_toArray, List.set_cons_succ, List.set_cons_zero]
      refine wpList_valn rfl (exec_faddr rfl (ev rfl) faRl1) ?_
      simp only [Act.put, List.setIfInBounds_toArray, List.set_cons_succ, List.set_cons_zero]
      refine wpList_valn rfl (exec_ld rfl (ev rfl) (ldKs (HL.out).c1)) ?_
      simp only [Act.put, List.setIfInBounds_toArray, List.set_cons_succ, List.set_cons_zero]
      refine wpList_valn rfl (exec_lenE KyE rfl (ev rfl)) ?_
      simp only [Act.put, List.setIfInBounds_toArray, List.set_cons_succ, List.set_cons_zero]
      refine wpList_valn (v := .bool false) rfl (exec_lss false rfl (ev rfl) (ev rfl) HLS.out) ?_
      simp only [Act.put, List.setIfInBounds_toArray, List.set_cons_succ, List.set_cons_zero]
      refine wpList_nil ?_
      go_wp2_with fail
      go_ret
      exact ⟨by rw [plcI_no HP.out]; rfl, rfl⟩
theorem r_place_hit (w : World) (h : RLu w B q room v L) {i : Nat} (hp : plc k L = i) (hi : i < L.length) : Calls Try.prog 34 #[.pointer (some ⟨q, 0, none⟩), .int .i64 k] w fun e w' => e = .returned (.int .i64 (i : Int)) ∧ w = w' :=
  (r_place w h).mono fun e w' hh => by rw [plcI_hit hp hi] at hh; exact hh
theorem r_place_no (w : World) (h : RLu w B q room v L) (hi : ¬ plc k L < L.length) : Calls Try.prog 34 #[.pointer (some ⟨q, 0, none⟩), .int .i64 k] w fun e w' => e = .returned (.int .i64 (-1)) ∧ w = w' :=
  (r_place w h).mono fun e w' hh => by rw [plcI_no hi] at hh; exact hh
set_option maxHeartbeats 1000000 in
theorem r_ahead (x : Ky) (w : World) {N : Nat} (h : RdE KyE w N A n L) (hN : N ≤ w.heap.size) (hl : L.length ≤ 64) : Calls Try.prog 35 #[kyV x, .slice A n c] w fun e w' => ∃ v, e = .returned v ∧ MadeE KyE w' w.heap.size v (x :: L) ∧ Below w.heap.size w w' := by
  obtain ⟨w1, hw1⟩ : ∃ w1, w.alloc (.cells (KyE.cel x).toArray 58) = w1 := ⟨_, rfl⟩
  have hb1 : Below w.heap.size w w1 := by rw [← hw1]; exact (Below.refl _ _).alloc (Nat.le_refl _) _
  have hg1 : w1.heap[w.heap.size]? = some (.cells (KyE.cel x).toArray 58) := by rw [← hw1]; exact heap_alloc_new w _
  have HW1 := Lib.hid hw1
  have HB1 := Lib.hid hb1
  have HX := Lib.hid (rng_at hg1)
  have HR := Lib.hid h
  have HN := Lib.hid hN
  have HLN := Lib.hid hl
  have HE := Lib.hid h.1
  have HS1 : Hid (w.heap.size ≤ w1.heap.size) := Lib.hid hb1.size
  clear h hN hl hw1 hb1 hg1
  go_enter Try.func35, Try.ntmps35
  go_upto_region 0 with fail
  refine wp_region_lit ?_
  refine wpList_valn rfl (exec_boxT (cs := KyE.cel x) rfl (ev rfl)) ?_
  simp only [Act.put, List.setIfInBounds_toArray, List.set_cons_succ, List.set_cons_zero]
  rw [HW1.out]
  refine wpList_valn rfl (exec_as rfl evk) ?_
  simp only [Act.put, List.setIfInBounds_toArray, List.set_cons_succ, List.set_cons_zero]
  refine wpList_nil ?_
  go_upto_region 2 with fail
  refine wp_region_lit ?_
  refine wpList_valn rfl (exec_mv rfl (ev rfl)) ?_
  simp only [Act.put, List.setIfInBounds_toArray, List.set_cons_succ, List.set_cons_zero]
  refine wpList_valn rfl (exec_loadK (a := x) rfl (ev rfl) HX.out) ?_
  simp only [Act.put, List.setIfInBounds_toArray, List.set_cons_succ, List.set_cons_zero]
  refine wpList_valn rfl (exec_mk1E (E := KyE) (a := x) rfl (ev rfl) (kyV_cells x) (by decide)) ?_
  simp only [Act.put, List.setIfInBounds_toArray, List.set_cons_succ, List.set_cons_zero]
  refine wpList_appE KyE rfl _ _ rfl w.heap.size (w1.heap.size + 1) 1 1 _ [] [x] (some ⟨w1.heap.size, 0, none⟩) (ev rfl) (ev rfl) (MadeE.nil _ _) (rdE_new w1 _ _ (by simp [flatE])) (by rw [World.size_alloc]; exact Nat.le_succ_of_le HS1.out) (by simp) ?_
  intro v' w2 hm2 hg2
  rw [List.nil_append] at hm2
  have HM2 := Lib.hid hm2
  have HB2 : Hid (Below w.heap.size w w2) := Lib.hid ((HB1.out.alloc HS1.out _).grown hg2 (by have := HS1.out; simp; omega) fun j hj => by simp [Value.ownBlock] at hj)
  clear hm2 hg2
  simp only [Act.put, List.setIfInBounds_toArray, List.set_cons_succ, List.set_cons_zero]
  refine wpList_valn rfl (exec_as rfl (ev rfl)) ?_
  simp only [Act.put, List.setIfInBounds_toArray, List.set_cons_succ, List.set_cons_zero]
  refine wpList_nil ?_
  go_upto_region 3 with fail
  refine wp_region_lit ?_
  refine wpList_valn rfl (exec_mv rfl (ev rfl)) ?_
  simp only [Act.put, List.setIfInBounds_toArray, List.set_cons_succ, List.set_cons_zero]
  refine wpList_valn rfl (exec_mv rfl (ev rfl)) ?_
  simp only [Act.put, List.setIfInBounds_toArray, List.set_cons_succ, List.set_cons_zero]
  refine wpList_appE KyE rfl _ _ rfl w.heap.size N n c _ [x] L A (ev rfl) (ev rfl) HM2.out (HR.out.below (HB2.out.mono HN.out)) HB2.out.size (by have := HLN.out; have := HE.out; simp; omega) ?_
  intro v3 w3 hm3 hg3
  have HM3 := Lib.hid hm3
  have HB3 : Hid (Below w.heap.size w w3) := Lib.hid (HB2.out.grown hg3 HB2.out.size fun j hj => HM2.out.lt_own j hj)
  clear hm3 hg3
  simp only [Act.put, List.setIfInBounds_toArray, List.set_cons_succ, List.set_cons_zero]
  refine wpList_valn rfl (exec_as rfl (ev rfl)) ?_
  simp only [Act.put, List.setIfInBounds_toArray, List.set_cons_succ, List.set_cons_zero]
  refine wpList_nil ?_
  go_wp2_with fail
  go_ret
  exact ⟨_, rfl, HM3.out, HB3.out⟩
set_option maxHeartbeats 1000000 in
theorem r_without (w : World) (h : RLu w B q room v L) {i : Nat} (hi : i < L.length) : Calls Try.prog 36 #[.pointer (some ⟨q, 0, none⟩), .int .i64 (i : Int)] w fun e w' => ∃ v, e = .returned v ∧ MadeE KyE w' w.heap.size v (wo L i) ∧ Below w.heap.size w w' := by
  obtain ⟨A, c, rfl, h1, h2⟩ := h.row.form
  have HL := Lib.hid h
  have HI := Lib.hid hi
  have HLE : Hid (i ≤ c) := Lib.hid (by omega)
  have HC := Lib.hid h1
  have HN := Lib.hid h.len
  have HWR : Hid (IntKind.i64.wrap ((i : Int) + 1) = ((i + 1 : Nat) : Int)) := Lib.hid (by have := h.len; rw [IntWalk.i64_in _ ⟨by omega, by omega⟩]; omega)
  clear h hi h1 h2
  go_enter Try.func36, Try.ntmps36
  go_upto_region 2 with fail
  refine wp_region_lit ?_
  refine wpList_valn rfl (exec_mv rfl (ev rfl)) ?_
  simp only [Act.put, List.setIfInBounds_toArray, List.set_cons_succ, List.set_cons_zero]
  refine wpList_valn rfl (exec_mv rfl (ev rfl)) ?_
  simp only [Act.put, List.setIfInBounds_toArray, List.set_cons_succ, List.set_cons_zero]
  refine wpList_valn rfl (exec_nil rfl (ev rfl)) ?_
  simp only [Act.put, List.setIfInBounds_toArray, List.set_cons_succ, List.set_cons_zero]
  refine wpList_valn rfl (exec_faddr rfl (ev rfl) faRl1) ?_
  simp only [Act.put, List.setIfInBounds_toArray, List.set_cons_succ, List.set_cons_zero]
  refine wpList_valn rfl (exec_ld rfl (ev rfl) (ldKs (HL.out).c1)) ?_
  simp only [Act.put, List.setIfInBounds_toArray, List.set_cons_succ, List.set_cons_zero]
  refine wpList_valn rfl (exec_mv rfl (ev rfl)) ?_
  simp only [Act.put, List.setIfInBounds_toArray, List.set_cons_succ, List.set_cons_zero]
  refine wpList_valn rfl (exec_headE (E := KyE) rfl (ev rfl) (ev rfl) HLE.out) ?_
  simp only [Act.put, List.setIfInBounds_toArray, List.set_cons_succ, List.set_cons_zero]
  refine wpList_appE KyE rfl _ _ rfl w.heap.size w.heap.size i c _ [] (L.take i) A (ev rfl) (ev rfl) (MadeE.nil _ _) (HL.out.row.rd.headE (Nat.le_of_lt HI.out)) (Nat.le_refl _) (by have := HN.out; have := HI.out; simp; omega) ?_
  intro v' w2 hm2 hg2
  rw [List.nil_append] at hm2
  have HM2 := Lib.hid hm2
  have HB2 : Hid (Below w.heap.size w w2) := Lib.hid ((Below.refl _ _).grown hg2 (Nat.le_refl _) fun j hj => by simp [Value.ownBlock] at hj)
  have HL2 := Lib.hid (HL.out.below HB2.out)
  clear hm2 hg2
  simp only [Act.put, List.setIfInBounds_toArray, List.set_cons_succ, List.set_cons_zero]
  refine wpList_valn rfl (exec_as rfl (ev rfl)) ?_
  simp only [Act.put, List.setIfInBounds_toArray, List.set_cons_succ, List.set_cons_zero]
  refine wpList_nil ?_
  go_upto_region 3 with fail
  refine wp_region_lit ?_
  refine wpList_valn rfl (exec_mv rfl (ev rfl)) ?_
  simp only [Act.put, List.setIfInBounds_toArray, List.set_cons_succ, List.set_cons_zero]
  refine wpList_valn rfl (exec_mv rfl (ev rfl)) ?_
  simp only [Act.put, List.setIfInBounds_toArray, List.set_cons_succ, List.set_cons_zero]
  refine wpList_valn rfl (exec_nil rfl (ev rfl)) ?_
  simp only [Act.put, List.setIfInBounds_toArray, List.set_cons_succ, List.set_cons_zero]
  refine wpList_valn rfl (exec_faddr rfl (ev rfl) faRl1) ?_
  simp only [Act.put, List.setIfInBounds_toArray, List.set_cons_succ, List.set_cons_zero]
  refine wpList_valn rfl (exec_ld rfl (ev rfl) (ldKs (HL2.out).c1)) ?_
  simp only [Act.put, List.setIfInBounds_toArray, List.set_cons_succ, List.set_cons_zero]
  refine wpList_valn rfl (exec_mv rfl (ev rfl)) ?_
  simp only [Act.put, List.setIfInBounds_toArray, List.set_cons_succ, List.set_cons_zero]
  refine wpList_valn rfl (exec_add rfl (ev rfl) evk HWR.out) ?_
  simp only [Act.put, List.setIfInBounds_toArray, List.set_cons_succ, List.set_cons_zero]
  refine wpList_valn rfl (exec_tailE (E := KyE) rfl (ev rfl) (ev rfl) HI.out) ?_
  simp only [Act.put, List.setIfInBounds_toArray, List.set_cons_succ, List.set_cons_zero]
  refine wpList_appE KyE rfl _ _ rfl w.heap.size w2.heap.size (L.length - (i + 1)) (c - (i + 1)) _ (L.take i) (L.drop (i + 1)) (tailE KyE A c (i + 1)) (ev rfl) (ev rfl) HM2.out (HL2.out.row.rd.tailE HI.out HC.out) HB2.out.size (by have := HN.out; simp; omega) ?_
  intro v3 w3 hm3 hg3
  have HM3 := Lib.hid hm3
  have HB3 : Hid (Below w.heap.size w w3) := Lib.hid (HB2.out.grown hg3 HB2.out.size fun j hj => HM2.out.lt_own j hj)
  clear hm3 hg3
  simp only [Act.put, List.setIfInBounds_toArray, List.set_cons_succ, List.set_cons_zero]
  refine wpList_valn rfl (exec_as rfl (ev rfl)) ?_
  simp only [Act.put, List.setIfInBounds_toArray, List.set_cons_succ, List.set_cons_zero]
  refine wpList_nil ?_
  go_wp2_with fail
  go_ret
  exact ⟨_, rfl, HM3.out, HB3.out⟩
end
end Go.Proofs.Ytmnabdojlekjcaa
