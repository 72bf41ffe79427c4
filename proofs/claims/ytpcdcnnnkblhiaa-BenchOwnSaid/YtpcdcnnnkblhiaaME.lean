/-
  Four blocks laid one behind the other; a block that is torn.
  ashlarref03.Torn.
  The reference's device: what it has, where it lies; Asks, Sure, Read.
  The reference's device: Sure, Read.
  The reference's device: Fail, Write.
  The reference's device: Flush.
  The reference's device: Crash.
  The reference's device: Rot, New.
  The document's device with its blocks hidden: one contract a method, all of one form.
  What the laws of layer 5 lean on: a device of the program, told by what it has (what is sure, what is loose, whether it is dead) and where it lies. The contracts are fields: whoever shows them of a landed disk has the laws.
  Pieces of []int from a place on.
  A bench as a value (its devices, how many steps are left, whether it is dark, how many steps were done), and what each call answers and leaves. Rows of devices in memory.
  A bench in memory, whoever made it: an object of four cells, a row of pointers, the devices.
  Benches that are being made: by New, device by device; by Copy, device by device.
  What the laws of benches lean on, whoever's bench it is: its methods' numbers, a relation, a contract a method.
-/
import Derived.Test.YtpcdcnnnkblhiaaMB
import Derived.Test.YtpcdcnnnkblhiaaMC
namespace Go.Proofs.Ytpcdcnnnkblhiaa
open Go.RowKit
set_option linter.unusedVariables false

/-- Four blocks laid one behind the other. -/
def four_ (w : World) (a b c d : Blk) : World := (((w.alloc (.cells (cel a).toArray 34)).alloc (.cells (cel b).toArray 34)).alloc (.cells (cel c).toArray 34)).alloc (.cells (cel d).toArray 34)
theorem laid4 (w : World) (a b c d : Blk) : (four_ w a b c d).rangeAt w.heap.size 0 (cel a) ∧ (four_ w a b c d).rangeAt (w.heap.size + 1) 0 (cel b) ∧ (four_ w a b c d).there (w.heap.size + 1 + 1) 0 64 ∧
    (four_ w a b c d).rowIs (w.heap.size + 1 + 1 + 1) 34 64 (fun j => .int .u8 (byt d j)) ∧ Below w.heap.size w (four_ w a b c d) := by
  unfold four_
  have e1 := World.size_alloc (w := w) (o := Obj.cells (cel a).toArray 34)
  have e2 := World.size_alloc (w := (w.alloc (.cells (cel a).toArray 34))) (o := Obj.cells (cel b).toArray 34)
  have e3 := World.size_alloc (w := (w.alloc (.cells (cel a).toArray 34)).alloc (.cells (cel b).toArray 34)) (o := Obj.cells (cel c).toArray 34)
  refine ⟨World.rangeAt_alloc (World.rangeAt_alloc (World.rangeAt_alloc (range_new w (cel a) _) _) _) _, ?_, ?_, ?_, ?_⟩
  · rw [← e1]; exact World.rangeAt_alloc (World.rangeAt_alloc (range_new _ (cel b) _) _) _
  · rw [← e1, ← e2]; exact World.there_alloc (there_new _ c _) _
  · rw [← e1, ← e2, ← e3]; exact row_new _ d _
  · exact ((((Below.refl _ w).alloc (Nat.le_refl _) _).alloc (by omega) _).alloc (by omega) _).alloc (by omega) _

/-- The first bytes of a new block, the others of an old one. -/
def torn (old now : Blk) (n : Int) : Blk := Vector.ofFn fun i => if (i.val : Int) < n then now[i] else old[i]
theorem torn_get (old now : Blk) (n : Int) (i : Nat) (h : i < 64) : (torn old now n)[i] = if (i : Int) < n then now[i] else old[i] := by simp [torn]
theorem torn_byt (old now : Blk) (n : Int) {i : Nat} (h : i < 64) : byt (torn old now n) i = if (i : Int) < n then byt now i else byt old i := by
  rw [byt_get _ h, torn_get _ _ _ _ h]
  split
  · rw [byt_get _ h]
  · rw [byt_get _ h]
theorem torn_same (a : Blk) (n : Int) : torn a a n = a := Vector.ext fun i h => by rw [torn_get _ _ _ _ h]; split <;> rfl
end Go.Proofs.Ytpcdcnnnkblhiaa
namespace Go.Proofs.Ytpcdcnnnkblhiaa
open Go.RowKit
set_option linter.unusedVariables false

set_option maxHeartbeats 800000 in
theorem refTorn_any (a b : Blk) (n : Int) (w : World) : Calls Try.prog 79 #[blk a, blk b, .int .i64 n] w fun e w' => e = .returned (blk (torn a b n)) ∧ Below w.heap.size w w' := by
  obtain ⟨hA, hB, hR, hO, hb⟩ := laid4 w a b zeroB a
  obtain ⟨w4, hw4⟩ : ∃ w4, four_ w a b zeroB a = w4 := ⟨_, rfl⟩
  rw [hw4] at hA hB hR hO hb
  have hA0 := World.rangeAt_alloc (World.rangeAt_alloc (range_new w (cel a) 34) (.cells (cel b).toArray 34)) (.cells (cel zeroB).toArray 34)
  have HA0 := Lib.hid hA0
  have HW := Lib.hid hw4
  have HB := Lib.hid hB
  have HR := Lib.hid hR
  clear hw4 hA hB hR hA0
  go_enter Try.func79, Try.ntmps79
  go_wp2_with (first | (refine wpList_val rfl (exec_box rfl rfl) ?_) | (refine wpList_val rfl (exec_alloc rfl) ?_) | (refine wpList_val rfl (exec_load rfl rfl HA0.out) ?_) | (refine wpList_nul rfl (exec_fill rfl rfl rfl) ?_))
  have hs := HW.out
  unfold four_ at hs
  rw [hs]
  clear hs HW
  generalize hsz : w.heap.size = s at *
  go_loopw [8] (fun i wr => ∃ (j : Nat) (f : Nat → Int), j ≤ 64 ∧ ((j : Int) ≤ n ∨ j = 0) ∧ i = .int .i64 j ∧ wr.rowIs (s + 1 + 1 + 1) 34 64 (fun j => .int .u8 (f j)) ∧ (∀ m, m < 64 → f m = if m < j then byt b m else byt a m) ∧ Below (s + 1 + 1 + 1) w4 wr) (fun i _ => 64 - (intOf i).toNat)
  case atStart => exact ⟨0, byt a, by omega, .inr rfl, rfl, hO, fun m hm => rfl, Below.refl _ _⟩
  case round =>
    obtain ⟨j, f, hj, hjn, rfl, hrow, hf, hbl⟩ := hrel
    have HF := Lib.hid hf
    clear hf hO
    by_cases hlt : j < 64 ∧ (j : Int) < n
    · obtain ⟨h64, hn⟩ := hlt
      first
        | (exfalso; omega)
        | skip
          have hc1 := hrow.cell (i := j) (by omega)
          have hfr := hrow.frozen j
          have hb' := range_below HB.out (by omega) hbl j _ (cel_at b h64)
          rw [Nat.zero_add] at hb'
          go_wp2_with fail
          go_roundw
          case rel =>
            refine ⟨j + 1, upd f j (byt b j), by omega, .inl (by omega), by go_num, row_put hrow _, ?_, hbl.setCell (by simp) _⟩
            intro m hm
            by_cases e : m = j
            · subst e; rw [upd_at, if_pos (by omega)]
            · rw [upd_off _ _ e, HF.out m hm]
              by_cases e2 : m < j
              · rw [if_pos e2, if_pos (by omega)]
              · rw [if_neg e2, if_neg (by omega)]
          case measure => simp [intOf]; omega
    · have hr := range_row (c := torn a b n) (o := 0) hrow (by omega) (fun m hm => by
        rw [Nat.zero_add, HF.out m hm, torn_byt _ _ _ hm]
        by_cases e : m < j
        · rw [if_pos e, if_pos (by omega)]
        · rw [if_neg e, if_neg (by omega)])
      have ht := there_below HR.out (by omega) hbl
      have hex : 64 ≤ j ∨ (j < 64 ∧ n ≤ (j : Int)) := by omega
      have HR2 := Lib.hid hr
      have HT2 := Lib.hid ht
      clear hr ht hlt
      rcases hex with h1 | ⟨h1, h2⟩
      all_goals
        go_wp2_with (first | (refine wpList_val rfl (exec_load rfl rfl HR2.out) ?_) | (refine wpList_nul rfl (exec_store rfl rfl rfl HT2.out) ?_))
        refine bodyPost_ret (res_blk rfl _ _ _ rfl (World.rangeAt_setCells_same _ _ _ _ (by rw [cel_length]; exact HT2.out))) rfl ⟨rfl, ?_⟩
        try rw [hsz]
        exact hb.trans (below_setCells (hbl.mono (by omega)) (by omega) _)
end Go.Proofs.Ytpcdcnnnkblhiaa
namespace Go.Proofs.Ytpcdcnnnkblhiaa
open Go.RowKit
set_option linter.unusedVariables false
set_option maxRecDepth 100000

def LooE : Elt (Int × Blk) := pairE 88 96 Try.underlying88 (by kernel_rfl)
section
variable {α : Type} {E : Elt α} {w w' : World} {B p : Nat} {v : Value} {l : List α} {F : Nat → Prop}
theorem MadeE.only (h : MadeE E w B v l) (k : Only F w w') (hn : ∀ b, v.ownBlock = some b → ¬ F b) : MadeE E w' B v l := by
  refine ⟨h.1, ?_⟩
  rcases h.2 with hn' | ⟨g, cap, cur, rfl, hbg, hg, rest⟩
  · exact .inl hn'
  · exact .inr ⟨g, cap, cur, rfl, hbg, (k.block g (Array.getElem?_eq_some_iff.1 hg).1 (hn g rfl)).trans hg, rest⟩
theorem MadeE.own_lt (h : MadeE E w B v l) : ∀ b, v.ownBlock = some b → b < w.heap.size := by
  intro b hb
  rcases h.2 with ⟨rfl, _⟩ | ⟨g, cap, cur, rfl, _, hg, _⟩
  · simp [Value.ownBlock] at hb
  · simp [Value.ownBlock] at hb; subst hb; exact (Array.getElem?_eq_some_iff.1 hg).1
theorem MadeE.not_at (h : MadeE E w B v l) {cs : Array Value} {t : TypeId} {fr : Nat × Nat} (hp : w.heap[p]? = some (.cells cs t fr)) (ht : E.t ≠ t) : v.ownBlock ≠ some p := by
  intro e
  rcases h.2 with ⟨rfl, _⟩ | ⟨g, cap, cur, rfl, _, hg, _⟩
  · simp [Value.ownBlock] at e
  · simp [Value.ownBlock] at e
    subst e
    rw [hp] at hg
    simp at hg
    exact ht hg.2.1.symm
end
/-- The reference's device lies at p: its rows are vS, vL; it has S, what is loose is L, it is dead just if g. -/
structure RefD (w : World) (p : Nat) (vS vL : Value) (S : List Blk) (L : List (Int × Blk)) (g : Bool) : Prop where
  at_ : w.heap[p]? = some (.cells #[vS, vL, .bool g] 90)
  S_ : MadeE BlkE w 0 vS S
  L_ : MadeE LooE w 0 vL L
/-- The blocks of a device. -/
def foot (p : Nat) (vS vL : Value) (k : Nat) : Prop := k = p ∨ vS.ownBlock = some k ∨ vL.ownBlock = some k
section
variable {w w' : World} {p : Nat} {vS vL : Value} {S : List Blk} {L : List (Int × Blk)} {g : Bool} {F : Nat → Prop}
theorem RefD.lt (h : RefD w p vS vL S L g) : ∀ k, foot p vS vL k → k < w.heap.size := by
  intro k hk
  rcases hk with rfl | hk | hk
  · exact (Array.getElem?_eq_some_iff.1 h.at_).1
  · exact h.S_.own_lt k hk
  · exact h.L_.own_lt k hk
theorem RefD.only (h : RefD w p vS vL S L g) (k : Only F w w') (hn : ∀ b, foot p vS vL b → ¬ F b) : RefD w' p vS vL S L g :=
  ⟨k.keep h.at_ (hn p (.inl rfl)), h.S_.only k fun b hb => hn b (.inr (.inl hb)), h.L_.only k fun b hb => hn b (.inr (.inr hb))⟩
theorem RefD.below (h : RefD w p vS vL S L g) (k : Below w.heap.size w w') : RefD w' p vS vL S L g := h.only (Only.of_below (fun _ => False) k) fun _ _ e => e
end
/-- What a call of a sector asks. -/
def askE (S : List Blk) (g : Bool) (n : Int) : Int := if 0 ≤ n ∧ n < S.length then (if g = true then 9 else 0) else 2
theorem askE_out {S : List Blk} {n : Int} (g : Bool) (h : ¬(0 ≤ n ∧ n < S.length)) : askE S g n = 2 := by unfold askE; rw [if_neg h]
theorem askE_dead {S : List Blk} {n : Int} (h : 0 ≤ n ∧ n < S.length) : askE S true n = 9 := by unfold askE; rw [if_pos h]; rfl
theorem askE_ok {S : List Blk} {n : Int} (h : 0 ≤ n ∧ n < S.length) : askE S false n = 0 := by unfold askE; rw [if_pos h]; rfl

theorem r_asks (p : Nat) (vS vL : Value) (S : List Blk) (L : List (Int × Blk)) (g : Bool) (n : Int) (w : World) (h : RefD w p vS vL S L g) :
    Calls Try.prog 66 #[.pointer (some ⟨p, 0, none⟩), .int .i64 n] w fun e w' => e = .returned (.int .i64 (askE S g n)) ∧ w = w' := by
  obtain ⟨c0, c1, c2⟩ := cells3 h.at_
  obtain ⟨A, c, rfl, hc1, hc2⟩ := h.S_.form
  by_cases h0 : n < 0
  · have HE := Lib.hid (askE_out (S := S) (n := n) g (by omega))
    go_enter Try.func66, Try.ntmps66
    go_wp2
    go_ret
    exact ⟨ret_int HE.out.symm, rfl⟩
  · by_cases h1 : n < S.length
    · cases g
      · have HE := Lib.hid (askE_ok (S := S) (n := n) (by omega))
        go_enter Try.func66, Try.ntmps66
        go_wp2
        go_ret
        exact ⟨ret_int HE.out.symm, rfl⟩
      · have HE := Lib.hid (askE_dead (S := S) (n := n) (by omega))
        go_enter Try.func66, Try.ntmps66
        go_wp2
        go_ret
        exact ⟨ret_int HE.out.symm, rfl⟩
    · have HE := Lib.hid (askE_out (S := S) (n := n) g (by omega))
      go_enter Try.func66, Try.ntmps66
      go_wp2
      go_ret
      exact ⟨ret_int HE.out.symm, rfl⟩
end Go.Proofs.Ytpcdcnnnkblhiaa
namespace Go.Proofs.Ytpcdcnnnkblhiaa
open Go.RowKit
set_option linter.unusedVariables false
set_option maxRecDepth 100000

def sureB (S : List Blk) (g : Bool) (n : Int) : Blk := if askE S g n = 0 then S.getD n.toNat zeroB else zeroB
theorem sureB_no {S : List Blk} {g : Bool} {n : Int} (h : askE S g n ≠ 0) : sureB S g n = zeroB := by unfold sureB; rw [if_neg h]
theorem sureB_ok {S : List Blk} {g : Bool} {k : Nat} (h : askE S g (k : Int) = 0) : sureB S g (k : Int) = S.getD k zeroB := by unfold sureB; rw [if_pos h]; rfl
theorem askE_is {S : List Blk} {g : Bool} {n : Int} : askE S g n = 2 ∨ askE S g n = 9 ∨ (askE S g n = 0 ∧ g = false ∧ ∃ k : Nat, n = k ∧ k < S.length) := by
  unfold askE
  split
  · rename_i h
    cases g
    · exact .inr (.inr ⟨rfl, rfl, n.toNat, by omega, by omega⟩)
    · exact .inr (.inl rfl)
  · exact .inl rfl
set_option maxHeartbeats 1000000 in
theorem r_sure (p : Nat) (vS vL : Value) (S : List Blk) (L : List (Int × Blk)) (g : Bool) (n : Int) (w : World) (h : RefD w p vS vL S L g) :
    Calls Try.prog 74 #[.pointer (some ⟨p, 0, none⟩), .int .i64 n] w fun e w' => e = .returned (.tuple #[blk (sureB S g n), .int .i64 (askE S g n)]) ∧ Below w.heap.size w w' := by
  have hA := (Below.refl w.heap.size w).alloc (Nat.le_refl _) (.cells (cel zeroB).toArray 34)
  have h1 := h.below hA
  have HT := Lib.hid (there_new w zeroB 34)
  have HA := Lib.hid hA
  clear hA
  rcases askE_is (S := S) (g := g) (n := n) with he | he | ⟨he, rfl, k, rfl, hk⟩
  · have HS := Lib.hid (sureB_no (S := S) (g := g) (n := n) (by omega))
    have HE := Lib.hid he
    clear he
    go_enter Try.func74, Try.ntmps74
    go_wp2_with (first | (refine wpList_val rfl (exec_alloc rfl) ?_) | fail)
    refine (r_asks p vS vL S L g n _ h1).mono ?_
    rintro e w1 ⟨rfl, rfl⟩
    rw [HE.out]
    go_wp2_with (first | (refine wpList_val rfl (exec_build (c := zeroB) (parts := []) rfl rfl) ?_) | (refine wpList_nul rfl (exec_store rfl rfl rfl HT.out) ?_))
    refine bodyPost_ret (res_blk2 rfl _ _ _ rfl (World.rangeAt_setCells_same _ _ _ _ (by rw [cel_length]; exact HT.out))) rfl ⟨by rw [HS.out, HE.out]; rfl, below_setCells HA.out (Nat.le_refl _) _⟩
  · have HS := Lib.hid (sureB_no (S := S) (g := g) (n := n) (by omega))
    have HE := Lib.hid he
    clear he
    go_enter Try.func74, Try.ntmps74
    go_wp2_with (first | (refine wpList_val rfl (exec_alloc rfl) ?_) | fail)
    refine (r_asks p vS vL S L g n _ h1).mono ?_
    rintro e w1 ⟨rfl, rfl⟩
    rw [HE.out]
    go_wp2_with (first | (refine wpList_val rfl (exec_build (c := zeroB) (parts := []) rfl rfl) ?_) | (refine wpList_nul rfl (exec_store rfl rfl rfl HT.out) ?_))
    refine bodyPost_ret (res_blk2 rfl _ _ _ rfl (World.rangeAt_setCells_same _ _ _ _ (by rw [cel_length]; exact HT.out))) rfl ⟨by rw [HS.out, HE.out]; rfl, below_setCells HA.out (Nat.le_refl _) _⟩
  · have HS := Lib.hid (sureB_ok he)
    have HE := Lib.hid he
    clear he
    obtain ⟨A, c, rfl, hrd, hc1, hc2⟩ := h1.S_.open_ rfl
    obtain ⟨b, off, rfl, hb, hr⟩ := hrd.blk hk
    obtain ⟨c0, c1, c2⟩ := cells3 h1.at_
    generalize S.getD k zeroB = x at *
    have HR := Lib.hid hr
    clear hr hrd
    go_enter Try.func74, Try.ntmps74
    go_wp2_with (first | (refine wpList_val rfl (exec_alloc rfl) ?_) | fail)
    refine (r_asks p _ vL S L false k _ h1).mono ?_
    rintro e w1 ⟨rfl, rfl⟩
    rw [HE.out]
    go_wp2_with (first | (refine wpList_val rfl (exec_load rfl rfl HR.out) ?_) | (refine wpList_nul rfl (exec_store rfl rfl rfl HT.out) ?_))
    refine bodyPost_ret (res_blk2 rfl _ _ _ rfl (World.rangeAt_setCells_same _ _ _ _ (by rw [cel_length]; exact HT.out))) rfl ⟨by rw [HS.out, HE.out]; rfl, below_setCells HA.out (Nat.le_refl _) _⟩
/-- What was written last of a sector. -/
def lastW (L : List (Int × Blk)) (n : Int) (b : Blk) : Blk := L.foldl (fun b q => if q.1 = n then q.2 else b) b
theorem lastW_succ {L : List (Int × Blk)} {i : Nat} (n : Int) (b : Blk) (hi : i < L.length) : lastW (L.take (i + 1)) n b = if (L.getD i (0, zeroB)).1 = n then (L.getD i (0, zeroB)).2 else lastW (L.take i) n b := by
  rw [List.take_add_one, List.getD, List.getElem?_eq_getElem hi]
  simp only [lastW, Option.toList_some, List.foldl_append, List.foldl_cons, List.foldl_nil, Option.getD_some]
def readB (S : List Blk) (L : List (Int × Blk)) (g : Bool) (n : Int) : Blk := if askE S g n = 0 then lastW L n (S.getD n.toNat zeroB) else zeroB
theorem readB_no {S : List Blk} {L : List (Int × Blk)} {g : Bool} {n : Int} (h : askE S g n ≠ 0) : readB S L g n = zeroB := by unfold readB; rw [if_neg h]
theorem readB_ok {S : List Blk} {L : List (Int × Blk)} {g : Bool} {k : Nat} (h : askE S g (k : Int) = 0) : readB S L g (k : Int) = lastW L k (S.getD k zeroB) := by unfold readB; rw [if_pos h]; rfl
theorem r_read_no (p : Nat) (vS vL : Value) (S : List Blk) (L : List (Int × Blk)) (g : Bool) (n : Int) (w : World) (h : RefD w p vS vL S L g) (he0 : askE S g n ≠ 0) :
    Calls Try.prog 69 #[.pointer (some ⟨p, 0, none⟩), .int .i64 n] w fun e w' => e = .returned (.tuple #[blk (readB S L g n), .int .i64 (askE S g n)]) ∧ Below w.heap.size w w' := by
  have hA := (Below.refl w.heap.size w).alloc (Nat.le_refl _) (.cells (cel zeroB).toArray 34)
  have h1 := h.below hA
  have HT := Lib.hid (there_new w zeroB 34)
  have HA := Lib.hid hA
  have HS := Lib.hid (readB_no (L := L) he0)
  clear hA
  rcases askE_is (S := S) (g := g) (n := n) with he | he | ⟨he, _⟩
  · have HE := Lib.hid he
    clear he he0
    go_enter Try.func69, Try.ntmps69
    go_wp2_with (first | (refine wpList_val rfl (exec_alloc rfl) ?_) | fail)
    refine (r_asks p vS vL S L g n _ h1).mono ?_
    rintro e w1 ⟨rfl, rfl⟩
    rw [HE.out]
    go_wp2_with (first | (refine wpList_val rfl (exec_build (c := zeroB) (parts := []) rfl rfl) ?_) | (refine wpList_nul rfl (exec_store rfl rfl rfl HT.out) ?_))
    refine bodyPost_ret (res_blk2 rfl _ _ _ rfl (World.rangeAt_setCells_same _ _ _ _ (by rw [cel_length]; exact HT.out))) rfl ⟨by rw [HS.out, HE.out]; rfl, below_setCells HA.out (Nat.le_refl _) _⟩
  · have HE := Lib.hid he
    clear he he0
    go_enter Try.func69, Try.ntmps69
    go_wp2_with (first | (refine wpList_val rfl (exec_alloc rfl) ?_) | fail)
    refine (r_asks p vS vL S L g n _ h1).mono ?_
    rintro e w1 ⟨rfl, rfl⟩
    rw [HE.out]
    go_wp2_with (first | (refine wpList_val rfl (exec_build (c := zeroB) (parts := []) rfl rfl) ?_) | (refine wpList_nul rfl (exec_store rfl rfl rfl HT.out) ?_))
    refine bodyPost_ret (res_blk2 rfl _ _ _ rfl (World.rangeAt_setCells_same _ _ _ _ (by rw [cel_length]; exact HT.out))) rfl ⟨by rw [HS.out, HE.out]; rfl, below_setCells HA.out (Nat.le_refl _) _⟩
  · exact absurd he he0
set_option maxHeartbeats 2000000 in
theorem r_read_ok (p k : Nat) (vS vL : Value) (S : List Blk) (L : List (Int × Blk)) (w : World) (h : RefD w p vS vL S L false) (hk : k < S.length) :
    Calls Try.prog 69 #[.pointer (some ⟨p, 0, none⟩), .int .i64 k] w fun e w' => e = .returned (.tuple #[blk (readB S L false k), .int .i64 0]) ∧ Below w.heap.size w w' := by
  have hA := (Below.refl w.heap.size w).alloc (Nat.le_refl _) (.cells (cel zeroB).toArray 34)
  have h1 := h.below hA
  have he : askE S false k = 0 := askE_ok (by omega)
  have HE := Lib.hid he
  have HS := Lib.hid (readB_ok (L := L) he)
  have HN1 := new1 w (cel zeroB).toArray 34
  clear he
  obtain ⟨A, c, rfl, hrd, hc1, hc2⟩ := h1.S_.open_ rfl
  obtain ⟨b, off, rfl, hb, hr⟩ := hrd.blk hk
  obtain ⟨c0, c1, c2⟩ := cells3 h1.at_
  generalize S.getD k zeroB = x at *
  have HR := Lib.hid hr
  have HH := Lib.hid h1
  have HA := Lib.hid hA
  have HN := Lib.hid HN1
  have HSZ := Lib.hid (World.size_alloc w (.cells (cel zeroB).toArray 34))
  clear hr hrd h1 hA h HN1
  go_enter Try.func69, Try.ntmps69
  go_wp2_with (first | (refine wpList_val rfl (exec_alloc rfl) ?_) | fail)
  generalize w.alloc (.cells (cel zeroB).toArray 34) = w1 at *
  refine (r_asks p _ vL S L false k _ HH.out).mono ?_
  rintro e w2 ⟨rfl, rfl⟩
  rw [HE.out]
  go_wp2_with (first | (refine wpList_val rfl (exec_load rfl rfl HR.out) ?_) | (refine wpList_val rfl (exec_alloc rfl) ?_) | (refine wpList_nul rfl (exec_fill rfl rfl rfl) ?_) | fail)
  have HY := Lib.hid (new1 w1 (cel x).toArray 34)
  have HH2 := Lib.hid (HH.out.below ((Below.refl _ _).alloc (Nat.le_refl _) (.cells (cel x).toArray 34)))
  have HK2 := Lib.hid (blk_past HN.out (.cells (cel x).toArray 34))
  have HA2 := Lib.hid (HA.out.alloc HA.out.size (.cells (cel x).toArray 34))
  have HF := Lib.hid HH.out.lt
  have hyw : w.heap.size < w1.heap.size := by rw [HSZ.out]; omega
  have HSZ2 := Lib.hid (World.size_alloc w1 (.cells (cel x).toArray 34))
  clear HH HN HA c0 c1 c2 HR
  generalize hy : w1.heap.size = y at *
  generalize w1.alloc (.cells (cel x).toArray 34) = w2 at *
  clear hy
  go_wp2_with fail
  go_loopw [8] (fun i wr => ∃ j : Nat, j ≤ L.length ∧ i = .int .i64 j ∧ Only (fun b => b = y) w2 wr ∧ wr.heap[y]? = some (.cells (cel (lastW (L.take j) k x)).toArray 34)) (fun i _ => L.length - (intOf i).toNat)
  case atStart => exact ⟨0, Nat.zero_le _, rfl, Only.refl _ _, HY.out⟩
  case round =>
    obtain ⟨j, hj, rfl, hon, hY⟩ := hrel
    have hH := HH2.out.only hon (fun b hb e => by have := HF.out b hb; omega)
    obtain ⟨c0, c1, c2⟩ := cells3 hH.at_
    obtain ⟨AL, cL, rfl, hrd, hl1, hl2⟩ := hH.L_.open_ rfl
    unfold maxLen at hl2
    have HON := Lib.hid hon
    have HYW := Lib.hid hY
    clear hon hY hH
    by_cases hlt : j < L.length
    · have HNX := Lib.hid (lastW_succ (L := L) (k : Int) x hlt)
      obtain ⟨bA, oA, rfl, hA, cA, rA⟩ := hrd.pair hlt
      generalize L.getD j (0, zeroB) = q at *
      obtain ⟨qn, qb⟩ := q
      have HRA := Lib.hid rA
      have HTY := Lib.hid (blk_there HYW.out)
      clear rA hrd
      have hAw : bA ≠ y := by have := HF.out bA (.inr (.inr rfl)); omega
      have hLL : (j : Int) < (L.length : Int) := by omega
      by_cases e : qn = (k : Int)
      · simp only [e, if_true] at HNX
        subst e
        go_wp2_with (first | (refine wpList_val rfl (exec_load rfl rfl HRA.out) ?_) | (refine wpList_nul rfl (exec_store rfl rfl rfl HTY.out) ?_))
        go_roundw
        case rel => exact ⟨j + 1, by omega, by go_num, HON.out.setCells (.inl rfl) _ _, by rw [HNX.out]; exact blk_laid HYW.out⟩
        case measure => simp [intOf]; omega
      · rw [if_neg e] at HNX
        go_wp2_with (first | (refine wpList_val rfl (exec_load rfl rfl HRA.out) ?_) | (refine wpList_nul rfl (exec_store rfl rfl rfl HTY.out) ?_))
        go_roundw
        case rel => exact ⟨j + 1, by omega, by go_num, HON.out, by rw [HNX.out]; exact HYW.out⟩
        case measure => simp [intOf]; omega
    · have hjn : j = L.length := by omega
      subst hjn
      have HR := Lib.hid (HON.out.keep HK2.out (by omega))
      have HTR := Lib.hid (blk_there HR.out)
      have HRY := Lib.hid (blk_range HYW.out)
      rw [List.take_length] at HRY
      generalize lastW L (k : Int) x = z at *
      have hLL : ¬((L.length : Int) < (L.length : Int)) := by omega
      go_wp2_with (first | (refine wpList_val rfl (exec_load rfl rfl HRY.out) ?_) | (refine wpList_nul rfl (exec_store rfl rfl rfl HTR.out) ?_))
      refine bodyPost_ret (res_blk2 rfl _ _ _ rfl (World.rangeAt_setCells_same _ _ _ _ (by rw [cel_length]; exact HTR.out))) rfl ⟨by rw [HS.out]; rfl, ?_⟩
      exact below_setCells (HA2.out.trans (HON.out.below (fun b hb => by omega) (by rw [HSZ2.out]; omega))) (Nat.le_refl _) _
theorem r_read (p : Nat) (vS vL : Value) (S : List Blk) (L : List (Int × Blk)) (g : Bool) (n : Int) (w : World) (h : RefD w p vS vL S L g) :
    Calls Try.prog 69 #[.pointer (some ⟨p, 0, none⟩), .int .i64 n] w fun e w' => e = .returned (.tuple #[blk (readB S L g n), .int .i64 (askE S g n)]) ∧ Below w.heap.size w w' := by
  by_cases he : askE S g n = 0
  · rcases askE_is (S := S) (g := g) (n := n) with h1 | h1 | ⟨_, rfl, k, rfl, hk⟩
    · omega
    · omega
    · rw [he]; exact r_read_ok p k vS vL S L w h hk
  · exact r_read_no p vS vL S L g n w h he
end Go.Proofs.Ytpcdcnnnkblhiaa
namespace Go.Proofs.Ytpcdcnnnkblhiaa
open Go.RowKit
set_option linter.unusedVariables false
set_option maxRecDepth 100000

section
variable {w w' : World} {p : Nat} {vS vL : Value} {S : List Blk} {L : List (Int × Blk)} {g : Bool}
theorem only_set (w : World) (p i : Nat) (v : Value) : Only (fun b => b = p) w (w.setCell ⟨p, i, none⟩ v) := (Only.refl (fun b => b = p) w).setCell (p := ⟨p, i, none⟩) (.inl rfl) v
theorem RefD.setG (h : RefD w p vS vL S L g) (g' : Bool) : RefD (w.setCell ⟨p, 2, none⟩ (.bool g')) p vS vL S L g' := by
  have hO := only_set w p 2 (.bool g')
  refine ⟨?_, h.S_.only hO fun b hb e => h.S_.not_at h.at_ (by decide) (by rw [hb, e]), h.L_.only hO fun b hb e => h.L_.not_at h.at_ (by decide) (by rw [hb, e])⟩
  have := heap_setCell_same w p 2 _ _ (.bool g') h.at_
  simpa using this
theorem RefD.setL (h : RefD w p vS vL S L g) {vL' : Value} {L' : List (Int × Blk)} (h' : MadeE LooE w 0 vL' L') : RefD (w.setCell ⟨p, 1, none⟩ vL') p vS vL' S L' g := by
  have hO := only_set w p 1 vL'
  refine ⟨?_, h.S_.only hO fun b hb e => h.S_.not_at h.at_ (by decide) (by rw [hb, e]), h'.only hO fun b hb e => h'.not_at h.at_ (by decide) (by rw [hb, e])⟩
  have := heap_setCell_same w p 1 _ _ vL' h.at_
  simpa using this
theorem lay_L (hp : w.heap[p]? = some (.cells #[vS, vL, .bool g] 90)) (hS : MadeE BlkE w 0 vS S) {vL' : Value} {L' : List (Int × Blk)} (h' : MadeE LooE w 0 vL' L') : RefD (w.setCell ⟨p, 1, none⟩ vL') p vS vL' S L' g := by
  have hO := only_set w p 1 vL'
  refine ⟨?_, hS.only hO fun b hb e => hS.not_at hp (by decide) (by rw [hb, e]), h'.only hO fun b hb e => h'.not_at hp (by decide) (by rw [hb, e])⟩
  have := heap_setCell_same w p 1 _ _ vL' hp
  simpa using this
theorem faD0 {b : Nat} : (Instr.fieldAt 90 (.pointer (some ⟨b, 0, none⟩)) 0).run Try.prog w = .ok (.pointer (some ⟨b, 0, none⟩)) w := by kernel_rfl
theorem faD1 {b : Nat} : (Instr.fieldAt 90 (.pointer (some ⟨b, 0, none⟩)) 1).run Try.prog w = .ok (.pointer (some ⟨b, 1, none⟩)) w := by kernel_rfl
theorem faD2 {b : Nat} : (Instr.fieldAt 90 (.pointer (some ⟨b, 0, none⟩)) 2).run Try.prog w = .ok (.pointer (some ⟨b, 2, none⟩)) w := by kernel_rfl
theorem ldS {a : Addr} {A : Option Addr} {n c : Nat} (h : w.cell? a = some (.slice A n c)) : (Instr.loadAt 88 (.pointer (some a))).run Try.prog w = .ok (.slice A n c) w := by simp [go_sem, h]
theorem ldB {a : Addr} {A : Option Addr} {n c : Nat} (h : w.cell? a = some (.slice A n c)) : (Instr.loadAt 78 (.pointer (some a))).run Try.prog w = .ok (.slice A n c) w := by simp [go_sem, h]
theorem stS {a : Addr} {v : Value} {A : Option Addr} {n c : Nat} (h : w.cell? a = some v) (hf : w.frozen? a = false) : (Instr.storeAt 88 (.pointer (some a)) (.slice A n c)).run Try.prog w = .ok () (w.setCell a (.slice A n c)) := by simp [go_sem, h, hf]
theorem run_buildL (k : Int) (b : Blk) : (Instr.build 96 #[(0, .int .i64 k), (1, blk b)]).run Try.prog w = .ok (pairV k b) w := by
  have hz := run_zeroE LooE w
  have h1 := fill_one (place := fun i => (#[(0, 1), (1, 64)] : Array (Nat × Nat))[i]?) (i := 0) (off := 0) (size := 1) (v := .int .i64 k) (pre := []) (mid := [.int .i64 0]) (post := cel zeroB) (vs := [.int .i64 k]) (rest := [(1, blk b)]) rfl rfl rfl rfl rfl
  have h2 := fill_one (place := fun i => (#[(0, 1), (1, 64)] : Array (Nat × Nat))[i]?) (i := 1) (off := 1) (size := 64) (v := blk b) (pre := [.int .i64 k]) (mid := cel zeroB) (post := []) (vs := cel b) (rest := []) rfl rfl (cel_length b) rfl (cel_length zeroB)
  simp only [List.nil_append, List.append_nil, List.singleton_append] at h1 h2
  have h3 := h1.trans h2
  have hz' : (zeroValue 96).run Try.prog w = .ok (pairV 0 zeroB) w := hz
  have hc : (pairV 0 zeroB).cells = (.int .i64 0 :: cel zeroB).toArray := rfl
  simp only [Instr.build, Sem.run_bind, hz', run_underlying Try.underlying96, Result.andThen_ok, hc]
  refine Eq.trans (congrArg (fun r => Result.andThen r _) (?h : _ = Result.ok #[(0, 1), (1, 64)] w)) ?_
  case h => kernel_rfl
  simp only [Result.andThen_ok]
  have h4 : Instr.fill (fun i => (#[(0, 1), (1, 64)] : Array (Nat × Nat))[i]?) (.int .i64 k :: cel b).toArray [] = some (.int .i64 k :: cel b).toArray := by rw [Instr.fill]
  rw [h3.trans h4]
  rfl
theorem exec_buildL {ρ : Operand → Value} {o : Oper} {x y : Operand} {k : Int} {b : Blk} (ho : o.op = .build 96 #[(0, x), (1, y)]) (hx : ρ x = .int .i64 k) (hy : ρ y = blk b) : (execOp ρ o).run Try.prog w = .ok (.value (pairV k b)) w := by
  have h := run_buildL (w := w) k b
  unfold execOp
  simp only [ho, List.map_toArray, List.map_cons, List.map_nil, hx, hy, Sem.run_bind, h, Result.andThen_ok, Sem.run_pure]
theorem pair_cells (k : Int) (b : Blk) : (pairV k b).cells = (LooE.cel (k, b)).toArray := rfl
theorem RefD.ldL (h : RefD w p vS vL S L g) : w.cell? ⟨p, 1, none⟩ = some vL := (cells3 h.at_).2.1
theorem RefD.ldS (h : RefD w p vS vL S L g) : w.cell? ⟨p, 0, none⟩ = some vS := (cells3 h.at_).1
end
theorem r_fail (p : Nat) (vS vL : Value) (S : List Blk) (L : List (Int × Blk)) (g : Bool) (w : World) (h : RefD w p vS vL S L g) :
    Calls Try.prog 72 #[.pointer (some ⟨p, 0, none⟩)] w fun e w' => (∃ v, e = .returned v) ∧ RefD w' p vS (.slice none 0 0) S [] true ∧ Only (foot p vS vL) w w' := by
  obtain ⟨c0, c1, c2⟩ := cells3 h.at_
  have f1 := frozen_of_row w p 1 _ _ h.at_
  have f2 := frozen_of_row w p 2 _ _ h.at_
  have H := Lib.hid h
  clear h
  go_enter Try.func72, Try.ntmps72
  go_wp2
  refine bodyPost_end (results_none rfl _ _ _) rfl ⟨⟨_, rfl⟩, (H.out.setG true).setL (MadeE.nil _ _), ?_⟩
  exact ((only_set w p 2 _).trans (only_set _ p 1 _) fun b hb => .inl hb).widen fun b hb => .inl hb
set_option maxHeartbeats 1000000 in
theorem r_write_no (p : Nat) (vS vL : Value) (S : List Blk) (L : List (Int × Blk)) (g : Bool) (n : Int) (b : Blk) (w : World) (h : RefD w p vS vL S L g) (he0 : askE S g n ≠ 0) :
    Calls Try.prog 68 #[.pointer (some ⟨p, 0, none⟩), .int .i64 n, blk b] w fun e w' => e = .returned (.int .i64 (askE S g n)) ∧ Below w.heap.size w w' := by
  have hA := (Below.refl w.heap.size w).alloc (Nat.le_refl _) (.cells (cel b).toArray 34)
  have h1 := h.below hA
  have HA := Lib.hid hA
  clear hA
  have H0 := Lib.hid he0
  rcases askE_is (S := S) (g := g) (n := n) with he | he | ⟨he, _⟩
  · have HE := Lib.hid he
    clear he he0
    go_enter Try.func68, Try.ntmps68
    go_wp2_with (first | (refine wpList_val rfl (exec_box rfl rfl) ?_) | fail)
    refine (r_asks p vS vL S L g n _ h1).mono ?_
    rintro e w1 ⟨rfl, rfl⟩
    rw [HE.out]
    go_wp2_with fail
    go_ret
    exact ⟨ret_int HE.out.symm, HA.out⟩
  · have HE := Lib.hid he
    clear he he0
    go_enter Try.func68, Try.ntmps68
    go_wp2_with (first | (refine wpList_val rfl (exec_box rfl rfl) ?_) | fail)
    refine (r_asks p vS vL S L g n _ h1).mono ?_
    rintro e w1 ⟨rfl, rfl⟩
    rw [HE.out]
    go_wp2_with fail
    go_ret
    exact ⟨ret_int HE.out.symm, HA.out⟩
  · exact absurd he he0
set_option maxHeartbeats 1000000 in
theorem r_write_ok (p k : Nat) (vS vL : Value) (S : List Blk) (L : List (Int × Blk)) (b : Blk) (w : World) (h : RefD w p vS vL S L false) (hk : k < S.length) (hL : L.length < 1000000) :
    Calls Try.prog 68 #[.pointer (some ⟨p, 0, none⟩), .int .i64 k, blk b] w fun e w' => e = .returned (.int .i64 0) ∧ ∃ vL', RefD w' p vS vL' S (L ++ [((k : Int), b)]) false ∧ Only (foot p vS vL) w w' ∧ (∀ x, vL'.ownBlock = some x → vL.ownBlock = some x ∨ w.heap.size ≤ x) := by
  have hA := (Below.refl w.heap.size w).alloc (Nat.le_refl _) (.cells (cel b).toArray 34)
  have h1 := h.below hA
  have HA := Lib.hid hA
  have HE := Lib.hid (askE_ok (S := S) (n := (k : Int)) (by omega))
  have HB := Lib.hid (new1 w (cel b).toArray 34)
  clear hA
  obtain ⟨AL, cL, rfl, hl1, hl2⟩ := h1.L_.form
  go_enter Try.func68, Try.ntmps68
  go_wp2_with (first | (refine wpList_val rfl (exec_box rfl rfl) ?_) | fail)
  refine (r_asks p vS _ S L false k _ h1).mono ?_
  rintro e w1 ⟨rfl, rfl⟩
  rw [HE.out]
  go_wp2_with fail
  generalize hy : w.heap.size = y at *
  generalize w.alloc (.cells (cel b).toArray 34) = w1 at *
  refine wp_region_last (fun w' => w'.heap[p]? = some (.cells #[vS, .slice AL L.length cL, .bool false] 90) ∧ w'.heap[y]? = some (.cells (cel b).toArray 34)) 12 (by kernel_rfl) ?_
  change wpAnyZ _ _ _ _ _ _ 13 _ _ w1.drew
  have hS : w1.drew.heap[p]? = some (.cells #[vS, .slice AL L.length cL, .bool false] 90) ∧ w1.drew.heap[y]? = some (.cells (cel b).toArray 34) := ⟨h1.at_, HB.out⟩
  refine last_val 0 rfl (by kernel_rfl) (by kernel_rfl) (by kernel_rfl) (by decide) (by kernel_rfl) rfl (fun w' hw => exec_mv rfl (ev rfl)) (fun _ _ _ h => h) hS ?_
  simp only [Act.put, List.setIfInBounds_toArray, List.set_cons_succ, List.set_cons_zero]
  refine last_val 1 rfl (by kernel_rfl) (by kernel_rfl) (by kernel_rfl) (by decide) (by kernel_rfl) rfl (fun w' hw => exec_mv rfl (ev rfl)) (fun _ _ _ h => h) hS ?_
  simp only [Act.put, List.setIfInBounds_toArray, List.set_cons_succ, List.set_cons_zero]
  refine last_val 2 rfl (by kernel_rfl) (by kernel_rfl) (by kernel_rfl) (by decide) (by kernel_rfl) rfl (fun w' hw => exec_nil rfl (ev rfl)) (fun _ _ _ h => h) hS ?_
  simp only [Act.put, List.setIfInBounds_toArray, List.set_cons_succ, List.set_cons_zero]
  refine last_val 3 rfl (by kernel_rfl) (by kernel_rfl) (by kernel_rfl) (by decide) (by kernel_rfl) rfl (fun w' hw => exec_faddr rfl (ev rfl) faD1) (fun _ _ _ h => h) hS ?_
  simp only [Act.put, List.setIfInBounds_toArray, List.set_cons_succ, List.set_cons_zero]
  refine last_val 4 rfl (by kernel_rfl) (by kernel_rfl) (by kernel_rfl) (by decide) (by kernel_rfl) rfl (fun w' hw => exec_ld rfl (ev rfl) (ldS (cells3 hw.1).2.1)) (fun _ _ _ h => h) hS ?_
  simp only [Act.put, List.setIfInBounds_toArray, List.set_cons_succ, List.set_cons_zero]
  refine last_val 5 rfl (by kernel_rfl) (by kernel_rfl) (by kernel_rfl) (by decide) (by kernel_rfl) rfl (fun w' hw => exec_mv rfl (ev rfl)) (fun _ _ _ h => h) hS ?_
  simp only [Act.put, List.setIfInBounds_toArray, List.set_cons_succ, List.set_cons_zero]
  refine last_val 6 rfl (by kernel_rfl) (by kernel_rfl) (by kernel_rfl) (by decide) (by kernel_rfl) rfl (fun w' hw => exec_load rfl (ev rfl) (blk_range hw.2)) (fun _ _ _ h => h) hS ?_
  simp only [Act.put, List.setIfInBounds_toArray, List.set_cons_succ, List.set_cons_zero]
  refine last_val 7 rfl (by kernel_rfl) (by kernel_rfl) (by kernel_rfl) (by decide) (by kernel_rfl) rfl (fun w' hw => exec_buildL rfl (ev rfl) (ev rfl)) (fun _ _ _ h => h) hS ?_
  simp only [Act.put, List.setIfInBounds_toArray, List.set_cons_succ, List.set_cons_zero]
  have hr : RefD w1.drew p vS (.slice AL L.length cL) S L false := ⟨h1.at_, h1.S_, h1.L_⟩
  have hS2 : RefD (w1.drew.alloc (.cells (LooE.cel ((k : Int), b)).toArray LooE.t)) p vS (.slice AL L.length cL) S L false := hr.below ((Below.refl _ _).alloc (Nat.le_refl _) _)
  have hb2 := blk_past hS.2 (.cells (LooE.cel ((k : Int), b)).toArray LooE.t)
  have hnew : RdE LooE _ _ _ 1 _ := rdE_new (E := LooE) (l := [((k : Int), b)]) w1.drew (LooE.cel ((k : Int), b)).toArray LooE.t (by rw [flatE_cons]; simp [flatE])
  obtain ⟨v3, w3, hrun, hm3, hg3, ho3⟩ := run_appE_own LooE _ 88 0 _ 1 1 _ _ _ _ hS2.L_ hnew (Nat.zero_le _) (by omega)
  have hO2 : Only (foot p vS (.slice AL L.length cL)) w (w1.drew.alloc (.cells (LooE.cel ((k : Int), b)).toArray LooE.t)) := (Only.of_below _ (hy ▸ HA.out)).drew.alloc _
  have hO3 := hO2.grown hg3 (fun x hx => .inl (.inr (.inr hx)))
  have hp3 : w3.heap[p]? = some (.cells #[vS, .slice AL L.length cL, .bool false] 90) := (hg3.block p (blk_lt hS2.at_) (fun e => hS2.L_.not_at hS2.at_ (by decide) e.symm)).trans hS2.at_
  have hy3 : w3.heap[y]? = some (.cells (cel b).toArray 34) := (hg3.block y (blk_lt hb2) (fun e => hS2.L_.not_at hb2 (by decide) e.symm)).trans hb2
  have hSS3 := hS2.S_.kept hg3 (hS2.S_.other hS2.L_ (by decide))
  refine last_turn 8 rfl (by kernel_rfl) rfl (exec_mk1E (E := LooE) (a := ((k : Int), b)) rfl (ev rfl) (pair_cells _ _) (by decide)) (fun _ => ⟨hS2.at_, hb2⟩) ?_
  simp only [Act.put, List.setIfInBounds_toArray, List.set_cons_succ, List.set_cons_zero]
  refine last_turn 9 rfl (by kernel_rfl) rfl (exec_appE (E := LooE) rfl (ev rfl) (ev rfl) hrun) (fun _ => ⟨hp3, hy3⟩) ?_
  simp only [Act.put, List.setIfInBounds_toArray, List.set_cons_succ, List.set_cons_zero]
  refine last_turn 10 rfl (by kernel_rfl) rfl (exec_nil rfl (ev rfl)) (fun _ => ⟨hp3, hy3⟩) ?_
  simp only [Act.put, List.setIfInBounds_toArray, List.set_cons_succ, List.set_cons_zero]
  refine last_turn 11 rfl (by kernel_rfl) rfl (exec_faddr rfl (ev rfl) faD1) (fun _ => ⟨hp3, hy3⟩) ?_
  simp only [Act.put, List.setIfInBounds_toArray, List.set_cons_succ, List.set_cons_zero]
  obtain ⟨A3, c3, rfl, _, _⟩ := hm3.form
  refine last_nul 12 rfl (by kernel_rfl) rfl (exec_st rfl (ev rfl) (ev rfl) (stS (cells3 hp3).2.1 (frozen_of_row _ _ _ _ _ hp3))) (fun e => absurd rfl e) ?_
  simp only [Act.put]
  refine wpAnyZ_done (by kernel_rfl) ?_ _
  go_wp2_with fail
  go_ret
  refine ⟨rfl, _, lay_L hp3 hSS3 hm3, hO3.setCell (.inl (.inl rfl)) _, fun x hx => ?_⟩
  rcases ho3 x hx with e | e
  · exact .inl e
  · refine .inr (Nat.le_trans ?_ e)
    have := hO2.size
    omega
/-- What Write leaves. -/
def wrL (S : List Blk) (L : List (Int × Blk)) (g : Bool) (n : Int) (b : Blk) : List (Int × Blk) := if askE S g n = 0 then L ++ [(n, b)] else L
theorem r_write (p : Nat) (vS vL : Value) (S : List Blk) (L : List (Int × Blk)) (g : Bool) (n : Int) (b : Blk) (w : World) (h : RefD w p vS vL S L g) (hL : L.length < 1000000) :
    Calls Try.prog 68 #[.pointer (some ⟨p, 0, none⟩), .int .i64 n, blk b] w fun e w' => e = .returned (.int .i64 (askE S g n)) ∧ ∃ vL', RefD w' p vS vL' S (wrL S L g n b) g ∧ Only (foot p vS vL) w w' ∧ (∀ x, vL'.ownBlock = some x → vL.ownBlock = some x ∨ w.heap.size ≤ x) := by
  by_cases he : askE S g n = 0
  · rcases askE_is (S := S) (g := g) (n := n) with h1 | h1 | ⟨_, rfl, k, rfl, hk⟩
    · omega
    · omega
    · have e : wrL S L false k b = L ++ [((k : Int), b)] := by unfold wrL; rw [if_pos he]
      rw [e, he]
      exact r_write_ok p k vS vL S L b w h hk hL
  · have e : wrL S L g n b = L := by unfold wrL; rw [if_neg he]
    rw [e]
    exact (r_write_no p vS vL S L g n b w h he).mono fun e w' ⟨h1, h2⟩ => ⟨h1, vL, h.below h2, Only.of_below _ h2, fun x hx => .inl hx⟩
end Go.Proofs.Ytpcdcnnnkblhiaa
namespace Go.Proofs.Ytpcdcnnnkblhiaa
open Go.RowKit
set_option linter.unusedVariables false
set_option maxRecDepth 100000

theorem exec_index0 {α : Type} {E : Elt α} {ρ : Operand → Value} {o : Oper} {x y : Operand} {w : World} {b n c j : Nat} (ho : o.op = .indexAddr E.s x y) (hx : ρ x = .slice (some ⟨b, 0, none⟩) n c) (hy : ρ y = .int .i64 (j : Int)) (hj : j < n) : (execOp ρ o).run Try.prog w = .ok (.value (.pointer (some ⟨b, j * E.n, none⟩))) w := by
  have := exec_indexE (E := E) (ρ := ρ) (w := w) ho hx hy hj
  rwa [Nat.zero_add] at this
theorem MadeE.slice {α : Type} {E : Elt α} {w : World} {B n : Nat} {v : Value} {l : List α} (h : MadeE E w B v l) (hn : l.length = n) (hl : 0 < n) : ∃ g c, v = .slice (some ⟨g, 0, none⟩) n c := by
  subst hn
  rcases h.2 with ⟨_, h0⟩ | ⟨g, cap, cur, rfl, _⟩
  · omega
  · exact ⟨g, cap, rfl⟩
section
variable {w : World} {p b off gg n c k : Nat} {vL : Value} {S : List Blk} {L : List (Int × Blk)} {g : Bool}
theorem faL0 : (Instr.fieldAt 96 (.pointer (some ⟨b, off, none⟩)) 0).run Try.prog w = .ok (.pointer (some ⟨b, off, none⟩)) w := by kernel_rfl
theorem faL1 : (Instr.fieldAt 96 (.pointer (some ⟨b, off, none⟩)) 1).run Try.prog w = .ok (.pointer (some ⟨b, off + 1, none⟩)) w := by kernel_rfl
theorem ldI {a : Addr} {x : Int} (h : w.cell? a = some (.int .i64 x)) : (Instr.loadAt 3 (.pointer (some a))).run Try.prog w = .ok (.int .i64 x) w := by simp [go_sem, h]
/-- A sector is laid anew. -/
theorem RefD.setS (h : RefD w p (.slice (some ⟨gg, 0, none⟩) n c) vL S L g) (hk : k < n) (x : Blk) : RefD (w.setCells gg (k * 64) (cel x)) p (.slice (some ⟨gg, 0, none⟩) n c) vL (S.set k x) L g := by
  have hO : Only (fun b => b = gg) w (w.setCells gg (k * 64) (cel x)) := (Only.refl (fun b => b = gg) w).setCells (.inl rfl) _ _
  refine ⟨hO.keep h.at_ (fun e => h.S_.not_at h.at_ (by decide) (by rw [e]; rfl)), h.S_.store hk x, h.L_.only hO fun b hb e => ?_⟩
  rcases h.L_.other h.S_ (by decide) with e' | e'
  · rw [e'] at hb; cases hb
  · exact e' (by rw [hb, e]; rfl)
end
def flS (S : List Blk) (L : List (Int × Blk)) : List Blk := L.foldl (fun S q => S.set q.1.toNat q.2) S
theorem flS_len (S : List Blk) (L : List (Int × Blk)) : (flS S L).length = S.length := by
  unfold flS
  induction L generalizing S with
  | nil => rfl
  | cons q L ih => rw [List.foldl_cons, ih, List.length_set]
theorem flS_succ {S : List Blk} {L : List (Int × Blk)} {i : Nat} (hi : i < L.length) : flS S (L.take (i + 1)) = (flS S (L.take i)).set (L.getD i (0, zeroB)).1.toNat (L.getD i (0, zeroB)).2 := by
  rw [List.take_add_one, List.getD, List.getElem?_eq_getElem hi]
  simp only [flS, Option.toList_some, List.foldl_append, List.foldl_cons, List.foldl_nil, Option.getD_some]
/-- What is loose is of sectors that there are. -/
def Fit (S : List Blk) (L : List (Int × Blk)) : Prop := ∀ q ∈ L, 0 ≤ q.1 ∧ q.1 < S.length
theorem Fit.at_ {S : List Blk} {L : List (Int × Blk)} (h : Fit S L) {i : Nat} (hi : i < L.length) : ∃ k : Nat, (L.getD i (0, zeroB)).1 = k ∧ k < S.length := by
  have := h _ (List.getElem_mem hi)
  refine ⟨(L.getD i (0, zeroB)).1.toNat, ?_, ?_⟩
  · simp only [List.getD, List.getElem?_eq_getElem hi, Option.getD_some]; omega
  · simp only [List.getD, List.getElem?_eq_getElem hi, Option.getD_some]; omega
theorem r_flush_dead (p : Nat) (vS vL : Value) (S : List Blk) (L : List (Int × Blk)) (w : World) (h : RefD w p vS vL S L true) :
    Calls Try.prog 70 #[.pointer (some ⟨p, 0, none⟩)] w fun e w' => e = .returned (.int .i64 9) ∧ w = w' := by
  obtain ⟨c0, c1, c2⟩ := cells3 h.at_
  go_enter Try.func70, Try.ntmps70
  go_wp2
  go_ret
  exact ⟨rfl, rfl⟩
set_option maxHeartbeats 2000000 in
theorem r_flush_ok (p : Nat) (vS vL : Value) (S : List Blk) (L : List (Int × Blk)) (w : World) (h : RefD w p vS vL S L false) (hF : Fit S L) :
    Calls Try.prog 70 #[.pointer (some ⟨p, 0, none⟩)] w fun e w' => e = .returned (.int .i64 0) ∧ RefD w' p vS (.slice none 0 0) (flS S L) [] false ∧ Only (foot p vS vL) w w' := by
  obtain ⟨c0, c1, c2⟩ := cells3 h.at_
  obtain ⟨AL, cL, rfl, hl1, hl2⟩ := h.L_.form
  unfold maxLen at hl2
  have HH := Lib.hid h
  have HF := Lib.hid hF
  clear h hF
  go_enter Try.func70, Try.ntmps70
  go_wp2
  clear c0 c1 c2
  go_loopw [3] (fun i wr => ∃ j : Nat, j ≤ L.length ∧ i = .int .i64 j ∧ RefD wr p vS (.slice AL L.length cL) (flS S (L.take j)) L false ∧ Only (foot p vS (.slice AL L.length cL)) w wr) (fun i _ => L.length - (intOf i).toNat)
  case atStart => exact ⟨0, Nat.zero_le _, rfl, HH.out, Only.refl _ _⟩
  case round =>
    obtain ⟨j, hj, rfl, hr, hon⟩ := hrel
    obtain ⟨c0, c1, c2⟩ := cells3 hr.at_
    by_cases hlt : j < L.length
    · obtain ⟨k, hqk, hk⟩ := HF.out.at_ hlt
      have hlenS := flS_len S (L.take j)
      obtain ⟨gS, cS, rfl⟩ := hr.S_.slice hlenS (by omega)
      obtain ⟨bA, oA, hAe, hAl, cA, rA⟩ := hr.L_.rd.pair hlt
      have HS := Lib.hid (flS_succ (S := S) hlt)
      rw [hqk] at cA HS
      generalize (L.getD j (0, zeroB)).2 = x at *
      have HRA := Lib.hid rA
      have HA := Lib.hid (⟨c0, c1⟩ : _ ∧ _)
      have HRr := Lib.hid hr
      have HON := Lib.hid hon
      subst hAe
      have HKT := Lib.hid (show wr.there gS (k * 64) 64 from by
        have := HRr.out.S_.there hk (j := 0) (m := 64) (Nat.le_refl _)
        rw [Nat.add_zero] at this
        exact this)
      clear hr hon rA hqk hlenS
      have hLL : (j : Int) < (L.length : Int) := by omega
      go_wp2_with fail
      refine wp_region_still_tail 21 (by kernel_rfl) (by kernel_rfl) ?_
      simp only [List.take_succ_cons, List.take_zero, List.drop_succ_cons, List.drop_zero]
      refine st_val rfl (exec_mv rfl (ev rfl)) ?_
      simp only [Act.put, List.setIfInBounds_toArray, List.set_cons_succ, List.set_cons_zero]
      refine st_val rfl (exec_nil rfl (ev rfl)) ?_
      simp only [Act.put, List.setIfInBounds_toArray, List.set_cons_succ, List.set_cons_zero]
      refine st_val rfl (exec_faddr rfl (ev rfl) faD0) ?_
      simp only [Act.put, List.setIfInBounds_toArray, List.set_cons_succ, List.set_cons_zero]
      refine st_val rfl (exec_ld rfl (ev rfl) (ldB HA.out.1)) ?_
      simp only [Act.put, List.setIfInBounds_toArray, List.set_cons_succ, List.set_cons_zero]
      refine st_val rfl (exec_mv rfl (ev rfl)) ?_
      simp only [Act.put, List.setIfInBounds_toArray, List.set_cons_succ, List.set_cons_zero]
      refine st_val rfl (exec_nil rfl (ev rfl)) ?_
      simp only [Act.put, List.setIfInBounds_toArray, List.set_cons_succ, List.set_cons_zero]
      refine st_val rfl (exec_faddr rfl (ev rfl) faD1) ?_
      simp only [Act.put, List.setIfInBounds_toArray, List.set_cons_succ, List.set_cons_zero]
      refine st_val rfl (exec_ld rfl (ev rfl) (ldS HA.out.2)) ?_
      simp only [Act.put, List.setIfInBounds_toArray, List.set_cons_succ, List.set_cons_zero]
      refine st_val rfl (exec_mv rfl (ev rfl)) ?_
      simp only [Act.put, List.setIfInBounds_toArray, List.set_cons_succ, List.set_cons_zero]
      refine st_val rfl (exec_indexE (E := LooE) rfl (ev rfl) (ev rfl) hlt) ?_
      simp only [Act.put, List.setIfInBounds_toArray, List.set_cons_succ, List.set_cons_zero]
      refine st_val rfl (exec_faddr rfl (ev rfl) faL0) ?_
      simp only [Act.put, List.setIfInBounds_toArray, List.set_cons_succ, List.set_cons_zero]
      refine st_val rfl (exec_ld rfl (ev rfl) (ldI cA)) ?_
      simp only [Act.put, List.setIfInBounds_toArray, List.set_cons_succ, List.set_cons_zero]
      refine st_val rfl (exec_mv rfl (ev rfl)) ?_
      simp only [Act.put, List.setIfInBounds_toArray, List.set_cons_succ, List.set_cons_zero]
      refine st_val rfl (exec_nil rfl (ev rfl)) ?_
      simp only [Act.put, List.setIfInBounds_toArray, List.set_cons_succ, List.set_cons_zero]
      refine st_val rfl (exec_faddr rfl (ev rfl) faD1) ?_
      simp only [Act.put, List.setIfInBounds_toArray, List.set_cons_succ, List.set_cons_zero]
      refine st_val rfl (exec_ld rfl (ev rfl) (ldS HA.out.2)) ?_
      simp only [Act.put, List.setIfInBounds_toArray, List.set_cons_succ, List.set_cons_zero]
      refine st_val rfl (exec_mv rfl (ev rfl)) ?_
      simp only [Act.put, List.setIfInBounds_toArray, List.set_cons_succ, List.set_cons_zero]
      refine st_val rfl (exec_indexE (E := LooE) rfl (ev rfl) (ev rfl) hlt) ?_
      simp only [Act.put, List.setIfInBounds_toArray, List.set_cons_succ, List.set_cons_zero]
      refine st_val rfl (exec_faddr rfl (ev rfl) faL1) ?_
      simp only [Act.put, List.setIfInBounds_toArray, List.set_cons_succ, List.set_cons_zero]
      refine st_val rfl (exec_load rfl (ev rfl) HRA.out) ?_
      simp only [Act.put, List.setIfInBounds_toArray, List.set_cons_succ, List.set_cons_zero]
      refine st_val rfl (exec_index0 (E := BlkE) rfl (ev rfl) (ev rfl) hk) ?_
      simp only [Act.put, List.setIfInBounds_toArray, List.set_cons_succ, List.set_cons_zero]
      refine wpStill_nil ?_
      change wpList _ _ _ _ _ wr.drew
      go_wp2_with (first | (refine wpList_nul rfl (exec_store rfl rfl rfl HKT.out) ?_))
      go_roundw
      case rel =>
        have hd : RefD wr.drew p (.slice (some ⟨gS, 0, none⟩) S.length cS) (.slice (some ⟨bA, oA, none⟩) L.length cL) (flS S (L.take j)) L false := ⟨HRr.out.at_, HRr.out.S_, HRr.out.L_⟩
        exact ⟨j + 1, by omega, by go_num, by rw [HS.out]; exact hd.setS hk x, HON.out.drew.setCells (.inl (.inr (.inl rfl))) _ _⟩
      case measure => simp [intOf]; omega
    · have hjn : j = L.length := by omega
      subst hjn
      have f1 := frozen_of_row wr p 1 _ _ hr.at_
      have HRr := Lib.hid hr
      have HON := Lib.hid hon
      clear hr hon
      have hLL : ¬((L.length : Int) < (L.length : Int)) := by omega
      go_wp2
      go_ret
      have hd := HRr.out.setL (MadeE.nil _ _)
      rw [List.take_length] at hd
      exact ⟨rfl, hd, HON.out.setCell (.inl (.inl rfl)) _⟩
end Go.Proofs.Ytpcdcnnnkblhiaa
namespace Go.Proofs.Ytpcdcnnnkblhiaa
open Go.RowKit
set_option linter.unusedVariables false

/-- What is sure behind so many of the loose writes, each cut as told. -/
def crI (S : List Blk) (L : List (Int × Blk)) (P : List Int) : Nat → List Blk
  | 0 => S
  | i + 1 => (crI S L P i).set (L.getD i (0, zeroB)).1.toNat (torn ((crI S L P i).getD (L.getD i (0, zeroB)).1.toNat zeroB) (L.getD i (0, zeroB)).2 (P.getD i 0))
theorem crI_len (S : List Blk) (L : List (Int × Blk)) (P : List Int) (i : Nat) : (crI S L P i).length = S.length := by
  induction i with
  | zero => rfl
  | succ i ih => rw [crI, List.length_set, ih]
set_option maxRecDepth 100000 in
set_option maxHeartbeats 4000000 in
theorem r_crash (p : Nat) (vS vL : Value) (S : List Blk) (L : List (Int × Blk)) (g : Bool) (A : Option Addr) (n c : Nat) (P : List Int) (w : World) (h : RefD w p vS vL S L g) (hF : Fit S L) (hP : RdE IntE w w.heap.size A n P) (hN : ∀ x, A = some x → 0 < n → ¬ foot p vS vL x.block) :
    Calls Try.prog 73 #[.pointer (some ⟨p, 0, none⟩), .slice A n c] w fun e w' => e = .returned (.int .i64 ((min L.length n : Nat) : Int)) ∧ RefD w' p vS (.slice none 0 0) (crI S L P L.length) [] g ∧ Only (foot p vS vL) w w' := by
  obtain ⟨AL, cL, rfl, hl1, hl2⟩ := h.L_.form
  unfold maxLen at hl2
  have HH := Lib.hid h
  have HF := Lib.hid hF
  have HP := Lib.hid hP
  have HN := Lib.hid hN
  have HPL := Lib.hid hP.1
  clear h hF hP hN
  go_enter Try.func73, Try.ntmps73
  go_wp2_with fail
  go_loopw [5, 6, 7] (fun t i v7 wr => ∃ j : Nat, j ≤ L.length ∧ i = .int .i64 j ∧ t = .int .i64 ((min j n : Nat) : Int) ∧ RefD wr p vS (.slice AL L.length cL) (crI S L P j) L g ∧ Only (foot p vS (.slice AL L.length cL)) w wr) (fun _ i _ _ => L.length - (intOf i).toNat)
  case atStart => exact ⟨0, Nat.zero_le _, rfl, by rw [Nat.zero_min]; rfl, HH.out, Only.refl _ _⟩
  case round =>
    obtain ⟨j, hj, rfl, rfl, hr, hon⟩ := hrel
    obtain ⟨c0, c1, c2⟩ := cells3 hr.at_
    have HB := Lib.hid (HP.out.only hon (Nat.le_refl _) HN.out)
    by_cases hlt : j < L.length
    · obtain ⟨k, hqk, hk⟩ := HF.out.at_ hlt
      have hlenS := crI_len S L P j
      have hstep : crI S L P (j + 1) = (crI S L P j).set k (torn ((crI S L P j).getD k zeroB) (L.getD j (0, zeroB)).2 (P.getD j 0)) := by rw [crI, hqk]; rfl
      obtain ⟨gS, cS, rfl⟩ := hr.S_.slice hlenS (by omega)
      obtain ⟨bA, oA, hAe, hAl, cA, rA⟩ := hr.L_.rd.pair hlt
      obtain ⟨bS, oS, hSe, hSl, rS⟩ := hr.S_.rd.blk hk
      rw [hqk] at cA
      injection hSe with hSe
      injection hSe with e1 e2
      subst e1 e2
      rw [Nat.zero_add] at rS
      generalize (L.getD j (0, zeroB)).2 = x at *
      generalize (crI S L P j).getD k zeroB = y at *
      have HST := Lib.hid hstep
      have HRr := Lib.hid hr
      have HON := Lib.hid hon
      have HKT := Lib.hid (show wr.there gS (k * 64) 64 from by
        have := HRr.out.S_.there hk (j := 0) (m := 64) (Nat.le_refl _)
        rw [Nat.add_zero] at this
        exact this)
      have HFACT := Lib.hid (⟨hr.at_, cA, rA, rS⟩ : _ ∧ _ ∧ _ ∧ _)
      subst hAe
      clear hr hon rA hqk hlenS hstep cA rS
      have hLL : (j : Int) < (L.length : Int) := by omega
      have hcell : j < n → ∃ bP oP, A = some ⟨bP, oP, none⟩ ∧ wr.cell? ⟨bP, oP + j, none⟩ = some (.int .i64 (P.getD j 0)) := fun h => by
        obtain ⟨bP, oP, e, _, hc⟩ := HB.out.int h
        exact ⟨bP, oP, e, hc⟩
      have hzero : ¬ j < n → P.getD j 0 = 0 := fun h => by
        rw [List.getD, List.getElem?_eq_none (by have := HPL.out; omega)]; rfl
      generalize P.getD j 0 = z at *
      have HZ := Lib.hid hzero
      have HCL := Lib.hid hcell
      clear hzero hcell
      by_cases hjn : j < n
      · obtain ⟨bP, oP, hAe, cP⟩ := HCL.out hjn
        have hmin : ((min (j + 1) n : Nat) : Int) = ((min j n : Nat) : Int) + 1 := by omega
        have HMIN := Lib.hid hmin
        have hmn : min j n ≤ 9223372036854775000 ∨ True := .inr trivial
        have hjb : ((min j n : Nat) : Int) = (j : Int) := by omega
        rw [hjb] at HMIN
        rw [hjb]
        have hjn' : (j : Int) < (n : Int) := by omega
        subst hAe
        clear hmin hmn hjb
        go_wp2_with fail
        refine wp_region_last (fun w' => w'.heap[p]? = some (.cells #[.slice (some ⟨gS, 0, none⟩) S.length cS, .slice (some ⟨bA, oA, none⟩) L.length cL, .bool g] 90) ∧ w'.cell? ⟨bA, oA + j * 65, none⟩ = some (.int .i64 (k : Int)) ∧ w'.rangeAt bA (oA + j * 65 + 1) (cel x) ∧ w'.rangeAt gS (k * 64) (cel y)) 37 (by kernel_rfl) ?_
        change wpAnyZ _ _ _ _ _ _ 38 _ _ wr.drew
        have hS : wr.drew.heap[p]? = some (.cells #[.slice (some ⟨gS, 0, none⟩) S.length cS, .slice (some ⟨bA, oA, none⟩) L.length cL, .bool g] 90) ∧ wr.drew.cell? ⟨bA, oA + j * 65, none⟩ = some (.int .i64 (k : Int)) ∧ wr.drew.rangeAt bA (oA + j * 65 + 1) (cel x) ∧ wr.drew.rangeAt gS (k * 64) (cel y) := HFACT.out
        refine last_val 0 rfl (by kernel_rfl) (by kernel_rfl) (by kernel_rfl) (by decide) (by kernel_rfl) rfl (fun w' hw => exec_mv rfl (ev rfl)) (fun _ _ _ h => h) hS ?_
        simp only [Act.put, List.setIfInBounds_toArray, List.set_cons_succ, List.set_cons_zero]
        refine last_val 1 rfl (by kernel_rfl) (by kernel_rfl) (by kernel_rfl) (by decide) (by kernel_rfl) rfl (fun w' hw => exec_nil rfl (ev rfl)) (fun _ _ _ h => h) hS ?_
        simp only [Act.put, List.setIfInBounds_toArray, List.set_cons_succ, List.set_cons_zero]
        refine last_val 2 rfl (by kernel_rfl) (by kernel_rfl) (by kernel_rfl) (by decide) (by kernel_rfl) rfl (fun w' hw => exec_faddr rfl (ev rfl) faD0) (fun _ _ _ h => h) hS ?_
        simp only [Act.put, List.setIfInBounds_toArray, List.set_cons_succ, List.set_cons_zero]
        refine last_val 3 rfl (by kernel_rfl) (by kernel_rfl) (by kernel_rfl) (by decide) (by kernel_rfl) rfl (fun w' hw => exec_ld rfl (ev rfl) (ldB (cells3 hw.1).1)) (fun _ _ _ h => h) hS ?_
        simp only [Act.put, List.setIfInBounds_toArray, List.set_cons_succ, List.set_cons_zero]
        refine last_val 4 rfl (by kernel_rfl) (by kernel_rfl) (by kernel_rfl) (by decide) (by kernel_rfl) rfl (fun w' hw => exec_mv rfl (ev rfl)) (fun _ _ _ h => h) hS ?_
        simp only [Act.put, List.setIfInBounds_toArray, List.set_cons_succ, List.set_cons_zero]
        refine last_val 5 rfl (by kernel_rfl) (by kernel_rfl) (by kernel_rfl) (by decide) (by kernel_rfl) rfl (fun w' hw => exec_nil rfl (ev rfl)) (fun _ _ _ h => h) hS ?_
        simp only [Act.put, List.setIfInBounds_toArray, List.set_cons_succ, List.set_cons_zero]
        refine last_val 6 rfl (by kernel_rfl) (by kernel_rfl) (by kernel_rfl) (by decide) (by kernel_rfl) rfl (fun w' hw => exec_faddr rfl (ev rfl) faD1) (fun _ _ _ h => h) hS ?_
        simp only [Act.put, List.setIfInBounds_toArray, List.set_cons_succ, List.set_cons_zero]
        refine last_val 7 rfl (by kernel_rfl) (by kernel_rfl) (by kernel_rfl) (by decide) (by kernel_rfl) rfl (fun w' hw => exec_ld rfl (ev rfl) (ldS (cells3 hw.1).2.1)) (fun _ _ _ h => h) hS ?_
        simp only [Act.put, List.setIfInBounds_toArray, List.set_cons_succ, List.set_cons_zero]
        refine last_val 8 rfl (by kernel_rfl) (by kernel_rfl) (by kernel_rfl) (by decide) (by kernel_rfl) rfl (fun w' hw => exec_mv rfl (ev rfl)) (fun _ _ _ h => h) hS ?_
        simp only [Act.put, List.setIfInBounds_toArray, List.set_cons_succ, List.set_cons_zero]
        refine last_val 9 rfl (by kernel_rfl) (by kernel_rfl) (by kernel_rfl) (by decide) (by kernel_rfl) rfl (fun w' hw => exec_indexE (E := LooE) rfl (ev rfl) (ev rfl) hlt) (fun _ _ _ h => h) hS ?_
        simp only [Act.put, List.setIfInBounds_toArray, List.set_cons_succ, List.set_cons_zero]
        refine last_val 10 rfl (by kernel_rfl) (by kernel_rfl) (by kernel_rfl) (by decide) (by kernel_rfl) rfl (fun w' hw => exec_faddr rfl (ev rfl) faL0) (fun _ _ _ h => h) hS ?_
        simp only [Act.put, List.setIfInBounds_toArray, List.set_cons_succ, List.set_cons_zero]
        refine last_val 11 rfl (by kernel_rfl) (by kernel_rfl) (by kernel_rfl) (by decide) (by kernel_rfl) rfl (fun w' hw => exec_ld rfl (ev rfl) (ldI hw.2.1)) (fun _ _ _ h => h) hS ?_
        simp only [Act.put, List.setIfInBounds_toArray, List.set_cons_succ, List.set_cons_zero]
        refine last_val 12 rfl (by kernel_rfl) (by kernel_rfl) (by kernel_rfl) (by decide) (by kernel_rfl) rfl (fun w' hw => exec_mv rfl (ev rfl)) (fun _ _ _ h => h) hS ?_
        simp only [Act.put, List.setIfInBounds_toArray, List.set_cons_succ, List.set_cons_zero]
        refine last_val 13 rfl (by kernel_rfl) (by kernel_rfl) (by kernel_rfl) (by decide) (by kernel_rfl) rfl (fun w' hw => exec_nil rfl (ev rfl)) (fun _ _ _ h => h) hS ?_
        simp only [Act.put, List.setIfInBounds_toArray, List.set_cons_succ, List.set_cons_zero]
        refine last_val 14 rfl (by kernel_rfl) (by kernel_rfl) (by kernel_rfl) (by decide) (by kernel_rfl) rfl (fun w' hw => exec_faddr rfl (ev rfl) faD0) (fun _ _ _ h => h) hS ?_
        simp only [Act.put, List.setIfInBounds_toArray, List.set_cons_succ, List.set_cons_zero]
        refine last_val 15 rfl (by kernel_rfl) (by kernel_rfl) (by kernel_rfl) (by decide) (by kernel_rfl) rfl (fun w' hw => exec_ld rfl (ev rfl) (ldB (cells3 hw.1).1)) (fun _ _ _ h => h) hS ?_
        simp only [Act.put, List.setIfInBounds_toArray, List.set_cons_succ, List.set_cons_zero]
        refine last_val 16 rfl (by kernel_rfl) (by kernel_rfl) (by kernel_rfl) (by decide) (by kernel_rfl) rfl (fun w' hw => exec_mv rfl (ev rfl)) (fun _ _ _ h => h) hS ?_
        simp only [Act.put, List.setIfInBounds_toArray, List.set_cons_succ, List.set_cons_zero]
        refine last_val 17 rfl (by kernel_rfl) (by kernel_rfl) (by kernel_rfl) (by decide) (by kernel_rfl) rfl (fun w' hw => exec_nil rfl (ev rfl)) (fun _ _ _ h => h) hS ?_
        simp only [Act.put, List.setIfInBounds_toArray, List.set_cons_succ, List.set_cons_zero]
        refine last_val 18 rfl (by kernel_rfl) (by kernel_rfl) (by kernel_rfl) (by decide) (by kernel_rfl) rfl (fun w' hw => exec_faddr rfl (ev rfl) faD1) (fun _ _ _ h => h) hS ?_
        simp only [Act.put, List.setIfInBounds_toArray, List.set_cons_succ, List.set_cons_zero]
        refine last_val 19 rfl (by kernel_rfl) (by kernel_rfl) (by kernel_rfl) (by decide) (by kernel_rfl) rfl (fun w' hw => exec_ld rfl (ev rfl) (ldS (cells3 hw.1).2.1)) (fun _ _ _ h => h) hS ?_
        simp only [Act.put, List.setIfInBounds_toArray, List.set_cons_succ, List.set_cons_zero]
        refine last_val 20 rfl (by kernel_rfl) (by kernel_rfl) (by kernel_rfl) (by decide) (by kernel_rfl) rfl (fun w' hw => exec_mv rfl (ev rfl)) (fun _ _ _ h => h) hS ?_
        simp only [Act.put, List.setIfInBounds_toArray, List.set_cons_succ, List.set_cons_zero]
        refine last_val 21 rfl (by kernel_rfl) (by kernel_rfl) (by kernel_rfl) (by decide) (by kernel_rfl) rfl (fun w' hw => exec_indexE (E := LooE) rfl (ev rfl) (ev rfl) hlt) (fun _ _ _ h => h) hS ?_
        simp only [Act.put, List.setIfInBounds_toArray, List.set_cons_succ, List.set_cons_zero]
        refine last_val 22 rfl (by kernel_rfl) (by kernel_rfl) (by kernel_rfl) (by decide) (by kernel_rfl) rfl (fun w' hw => exec_faddr rfl (ev rfl) faL0) (fun _ _ _ h => h) hS ?_
        simp only [Act.put, List.setIfInBounds_toArray, List.set_cons_succ, List.set_cons_zero]
        refine last_val 23 rfl (by kernel_rfl) (by kernel_rfl) (by kernel_rfl) (by decide) (by kernel_rfl) rfl (fun w' hw => exec_ld rfl (ev rfl) (ldI hw.2.1)) (fun _ _ _ h => h) hS ?_
        simp only [Act.put, List.setIfInBounds_toArray, List.set_cons_succ, List.set_cons_zero]
        refine last_val 24 rfl (by kernel_rfl) (by kernel_rfl) (by kernel_rfl) (by decide) (by kernel_rfl) rfl (fun w' hw => exec_index0 (E := BlkE) rfl (ev rfl) (ev rfl) hk) (fun _ _ _ h => h) hS ?_
        simp only [Act.put, List.setIfInBounds_toArray, List.set_cons_succ, List.set_cons_zero]
        refine last_val 25 rfl (by kernel_rfl) (by kernel_rfl) (by kernel_rfl) (by decide) (by kernel_rfl) rfl (fun w' hw => exec_load rfl (ev rfl) hw.2.2.2) (fun _ _ _ h => h) hS ?_
        simp only [Act.put, List.setIfInBounds_toArray, List.set_cons_succ, List.set_cons_zero]
        refine last_val 26 rfl (by kernel_rfl) (by kernel_rfl) (by kernel_rfl) (by decide) (by kernel_rfl) rfl (fun w' hw => exec_mv rfl (ev rfl)) (fun _ _ _ h => h) hS ?_
        simp only [Act.put, List.setIfInBounds_toArray, List.set_cons_succ, List.set_cons_zero]
        refine last_val 27 rfl (by kernel_rfl) (by kernel_rfl) (by kernel_rfl) (by decide) (by kernel_rfl) rfl (fun w' hw => exec_nil rfl (ev rfl)) (fun _ _ _ h => h) hS ?_
        simp only [Act.put, List.setIfInBounds_toArray, List.set_cons_succ, List.set_cons_zero]
        refine last_val 28 rfl (by kernel_rfl) (by kernel_rfl) (by kernel_rfl) (by decide) (by kernel_rfl) rfl (fun w' hw => exec_faddr rfl (ev rfl) faD1) (fun _ _ _ h => h) hS ?_
        simp only [Act.put, List.setIfInBounds_toArray, List.set_cons_succ, List.set_cons_zero]
        refine last_val 29 rfl (by kernel_rfl) (by kernel_rfl) (by kernel_rfl) (by decide) (by kernel_rfl) rfl (fun w' hw => exec_ld rfl (ev rfl) (ldS (cells3 hw.1).2.1)) (fun _ _ _ h => h) hS ?_
        simp only [Act.put, List.setIfInBounds_toArray, List.set_cons_succ, List.set_cons_zero]
        refine last_val 30 rfl (by kernel_rfl) (by kernel_rfl) (by kernel_rfl) (by decide) (by kernel_rfl) rfl (fun w' hw => exec_mv rfl (ev rfl)) (fun _ _ _ h => h) hS ?_
        simp only [Act.put, List.setIfInBounds_toArray, List.set_cons_succ, List.set_cons_zero]
        refine last_val 31 rfl (by kernel_rfl) (by kernel_rfl) (by kernel_rfl) (by decide) (by kernel_rfl) rfl (fun w' hw => exec_indexE (E := LooE) rfl (ev rfl) (ev rfl) hlt) (fun _ _ _ h => h) hS ?_
        simp only [Act.put, List.setIfInBounds_toArray, List.set_cons_succ, List.set_cons_zero]
        refine last_val 32 rfl (by kernel_rfl) (by kernel_rfl) (by kernel_rfl) (by decide) (by kernel_rfl) rfl (fun w' hw => exec_faddr rfl (ev rfl) faL1) (fun _ _ _ h => h) hS ?_
        simp only [Act.put, List.setIfInBounds_toArray, List.set_cons_succ, List.set_cons_zero]
        refine last_val 33 rfl (by kernel_rfl) (by kernel_rfl) (by kernel_rfl) (by decide) (by kernel_rfl) rfl (fun w' hw => exec_load rfl (ev rfl) hw.2.2.1) (fun _ _ _ h => h) hS ?_
        simp only [Act.put, List.setIfInBounds_toArray, List.set_cons_succ, List.set_cons_zero]
        refine last_val 34 rfl (by kernel_rfl) (by kernel_rfl) (by kernel_rfl) (by decide) (by kernel_rfl) rfl (fun w' hw => exec_mv rfl (ev rfl)) (fun _ _ _ h => h) hS ?_
        simp only [Act.put, List.setIfInBounds_toArray, List.set_cons_succ, List.set_cons_zero]
        refine last_call 35 rfl (by kernel_rfl) rfl (exec_cl Try.call79 rfl (evc (ev rfl) (evc (ev rfl) (evc (ev rfl) evn)))) ((refTorn_any y x z wr.drew).mono ?_)
        rintro e w5 ⟨rfl, hb5⟩
        have hS5 : w5.heap[p]? = some (.cells #[.slice (some ⟨gS, 0, none⟩) S.length cS, .slice (some ⟨bA, oA, none⟩) L.length cL, .bool g] 90) ∧ w5.cell? ⟨bA, oA + j * 65, none⟩ = some (.int .i64 (k : Int)) ∧ w5.rangeAt bA (oA + j * 65 + 1) (cel x) ∧ w5.rangeAt gS (k * 64) (cel y) :=
          ⟨blk_keep hS.1 hb5, (hb5.cell (p := ⟨bA, oA + j * 65, none⟩) hAl).trans hS.2.1, range_below hS.2.2.1 hAl hb5, range_below hS.2.2.2 hSl hb5⟩
        have hd : RefD wr.drew p (.slice (some ⟨gS, 0, none⟩) S.length cS) (.slice (some ⟨bA, oA, none⟩) L.length cL) (crI S L P j) L g := ⟨HRr.out.at_, HRr.out.S_, HRr.out.L_⟩
        have HD5 := Lib.hid (hd.below hb5)
        have HO5 := Lib.hid (HON.out.drew.then_below hb5)
        have HKT5 := Lib.hid (there_below (w := wr.drew) HKT.out hSl hb5)
        clear hd hb5
        refine ⟨_, rfl, fun _ => hS5, ?_⟩
        simp only [Act.put, List.setIfInBounds_toArray, List.set_cons_succ, List.set_cons_zero]
        refine last_turn 36 rfl (by kernel_rfl) rfl (exec_index0 (E := BlkE) rfl (ev rfl) (ev rfl) hk) (fun _ => hS5) ?_
        simp only [Act.put, List.setIfInBounds_toArray, List.set_cons_succ, List.set_cons_zero]
        refine last_nul 37 rfl (by kernel_rfl) rfl (exec_store rfl (ev rfl) (ev rfl) HKT5.out) (fun e => absurd rfl e) ?_
        simp only [Act.put]
        refine wpAnyZ_done (by kernel_rfl) ?_ _
        go_wp2_with fail
        go_roundw
        case rel => exact ⟨j + 1, by omega, by go_num, by rw [HMIN.out], by rw [HST.out]; exact HD5.out.setS hk _, HO5.out.setCells (.inl (.inr (.inl rfl))) _ _⟩
        case measure => simp [intOf]; omega
      · have HMIN := Lib.hid (show ((min (j + 1) n : Nat) : Int) = ((min j n : Nat) : Int) by omega)
        have hz0 := HZ.out hjn
        subst hz0
        have hjn' : ¬ (j : Int) < (n : Int) := by omega
        generalize ((min j n : Nat) : Int) = mn at *
        go_wp2_with fail
        refine wp_region_last (fun w' => w'.heap[p]? = some (.cells #[.slice (some ⟨gS, 0, none⟩) S.length cS, .slice (some ⟨bA, oA, none⟩) L.length cL, .bool g] 90) ∧ w'.cell? ⟨bA, oA + j * 65, none⟩ = some (.int .i64 (k : Int)) ∧ w'.rangeAt bA (oA + j * 65 + 1) (cel x) ∧ w'.rangeAt gS (k * 64) (cel y)) 37 (by kernel_rfl) ?_
        change wpAnyZ _ _ _ _ _ _ 38 _ _ wr.drew
        have hS : wr.drew.heap[p]? = some (.cells #[.slice (some ⟨gS, 0, none⟩) S.length cS, .slice (some ⟨bA, oA, none⟩) L.length cL, .bool g] 90) ∧ wr.drew.cell? ⟨bA, oA + j * 65, none⟩ = some (.int .i64 (k : Int)) ∧ wr.drew.rangeAt bA (oA + j * 65 + 1) (cel x) ∧ wr.drew.rangeAt gS (k * 64) (cel y) := HFACT.out
        refine last_val 0 rfl (by kernel_rfl) (by kernel_rfl) (by kernel_rfl) (by decide) (by kernel_rfl) rfl (fun w' hw => exec_mv rfl (ev rfl)) (fun _ _ _ h => h) hS ?_
        simp only [Act.put, List.setIfInBounds_toArray, List.set_cons_succ, List.set_cons_zero]
        refine last_val 1 rfl (by kernel_rfl) (by kernel_rfl) (by kernel_rfl) (by decide) (by kernel_rfl) rfl (fun w' hw => exec_nil rfl (ev rfl)) (fun _ _ _ h => h) hS ?_
        simp only [Act.put, List.setIfInBounds_toArray, List.set_cons_succ, List.set_cons_zero]
        refine last_val 2 rfl (by kernel_rfl) (by kernel_rfl) (by kernel_rfl) (by decide) (by kernel_rfl) rfl (fun w' hw => exec_faddr rfl (ev rfl) faD0) (fun _ _ _ h => h) hS ?_
        simp only [Act.put, List.setIfInBounds_toArray, List.set_cons_succ, List.set_cons_zero]
        refine last_val 3 rfl (by kernel_rfl) (by kernel_rfl) (by kernel_rfl) (by decide) (by kernel_rfl) rfl (fun w' hw => exec_ld rfl (ev rfl) (ldB (cells3 hw.1).1)) (fun _ _ _ h => h) hS ?_
        simp only [Act.put, List.setIfInBounds_toArray, List.set_cons_succ, List.set_cons_zero]
        refine last_val 4 rfl (by kernel_rfl) (by kernel_rfl) (by kernel_rfl) (by decide) (by kernel_rfl) rfl (fun w' hw => exec_mv rfl (ev rfl)) (fun _ _ _ h => h) hS ?_
        simp only [Act.put, List.setIfInBounds_toArray, List.set_cons_succ, List.set_cons_zero]
        refine last_val 5 rfl (by kernel_rfl) (by kernel_rfl) (by kernel_rfl) (by decide) (by kernel_rfl) rfl (fun w' hw => exec_nil rfl (ev rfl)) (fun _ _ _ h => h) hS ?_
        simp only [Act.put, List.setIfInBounds_toArray, List.set_cons_succ, List.set_cons_zero]
        refine last_val 6 rfl (by kernel_rfl) (by kernel_rfl) (by kernel_rfl) (by decide) (by kernel_rfl) rfl (fun w' hw => exec_faddr rfl (ev rfl) faD1) (fun _ _ _ h => h) hS ?_
        simp only [Act.put, List.setIfInBounds_toArray, List.set_cons_succ, List.set_cons_zero]
        refine last_val 7 rfl (by kernel_rfl) (by kernel_rfl) (by kernel_rfl) (by decide) (by kernel_rfl) rfl (fun w' hw => exec_ld rfl (ev rfl) (ldS (cells3 hw.1).2.1)) (fun _ _ _ h => h) hS ?_
        simp only [Act.put, List.setIfInBounds_toArray, List.set_cons_succ, List.set_cons_zero]
        refine last_val 8 rfl (by kernel_rfl) (by kernel_rfl) (by kernel_rfl) (by decide) (by kernel_rfl) rfl (fun w' hw => exec_mv rfl (ev rfl)) (fun _ _ _ h => h) hS ?_
        simp only [Act.put, List.setIfInBounds_toArray, List.set_cons_succ, List.set_cons_zero]
        refine last_val 9 rfl (by kernel_rfl) (by kernel_rfl) (by kernel_rfl) (by decide) (by kernel_rfl) rfl (fun w' hw => exec_indexE (E := LooE) rfl (ev rfl) (ev rfl) hlt) (fun _ _ _ h => h) hS ?_
        simp only [Act.put, List.setIfInBounds_toArray, List.set_cons_succ, List.set_cons_zero]
        refine last_val 10 rfl (by kernel_rfl) (by kernel_rfl) (by kernel_rfl) (by decide) (by kernel_rfl) rfl (fun w' hw => exec_faddr rfl (ev rfl) faL0) (fun _ _ _ h => h) hS ?_
        simp only [Act.put, List.setIfInBounds_toArray, List.set_cons_succ, List.set_cons_zero]
        refine last_val 11 rfl (by kernel_rfl) (by kernel_rfl) (by kernel_rfl) (by decide) (by kernel_rfl) rfl (fun w' hw => exec_ld rfl (ev rfl) (ldI hw.2.1)) (fun _ _ _ h => h) hS ?_
        simp only [Act.put, List.setIfInBounds_toArray, List.set_cons_succ, List.set_cons_zero]
        refine last_val 12 rfl (by kernel_rfl) (by kernel_rfl) (by kernel_rfl) (by decide) (by kernel_rfl) rfl (fun w' hw => exec_mv rfl (ev rfl)) (fun _ _ _ h => h) hS ?_
        simp only [Act.put, List.setIfInBounds_toArray, List.set_cons_succ, List.set_cons_zero]
        refine last_val 13 rfl (by kernel_rfl) (by kernel_rfl) (by kernel_rfl) (by decide) (by kernel_rfl) rfl (fun w' hw => exec_nil rfl (ev rfl)) (fun _ _ _ h => h) hS ?_
        simp only [Act.put, List.setIfInBounds_toArray, List.set_cons_succ, List.set_cons_zero]
        refine last_val 14 rfl (by kernel_rfl) (by kernel_rfl) (by kernel_rfl) (by decide) (by kernel_rfl) rfl (fun w' hw => exec_faddr rfl (ev rfl) faD0) (fun _ _ _ h => h) hS ?_
        simp only [Act.put, List.setIfInBounds_toArray, List.set_cons_succ, List.set_cons_zero]
        refine last_val 15 rfl (by kernel_rfl) (by kernel_rfl) (by kernel_rfl) (by decide) (by kernel_rfl) rfl (fun w' hw => exec_ld rfl (ev rfl) (ldB (cells3 hw.1).1)) (fun _ _ _ h => h) hS ?_
        simp only [Act.put, List.setIfInBounds_toArray, List.set_cons_succ, List.set_cons_zero]
        refine last_val 16 rfl (by kernel_rfl) (by kernel_rfl) (by kernel_rfl) (by decide) (by kernel_rfl) rfl (fun w' hw => exec_mv rfl (ev rfl)) (fun _ _ _ h => h) hS ?_
        simp only [Act.put, List.setIfInBounds_toArray, List.set_cons_succ, List.set_cons_zero]
        refine last_val 17 rfl (by kernel_rfl) (by kernel_rfl) (by kernel_rfl) (by decide) (by kernel_rfl) rfl (fun w' hw => exec_nil rfl (ev rfl)) (fun _ _ _ h => h) hS ?_
        simp only [Act.put, List.setIfInBounds_toArray, List.set_cons_succ, List.set_cons_zero]
        refine last_val 18 rfl (by kernel_rfl) (by kernel_rfl) (by kernel_rfl) (by decide) (by kernel_rfl) rfl (fun w' hw => exec_faddr rfl (ev rfl) faD1) (fun _ _ _ h => h) hS ?_
        simp only [Act.put, List.setIfInBounds_toArray, List.set_cons_succ, List.set_cons_zero]
        refine last_val 19 rfl (by kernel_rfl) (by kernel_rfl) (by kernel_rfl) (by decide) (by kernel_rfl) rfl (fun w' hw => exec_ld rfl (ev rfl) (ldS (cells3 hw.1).2.1)) (fun _ _ _ h => h) hS ?_
        simp only [Act.put, List.setIfInBounds_toArray, List.set_cons_succ, List.set_cons_zero]
        refine last_val 20 rfl (by kernel_rfl) (by kernel_rfl) (by kernel_rfl) (by decide) (by kernel_rfl) rfl (fun w' hw => exec_mv rfl (ev rfl)) (fun _ _ _ h => h) hS ?_
        simp only [Act.put, List.setIfInBounds_toArray, List.set_cons_succ, List.set_cons_zero]
        refine last_val 21 rfl (by kernel_rfl) (by kernel_rfl) (by kernel_rfl) (by decide) (by kernel_rfl) rfl (fun w' hw => exec_indexE (E := LooE) rfl (ev rfl) (ev rfl) hlt) (fun _ _ _ h => h) hS ?_
        simp only [Act.put, List.setIfInBounds_toArray, List.set_cons_succ, List.set_cons_zero]
        refine last_val 22 rfl (by kernel_rfl) (by kernel_rfl) (by kernel_rfl) (by decide) (by kernel_rfl) rfl (fun w' hw => exec_faddr rfl (ev rfl) faL0) (fun _ _ _ h => h) hS ?_
        simp only [Act.put, List.setIfInBounds_toArray, List.set_cons_succ, List.set_cons_zero]
        refine last_val 23 rfl (by kernel_rfl) (by kernel_rfl) (by kernel_rfl) (by decide) (by kernel_rfl) rfl (fun w' hw => exec_ld rfl (ev rfl) (ldI hw.2.1)) (fun _ _ _ h => h) hS ?_
        simp only [Act.put, List.setIfInBounds_toArray, List.set_cons_succ, List.set_cons_zero]
        refine last_val 24 rfl (by kernel_rfl) (by kernel_rfl) (by kernel_rfl) (by decide) (by kernel_rfl) rfl (fun w' hw => exec_index0 (E := BlkE) rfl (ev rfl) (ev rfl) hk) (fun _ _ _ h => h) hS ?_
        simp only [Act.put, List.setIfInBounds_toArray, List.set_cons_succ, List.set_cons_zero]
        refine last_val 25 rfl (by kernel_rfl) (by kernel_rfl) (by kernel_rfl) (by decide) (by kernel_rfl) rfl (fun w' hw => exec_load rfl (ev rfl) hw.2.2.2) (fun _ _ _ h => h) hS ?_
        simp only [Act.put, List.setIfInBounds_toArray, List.set_cons_succ, List.set_cons_zero]
        refine last_val 26 rfl (by kernel_rfl) (by kernel_rfl) (by kernel_rfl) (by decide) (by kernel_rfl) rfl (fun w' hw => exec_mv rfl (ev rfl)) (fun _ _ _ h => h) hS ?_
        simp only [Act.put, List.setIfInBounds_toArray, List.set_cons_succ, List.set_cons_zero]
        refine last_val 27 rfl (by kernel_rfl) (by kernel_rfl) (by kernel_rfl) (by decide) (by kernel_rfl) rfl (fun w' hw => exec_nil rfl (ev rfl)) (fun _ _ _ h => h) hS ?_
        simp only [Act.put, List.setIfInBounds_toArray, List.set_cons_succ, List.set_cons_zero]
        refine last_val 28 rfl (by kernel_rfl) (by kernel_rfl) (by kernel_rfl) (by decide) (by kernel_rfl) rfl (fun w' hw => exec_faddr rfl (ev rfl) faD1) (fun _ _ _ h => h) hS ?_
        simp only [Act.put, List.setIfInBounds_toArray, List.set_cons_succ, List.set_cons_zero]
        refine last_val 29 rfl (by kernel_rfl) (by kernel_rfl) (by kernel_rfl) (by decide) (by kernel_rfl) rfl (fun w' hw => exec_ld rfl (ev rfl) (ldS (cells3 hw.1).2.1)) (fun _ _ _ h => h) hS ?_
        simp only [Act.put, List.setIfInBounds_toArray, List.set_cons_succ, List.set_cons_zero]
        refine last_val 30 rfl (by kernel_rfl) (by kernel_rfl) (by kernel_rfl) (by decide) (by kernel_rfl) rfl (fun w' hw => exec_mv rfl (ev rfl)) (fun _ _ _ h => h) hS ?_
        simp only [Act.put, List.setIfInBounds_toArray, List.set_cons_succ, List.set_cons_zero]
        refine last_val 31 rfl (by kernel_rfl) (by kernel_rfl) (by kernel_rfl) (by decide) (by kernel_rfl) rfl (fun w' hw => exec_indexE (E := LooE) rfl (ev rfl) (ev rfl) hlt) (fun _ _ _ h => h) hS ?_
        simp only [Act.put, List.setIfInBounds_toArray, List.set_cons_succ, List.set_cons_zero]
        refine last_val 32 rfl (by kernel_rfl) (by kernel_rfl) (by kernel_rfl) (by decide) (by kernel_rfl) rfl (fun w' hw => exec_faddr rfl (ev rfl) faL1) (fun _ _ _ h => h) hS ?_
        simp only [Act.put, List.setIfInBounds_toArray, List.set_cons_succ, List.set_cons_zero]
        refine last_val 33 rfl (by kernel_rfl) (by kernel_rfl) (by kernel_rfl) (by decide) (by kernel_rfl) rfl (fun w' hw => exec_load rfl (ev rfl) hw.2.2.1) (fun _ _ _ h => h) hS ?_
        simp only [Act.put, List.setIfInBounds_toArray, List.set_cons_succ, List.set_cons_zero]
        refine last_val 34 rfl (by kernel_rfl) (by kernel_rfl) (by kernel_rfl) (by decide) (by kernel_rfl) rfl (fun w' hw => exec_mv rfl (ev rfl)) (fun _ _ _ h => h) hS ?_
        simp only [Act.put, List.setIfInBounds_toArray, List.set_cons_succ, List.set_cons_zero]
        refine last_call 35 rfl (by kernel_rfl) rfl (exec_cl Try.call79 rfl (evc (ev rfl) (evc (ev rfl) (evc (ev rfl) evn)))) ((refTorn_any y x 0 wr.drew).mono ?_)
        rintro e w5 ⟨rfl, hb5⟩
        have hS5 : w5.heap[p]? = some (.cells #[.slice (some ⟨gS, 0, none⟩) S.length cS, .slice (some ⟨bA, oA, none⟩) L.length cL, .bool g] 90) ∧ w5.cell? ⟨bA, oA + j * 65, none⟩ = some (.int .i64 (k : Int)) ∧ w5.rangeAt bA (oA + j * 65 + 1) (cel x) ∧ w5.rangeAt gS (k * 64) (cel y) :=
          ⟨blk_keep hS.1 hb5, (hb5.cell (p := ⟨bA, oA + j * 65, none⟩) hAl).trans hS.2.1, range_below hS.2.2.1 hAl hb5, range_below hS.2.2.2 hSl hb5⟩
        have hd : RefD wr.drew p (.slice (some ⟨gS, 0, none⟩) S.length cS) (.slice (some ⟨bA, oA, none⟩) L.length cL) (crI S L P j) L g := ⟨HRr.out.at_, HRr.out.S_, HRr.out.L_⟩
        have HD5 := Lib.hid (hd.below hb5)
        have HO5 := Lib.hid (HON.out.drew.then_below hb5)
        have HKT5 := Lib.hid (there_below (w := wr.drew) HKT.out hSl hb5)
        clear hd hb5
        refine ⟨_, rfl, fun _ => hS5, ?_⟩
        simp only [Act.put, List.setIfInBounds_toArray, List.set_cons_succ, List.set_cons_zero]
        refine last_turn 36 rfl (by kernel_rfl) rfl (exec_index0 (E := BlkE) rfl (ev rfl) (ev rfl) hk) (fun _ => hS5) ?_
        simp only [Act.put, List.setIfInBounds_toArray, List.set_cons_succ, List.set_cons_zero]
        refine last_nul 37 rfl (by kernel_rfl) rfl (exec_store rfl (ev rfl) (ev rfl) HKT5.out) (fun e => absurd rfl e) ?_
        simp only [Act.put]
        refine wpAnyZ_done (by kernel_rfl) ?_ _
        go_wp2_with fail
        go_roundw
        case rel => exact ⟨j + 1, by omega, by go_num, by rw [HMIN.out], by rw [HST.out]; exact HD5.out.setS hk _, HO5.out.setCells (.inl (.inr (.inl rfl))) _ _⟩
        case measure => simp [intOf]; omega
    · have hjn : j = L.length := by omega
      subst hjn
      have f1 := frozen_of_row wr p 1 _ _ hr.at_
      have HRr := Lib.hid hr
      have HON := Lib.hid hon
      clear hr hon
      have hLL : ¬((L.length : Int) < (L.length : Int)) := by omega
      generalize hmn : ((min L.length n : Nat) : Int) = mn at *
      have HMN := Lib.hid hmn
      clear hmn
      go_wp2
      go_ret
      exact ⟨by rw [HMN.out]; rfl, HRr.out.setL (MadeE.nil _ _), HON.out.setCell (.inl (.inl rfl)) _⟩
end Go.Proofs.Ytpcdcnnnkblhiaa
namespace Go.Proofs.Ytpcdcnnnkblhiaa
open Go.RowKit
set_option linter.unusedVariables false
set_option maxRecDepth 100000

theorem exec_xor8 {ρ : Operand → Value} {o : Oper} {x y : Operand} {w : World} {t r : TypeId} {a b : UInt8} (ho : o.op = .binOp .xor t x y r) (hx : ρ x = .int .u8 (a.toNat : Int)) (hy : ρ y = .int .u8 (b.toNat : Int)) : (execOp ρ o).run Try.prog w = .ok (.value (.int .u8 ((a ^^^ b).toNat : Int))) w := by
  have h : bits .xor .u8 (a.toNat : Int) (b.toNat : Int) = ((a ^^^ b).toNat : Int) := by
    rw [u8_xor_nat _ _ (UInt8.toNat_lt _) (UInt8.toNat_lt _)]
    simp
  unfold execOp
  simp [ho, hx, hy, eqGuard, binOp, Op.intBits]
  simpa [bits] using h
theorem exec_ix0B {ρ : Operand → Value} {o : Oper} {x y : Operand} {w : World} {b n c j : Nat} (ho : o.op = .indexAddr 78 x y) (hx : ρ x = .slice (some ⟨b, 0, none⟩) n c) (hy : ρ y = .int .i64 (j : Int)) (hj : j < n) : (execOp ρ o).run Try.prog w = .ok (.value (.pointer (some ⟨b, j * 64, none⟩))) w := exec_index0 (E := BlkE) ho hx hy hj
section
variable {w : World} {p b off gg n c k i : Nat} {vL : Value} {S : List Blk} {L : List (Int × Blk)} {g : Bool}
theorem run_ixB (hi : i < 64) : (Instr.indexAt 34 (.pointer (some ⟨b, off, none⟩)) (.int .i64 (i : Int))).run Try.prog w = .ok (.pointer (some ⟨b, off + i, none⟩)) w := by
  simp [Instr.indexAt, asIntOf, run_underlying undB, Instr.sureAddr, add_mid, Try.sizeOf5, hi]
theorem ldU {a : Addr} {x : Int} (h : w.cell? a = some (.int .u8 x)) : (Instr.loadAt 5 (.pointer (some a))).run Try.prog w = .ok (.int .u8 x) w := by simp [go_sem, h]
/-- A block with one byte turned. -/
def rotB (y : Blk) (i : Nat) (u : UInt8) : Blk := if h : i < 64 then y.set i (y[i] ^^^ u) else y
theorem RefD.setByte (h : RefD w p (.slice (some ⟨gg, 0, none⟩) n c) vL S L g) (hk : k < n) (hi : i < 64) (v : UInt8) : RefD (w.setCell ⟨gg, k * 64 + i, none⟩ (.int .u8 (v.toNat : Int))) p (.slice (some ⟨gg, 0, none⟩) n c) vL (S.set k ((S.getD k zeroB).set i v)) L g := by
  have hO : Only (fun b => b = gg) w (w.setCell ⟨gg, k * 64 + i, none⟩ (.int .u8 (v.toNat : Int))) := only_set w gg _ _
  refine ⟨hO.keep h.at_ (fun e => h.S_.not_at h.at_ (by decide) (by rw [e]; rfl)), ?_, h.L_.only hO fun b hb e => ?_⟩
  · refine h.S_.put hk (j := i) (vs := [.int .u8 (v.toNat : Int)]) ((S.getD k zeroB).set i v) ?_ (by show i + 1 ≤ 64; omega)
    show cel ((S.getD k zeroB).set i v) = (cel (S.getD k zeroB)).take i ++ [_] ++ (cel (S.getD k zeroB)).drop (i + 1)
    rw [← cel_set _ hi, List.set_eq_take_append_cons_drop, if_pos (by rw [cel_length]; exact hi)]
    simp
  · rcases h.L_.other h.S_ (by decide) with e' | e'
    · rw [e'] at hb; cases hb
    · exact e' (by rw [hb, e]; rfl)
end
/-- What Rot answers; what is sure then. -/
def rotE (S : List Blk) (g : Bool) (n i : Int) : Int := if 0 ≤ n ∧ n < S.length ∧ 0 ≤ i ∧ i < 64 then (if g = true then 9 else 0) else 2
def rotS (S : List Blk) (g : Bool) (n i : Int) (u : UInt8) : List Blk := if rotE S g n i = 0 then S.set n.toNat (rotB (S.getD n.toNat zeroB) i.toNat u) else S
set_option maxHeartbeats 2000000 in
theorem r_rot_ok (p k i : Nat) (u : UInt8) (vS vL : Value) (S : List Blk) (L : List (Int × Blk)) (w : World) (h : RefD w p vS vL S L false) (hk : k < S.length) (hi : i < 64) :
    Calls Try.prog 75 #[.pointer (some ⟨p, 0, none⟩), .int .i64 k, .int .i64 i, .int .u8 (u.toNat : Int)] w fun e w' => e = .returned (.int .i64 0) ∧ RefD w' p vS vL (S.set k (rotB (S.getD k zeroB) i u)) L false ∧ Only (foot p vS vL) w w' := by
  obtain ⟨c0, c1, c2⟩ := cells3 h.at_
  obtain ⟨gS, cS, rfl⟩ := h.S_.slice rfl (by omega)
  obtain ⟨bS, oS, hSe, hSl, rS⟩ := h.S_.rd.blk hk
  injection hSe with hSe
  injection hSe with e1 e2
  subst e1 e2
  obtain ⟨y, hy⟩ : ∃ y, S.getD k zeroB = y := ⟨_, rfl⟩
  have HY := Lib.hid hy
  rw [hy] at rS
  have hc := rS i _ (cel_at _ hi)
  rw [Nat.zero_add, byt_get _ hi] at hc
  have hkl : (k : Int) < (S.length : Int) := by omega
  have hil : (i : Int) < 64 := by omega
  have HT := Lib.hid (show w.there gS (k * 64 + i) 1 from h.S_.there hk (j := i) (m := 1) (by show i + 1 ≤ 64; omega))
  have hf : w.frozen? ⟨gS, k * 64 + i, none⟩ = false := by have := (HT.out 0 (by omega)).2; simpa using this
  have HH := Lib.hid h
  have HA := Lib.hid c0
  have HR : rotB (S.getD k zeroB) i u = y.set i (y[i] ^^^ u) := by rw [hy]; unfold rotB; rw [dif_pos hi]
  have HRR := Lib.hid HR
  have HC := Lib.hid hc
  clear h rS HR hy
  go_enter Try.func75, Try.ntmps75
  go_wp2_with fail
  refine wp_region_still_tail 19 (by kernel_rfl) (by kernel_rfl) ?_
  simp only [List.take_succ_cons, List.take_zero, List.drop_succ_cons, List.drop_zero]
  refine st_val rfl (exec_mv rfl (ev rfl)) ?_
  simp only [Act.put, List.setIfInBounds_toArray, List.set_cons_succ, List.set_cons_zero]
  refine st_val rfl (exec_nil rfl (ev rfl)) ?_
  simp only [Act.put, List.setIfInBounds_toArray, List.set_cons_succ, List.set_cons_zero]
  refine st_val rfl (exec_faddr rfl (ev rfl) faD0) ?_
  simp only [Act.put, List.setIfInBounds_toArray, List.set_cons_succ, List.set_cons_zero]
  refine st_val rfl (exec_ld rfl (ev rfl) (ldB HA.out)) ?_
  simp only [Act.put, List.setIfInBounds_toArray, List.set_cons_succ, List.set_cons_zero]
  refine st_val rfl (exec_mv rfl (ev rfl)) ?_
  simp only [Act.put, List.setIfInBounds_toArray, List.set_cons_succ, List.set_cons_zero]
  refine st_val rfl (exec_mv rfl (ev rfl)) ?_
  simp only [Act.put, List.setIfInBounds_toArray, List.set_cons_succ, List.set_cons_zero]
  refine st_val rfl (exec_mv rfl (ev rfl)) ?_
  simp only [Act.put, List.setIfInBounds_toArray, List.set_cons_succ, List.set_cons_zero]
  refine st_val rfl (exec_nil rfl (ev rfl)) ?_
  simp only [Act.put, List.setIfInBounds_toArray, List.set_cons_succ, List.set_cons_zero]
  refine st_val rfl (exec_faddr rfl (ev rfl) faD0) ?_
  simp only [Act.put, List.setIfInBounds_toArray, List.set_cons_succ, List.set_cons_zero]
  refine st_val rfl (exec_ld rfl (ev rfl) (ldB HA.out)) ?_
  simp only [Act.put, List.setIfInBounds_toArray, List.set_cons_succ, List.set_cons_zero]
  refine st_val rfl (exec_mv rfl (ev rfl)) ?_
  simp only [Act.put, List.setIfInBounds_toArray, List.set_cons_succ, List.set_cons_zero]
  refine st_val rfl (exec_mv rfl (ev rfl)) ?_
  simp only [Act.put, List.setIfInBounds_toArray, List.set_cons_succ, List.set_cons_zero]
  refine st_val rfl (exec_ix0B rfl (ev rfl) (ev rfl) hk) ?_
  simp only [Act.put, List.setIfInBounds_toArray, List.set_cons_succ, List.set_cons_zero]
  refine st_val rfl (exec_ix rfl (ev rfl) (ev rfl) (run_ixB hi)) ?_
  simp only [Act.put, List.setIfInBounds_toArray, List.set_cons_succ, List.set_cons_zero]
  refine st_val rfl (exec_ld rfl (ev rfl) (ldU HC.out)) ?_
  simp only [Act.put, List.setIfInBounds_toArray, List.set_cons_succ, List.set_cons_zero]
  refine st_val rfl (exec_mv rfl (ev rfl)) ?_
  simp only [Act.put, List.setIfInBounds_toArray, List.set_cons_succ, List.set_cons_zero]
  refine st_val rfl (exec_xor8 rfl (ev rfl) (ev rfl)) ?_
  simp only [Act.put, List.setIfInBounds_toArray, List.set_cons_succ, List.set_cons_zero]
  refine st_val rfl (exec_ix0B rfl (ev rfl) (ev rfl) hk) ?_
  simp only [Act.put, List.setIfInBounds_toArray, List.set_cons_succ, List.set_cons_zero]
  refine st_val rfl (exec_ix rfl (ev rfl) (ev rfl) (run_ixB hi)) ?_
  simp only [Act.put, List.setIfInBounds_toArray, List.set_cons_succ, List.set_cons_zero]
  refine wpStill_nil ?_
  change wpList _ _ _ _ _ w.drew
  have hcd : w.drew.cell? ⟨gS, k * 64 + i, none⟩ = some (.int .u8 (y[i].toNat : Int)) := HC.out
  have hfd : w.drew.frozen? ⟨gS, k * 64 + i, none⟩ = false := hf
  go_wp2_with fail
  go_ret
  refine ⟨rfl, ?_, (Only.refl _ w).drew.setCell (.inl (.inr (.inl rfl))) _⟩
  rw [HRR.out]
  have hset := HH.out.setByte hk hi (y[i] ^^^ u)
  rw [HY.out] at hset
  simp only [UInt8.toNat_xor] at hset
  exact ⟨hset.at_, hset.S_, hset.L_⟩
theorem r_rot_no (p : Nat) (n i : Int) (u : UInt8) (vS vL : Value) (S : List Blk) (L : List (Int × Blk)) (g : Bool) (w : World) (h : RefD w p vS vL S L g) (he : rotE S g n i ≠ 0) :
    Calls Try.prog 75 #[.pointer (some ⟨p, 0, none⟩), .int .i64 n, .int .i64 i, .int .u8 (u.toNat : Int)] w fun e w' => e = .returned (.int .i64 (rotE S g n i)) ∧ w = w' := by
  obtain ⟨c0, c1, c2⟩ := cells3 h.at_
  obtain ⟨A, c, rfl, hc1, hc2⟩ := h.S_.form
  have hor : n < 0 ∨ (0 ≤ n ∧ (S.length : Int) ≤ n) ∨ (0 ≤ n ∧ n < S.length ∧ i < 0) ∨ (0 ≤ n ∧ n < S.length ∧ 0 ≤ i ∧ 64 ≤ i) ∨ (0 ≤ n ∧ n < S.length ∧ 0 ≤ i ∧ i < 64) := by omega
  rcases hor with h1 | ⟨h1, h2⟩ | ⟨h1, h2, h3⟩ | ⟨h1, h2, h3, h4⟩ | ⟨h1, h2, h3, h4⟩
  rotate_right 1
  · cases g
    · exact absurd (show rotE S false n i = 0 by unfold rotE; rw [if_pos ⟨h1, h2, h3, h4⟩]; rfl) he
    · have HE := Lib.hid (show rotE S true n i = 9 by unfold rotE; rw [if_pos ⟨h1, h2, h3, h4⟩]; rfl)
      clear he
      go_enter Try.func75, Try.ntmps75
      go_wp2
      go_ret
      exact ⟨ret_int HE.out.symm, rfl⟩
  all_goals
    have HE := Lib.hid (show rotE S g n i = 2 by unfold rotE; rw [if_neg (by omega)])
    clear he
    go_enter Try.func75, Try.ntmps75
    go_wp2
    go_ret
    exact ⟨ret_int HE.out.symm, rfl⟩
theorem r_rot (p : Nat) (n i : Int) (u : UInt8) (vS vL : Value) (S : List Blk) (L : List (Int × Blk)) (g : Bool) (w : World) (h : RefD w p vS vL S L g) :
    Calls Try.prog 75 #[.pointer (some ⟨p, 0, none⟩), .int .i64 n, .int .i64 i, .int .u8 (u.toNat : Int)] w fun e w' => e = .returned (.int .i64 (rotE S g n i)) ∧ RefD w' p vS vL (rotS S g n i u) L g ∧ Only (foot p vS vL) w w' := by
  by_cases he : rotE S g n i = 0
  · have hin : 0 ≤ n ∧ n < S.length ∧ 0 ≤ i ∧ i < 64 := by
      by_cases h0 : 0 ≤ n ∧ n < S.length ∧ 0 ≤ i ∧ i < 64
      · exact h0
      · unfold rotE at he; rw [if_neg h0] at he; omega
    have hg : g = false := by
      cases g
      · rfl
      · unfold rotE at he; rw [if_pos hin] at he; simp at he
    subst hg
    obtain ⟨k, rfl⟩ := Int.eq_ofNat_of_zero_le hin.1
    obtain ⟨j, rfl⟩ := Int.eq_ofNat_of_zero_le hin.2.2.1
    have e : rotS S false k j u = S.set k (rotB (S.getD k zeroB) j u) := by unfold rotS; rw [if_pos he]; rfl
    rw [e, he]
    exact r_rot_ok p k j u vS vL S L w h (by omega) (by omega)
  · have e : rotS S g n i u = S := by unfold rotS; rw [if_neg he]
    rw [e]
    exact (r_rot_no p n i u vS vL S L g w h he).mono fun e w' ⟨h1, h2⟩ => by subst h2; exact ⟨h1, h, Only.refl _ _⟩
set_option maxHeartbeats 1000000 in
theorem r_new_ok (k : Nat) (w : World) (h1 : 1 ≤ k) (h2 : k ≤ 512) :
    Calls Try.prog 36 #[.int .i64 k] w fun e w' => ∃ p vS, e = .returned (.tuple #[.pointer (some ⟨p, 0, none⟩), .int .i64 0]) ∧ RefD w' p vS (.slice none 0 0) (List.replicate k zeroB) [] false ∧ Below w.heap.size w w' ∧ ∀ b, foot p vS (.slice none 0 0) b → w.heap.size ≤ b := by
  go_enter Try.func36, Try.ntmps36
  have HM := Lib.hid (heap_alloc_new w (.cells (madeCells (cel zeroB).toArray (k * 64)) 34))
  have HB := Lib.hid ((Below.refl w.heap.size w).alloc (Nat.le_refl _) (.cells (madeCells (cel zeroB).toArray (k * 64)) 34))
  have HSZ := Lib.hid (World.size_alloc w (.cells (madeCells (cel zeroB).toArray (k * 64)) 34))
  go_wp2_with (first | (refine wpList_val rfl (exec_make (n := k) rfl rfl rfl (by omega)) ?_))
  generalize w.alloc (.cells (madeCells (cel zeroB).toArray (k * 64)) 34) = w1 at *
  go_ret2
  have hS : MadeE BlkE w1 0 (.slice (some ⟨w.heap.size, 0, none⟩) k k) (List.replicate k zeroB) := MadeE.of_block (E := BlkE) HM.out (by rw [← flat_zeros]; rfl) (Nat.zero_le _) (by simp) (by unfold maxLen; omega)
  have hnw := heap_alloc_new w1 (.cells #[.slice (some ⟨w.heap.size, 0, none⟩) k k, .slice none 0 0, .bool false] 90)
  rw [HSZ.out] at hnw
  refine ⟨w.heap.size + 1, _, rfl, ⟨hnw, hS.below ((Below.refl _ _).alloc (Nat.le_refl _) _), MadeE.nil _ _⟩, HB.out.alloc HB.out.size _, fun b hb => ?_⟩
  rcases hb with rfl | hb | hb
  · omega
  · simp [Value.ownBlock] at hb; omega
  · simp [Value.ownBlock] at hb
theorem r_new_no (n : Int) (w : World) (h : ¬(1 ≤ n ∧ n ≤ 512)) :
    Calls Try.prog 36 #[.int .i64 n] w fun e w' => e = .returned (.tuple #[.pointer none, .int .i64 2]) ∧ w = w' := by
  have hor : n < 1 ∨ (1 ≤ n ∧ 512 < n) := by omega
  clear h
  rcases hor with h | ⟨h, h'⟩
  all_goals
    go_enter Try.func36, Try.ntmps36
    go_wp2
    go_ret2
    exact ⟨rfl, rfl⟩
end Go.Proofs.Ytpcdcnnnkblhiaa
namespace Go.Proofs.Ytpcdcnnnkblhiaa
open Go.RowKit
set_option linter.unusedVariables false
set_option maxRecDepth 100000

/-- The document's device lies at p, in the blocks F. -/
def Rv (w : World) (F : Nat → Prop) (p : Nat) (S : List Blk) (L : List (Int × Blk)) (g : Bool) : Prop := ∃ vS vL, F = foot p vS vL ∧ RefD w p vS vL S L g ∧ Fit S L
def Grow (w : World) (F F' : Nat → Prop) : Prop := ∀ b, F' b → F b ∨ w.heap.size ≤ b
section
variable {w w' : World} {F G : Nat → Prop} {p : Nat} {S : List Blk} {L : List (Int × Blk)} {g : Bool}
theorem Rv.lt (h : Rv w F p S L g) : ∀ b, F b → b < w.heap.size := by
  obtain ⟨vS, vL, rfl, h, _⟩ := h
  exact h.lt
theorem Rv.only (h : Rv w F p S L g) (k : Only G w w') (hn : ∀ b, F b → ¬ G b) : Rv w' F p S L g := by
  obtain ⟨vS, vL, rfl, h, hF⟩ := h
  exact ⟨vS, vL, rfl, h.only k hn, hF⟩
theorem Rv.below (h : Rv w F p S L g) (k : Below w.heap.size w w') : Rv w' F p S L g := h.only (Only.of_below (fun _ => False) k) fun _ _ e => e
theorem Rv.fit (h : Rv w F p S L g) : Fit S L := h.choose_spec.choose_spec.2.2
theorem Grow.same (w : World) (F : Nat → Prop) : Grow w F F := fun _ h => .inl h
end
theorem Fit.nil (S : List Blk) : Fit S [] := fun q h => by cases h
theorem Fit.wr {S : List Blk} {L : List (Int × Blk)} (g : Bool) (n : Int) (b : Blk) (h : Fit S L) : Fit S (wrL S L g n b) := by
  unfold wrL
  split
  · rename_i he
    rcases askE_is (S := S) (g := g) (n := n) with h1 | h1 | ⟨_, rfl, k, rfl, hk⟩
    · omega
    · omega
    · intro q hq
      rcases List.mem_append.1 hq with hq | hq
      · exact h q hq
      · simp at hq; subst hq; exact ⟨by simp, by simpa using hk⟩
  · exact h
theorem Fit.len {S S' : List Blk} {L : List (Int × Blk)} (h : Fit S L) (e : S'.length = S.length) : Fit S' L := fun q hq => by rw [e]; exact h q hq
theorem rotS_len (S : List Blk) (g : Bool) (n i : Int) (u : UInt8) : (rotS S g n i u).length = S.length := by
  unfold rotS; split
  · rw [List.length_set]
  · rfl
section
variable {w : World} {F : Nat → Prop} {p : Nat} {S : List Blk} {L : List (Int × Blk)} {g : Bool}
theorem rv_read (n : Int) (h : Rv w F p S L g) : Calls Try.prog 69 #[.pointer (some ⟨p, 0, none⟩), .int .i64 n] w fun e w' => e = .returned (.tuple #[blk (readB S L g n), .int .i64 (askE S g n)]) ∧ Below w.heap.size w w' := by
  obtain ⟨vS, vL, rfl, h, _⟩ := h
  exact r_read p vS vL S L g n w h
theorem rv_sure (n : Int) (h : Rv w F p S L g) : Calls Try.prog 74 #[.pointer (some ⟨p, 0, none⟩), .int .i64 n] w fun e w' => e = .returned (.tuple #[blk (sureB S g n), .int .i64 (askE S g n)]) ∧ Below w.heap.size w w' := by
  obtain ⟨vS, vL, rfl, h, _⟩ := h
  exact r_sure p vS vL S L g n w h
theorem rv_write (n : Int) (b : Blk) (hL : L.length < 1000000) (h : Rv w F p S L g) : Calls Try.prog 68 #[.pointer (some ⟨p, 0, none⟩), .int .i64 n, blk b] w fun e w' => e = .returned (.int .i64 (askE S g n)) ∧ ∃ F', Rv w' F' p S (wrL S L g n b) g ∧ Only F w w' ∧ Grow w F F' := by
  obtain ⟨vS, vL, rfl, h, hF⟩ := h
  refine (r_write p vS vL S L g n b w h hL).mono ?_
  rintro e w' ⟨he, vL', h1, h2, h3⟩
  refine ⟨he, _, ⟨vS, vL', rfl, h1, hF.wr g n b⟩, h2, fun k hk => ?_⟩
  rcases hk with e | e | e
  · exact .inl (.inl e)
  · exact .inl (.inr (.inl e))
  · rcases h3 k e with e | e
    · exact .inl (.inr (.inr e))
    · exact .inr e
theorem rv_flush (h : Rv w F p S L g) : Calls Try.prog 70 #[.pointer (some ⟨p, 0, none⟩)] w fun e w' => e = .returned (.int .i64 (if g = true then 9 else 0)) ∧ ∃ F', Rv w' F' p (if g = true then S else flS S L) (if g = true then L else []) g ∧ Only F w w' ∧ Grow w F F' := by
  obtain ⟨vS, vL, rfl, h, hF⟩ := h
  cases g
  · refine (r_flush_ok p vS vL S L w h hF).mono ?_
    rintro e w' ⟨he, h1, h2⟩
    refine ⟨he, _, ⟨vS, _, rfl, h1, Fit.nil _⟩, h2, fun k hk => ?_⟩
    rcases hk with e | e | e
    · exact .inl (.inl e)
    · exact .inl (.inr (.inl e))
    · simp [Value.ownBlock] at e
  · refine (r_flush_dead p vS vL S L w h).mono ?_
    rintro e w' ⟨he, rfl⟩
    exact ⟨he, _, ⟨vS, vL, rfl, h, hF⟩, Only.refl _ _, Grow.same _ _⟩
theorem rv_fail (h : Rv w F p S L g) : Calls Try.prog 72 #[.pointer (some ⟨p, 0, none⟩)] w fun e w' => (∃ v, e = .returned v) ∧ ∃ F', Rv w' F' p S [] true ∧ Only F w w' ∧ Grow w F F' := by
  obtain ⟨vS, vL, rfl, h, hF⟩ := h
  refine (r_fail p vS vL S L g w h).mono ?_
  rintro e w' ⟨he, h1, h2⟩
  refine ⟨he, _, ⟨vS, _, rfl, h1, Fit.nil _⟩, h2, fun k hk => ?_⟩
  rcases hk with e | e | e
  · exact .inl (.inl e)
  · exact .inl (.inr (.inl e))
  · simp [Value.ownBlock] at e
theorem rv_rot (n i : Int) (u : UInt8) (h : Rv w F p S L g) : Calls Try.prog 75 #[.pointer (some ⟨p, 0, none⟩), .int .i64 n, .int .i64 i, .int .u8 (u.toNat : Int)] w fun e w' => e = .returned (.int .i64 (rotE S g n i)) ∧ ∃ F', Rv w' F' p (rotS S g n i u) L g ∧ Only F w w' ∧ Grow w F F' := by
  obtain ⟨vS, vL, rfl, h, hF⟩ := h
  refine (r_rot p n i u vS vL S L g w h).mono ?_
  rintro e w' ⟨he, h1, h2⟩
  exact ⟨he, _, ⟨vS, vL, rfl, h1, hF.len (rotS_len _ _ _ _ _)⟩, h2, Grow.same _ _⟩
theorem rv_crash {A : Option Addr} {n c : Nat} {P : List Int} (hP : RdE IntE w w.heap.size A n P) (hN : ∀ x, A = some x → 0 < n → ¬ F x.block) (h : Rv w F p S L g) : Calls Try.prog 73 #[.pointer (some ⟨p, 0, none⟩), .slice A n c] w fun e w' => e = .returned (.int .i64 ((min L.length n : Nat) : Int)) ∧ ∃ F', Rv w' F' p (crI S L P L.length) [] g ∧ Only F w w' ∧ Grow w F F' := by
  obtain ⟨vS, vL, rfl, h, hF⟩ := h
  refine (r_crash p vS vL S L g A n c P w h hF hP hN).mono ?_
  rintro e w' ⟨he, h1, h2⟩
  refine ⟨he, _, ⟨vS, _, rfl, h1, Fit.nil _⟩, h2, fun k hk => ?_⟩
  rcases hk with e | e | e
  · exact .inl (.inl e)
  · exact .inl (.inr (.inl e))
  · simp [Value.ownBlock] at e
theorem rv_new (k : Nat) (w : World) (h1 : 1 ≤ k) (h2 : k ≤ 512) : Calls Try.prog 36 #[.int .i64 k] w fun e w' => ∃ p F, e = .returned (.tuple #[.pointer (some ⟨p, 0, none⟩), .int .i64 0]) ∧ Rv w' F p (List.replicate k zeroB) [] false ∧ Below w.heap.size w w' ∧ ∀ b, F b → w.heap.size ≤ b := by
  refine (r_new_ok k w h1 h2).mono ?_
  rintro e w' ⟨p, vS, he, hr, hb, hf⟩
  exact ⟨p, _, he, ⟨vS, _, rfl, hr, Fit.nil _⟩, hb, hf⟩
end
end Go.Proofs.Ytpcdcnnnkblhiaa
namespace Go.Proofs.Ytpcdcnnnkblhiaa
open Go.RowKit
set_option linter.unusedVariables false

/-- The numbers of what Flush, Crash leave. -/
structure Dev where
  Dv : World → (Nat → Prop) → Nat → List Blk → List (Int × Blk) → Bool → Prop
  lt : ∀ {w F p S L g}, Dv w F p S L g → ∀ b, F b → b < w.heap.size
  only : ∀ {w w' F G p S L g}, Dv w F p S L g → Only G w w' → (∀ b, F b → ¬ G b) → Dv w' F p S L g
  fit : ∀ {w F p S L g}, Dv w F p S L g → Fit S L ∧ 1 ≤ S.length
  cap : ∀ {w F p S L g}, Dv w F p S L g → S.length ≤ 512
  new_ok : ∀ (k : Nat) (w : World), 1 ≤ k → k ≤ 512 → Calls Try.prog 23 #[.int .i64 k] w fun e w' => ∃ p F, e = .returned (.tuple #[.pointer (some ⟨p, 0, none⟩), .int .i64 0]) ∧ Dv w' F p (List.replicate k zeroB) [] false ∧ Below w.heap.size w w' ∧ ∀ b, F b → w.heap.size ≤ b
  new_no : ∀ (n : Int) (w : World), ¬(1 ≤ n ∧ n ≤ 512) → Calls Try.prog 23 #[.int .i64 n] w fun e w' => e = .returned (.tuple #[.pointer none, .int .i64 2]) ∧ Below w.heap.size w w'
  read : ∀ {w F p S L g} (n : Int), Dv w F p S L g → Calls Try.prog 31 #[.pointer (some ⟨p, 0, none⟩), .int .i64 n] w fun e w' => e = .returned (.tuple #[blk (readB S L g n), .int .i64 (askE S g n)]) ∧ Below w.heap.size w w'
  sure : ∀ {w F p S L g} (n : Int), Dv w F p S L g → Calls Try.prog 58 #[.pointer (some ⟨p, 0, none⟩), .int .i64 n] w fun e w' => e = .returned (.tuple #[blk (sureB S g n), .int .i64 (askE S g n)]) ∧ Below w.heap.size w w'
  write : ∀ {w F p S L g} (n : Int) (b : Blk), L.length < 1000000 → Dv w F p S L g → Calls Try.prog 24 #[.pointer (some ⟨p, 0, none⟩), .int .i64 n, blk b] w fun e w' => e = .returned (.int .i64 (askE S g n)) ∧ ∃ F', Dv w' F' p S (wrL S L g n b) g ∧ Only F w w' ∧ Grow w F F'
  flush : ∀ {w F p S L g}, Dv w F p S L g → Calls Try.prog 25 #[.pointer (some ⟨p, 0, none⟩)] w fun e w' => e = .returned (.int .i64 (if g = true then 9 else 0)) ∧ ∃ F', Dv w' F' p (if g = true then S else flS S L) (if g = true then L else []) g ∧ Only F w w' ∧ Grow w F F'
  fail : ∀ {w F p S L g}, Dv w F p S L g → Calls Try.prog 26 #[.pointer (some ⟨p, 0, none⟩)] w fun e w' => e = .returned (.int .i64 0) ∧ ∃ F', Dv w' F' p S [] true ∧ Only F w w' ∧ Grow w F F'
  rot : ∀ {w F p S L g} (n i : Int) (u : UInt8), Dv w F p S L g → Calls Try.prog 28 #[.pointer (some ⟨p, 0, none⟩), .int .i64 n, .int .i64 i, .int .u8 (u.toNat : Int)] w fun e w' => e = .returned (.int .i64 (rotE S g n i)) ∧ ∃ F', Dv w' F' p (rotS S g n i u) L g ∧ Only F w w' ∧ Grow w F F'
  crash : ∀ {w F p S L g A n c P}, RdE IntE w w.heap.size A n P → n ≤ c → c ≤ maxLen → (∀ x, A = some x → 0 < n → ¬ F x.block) → Dv w F p S L g → Calls Try.prog 29 #[.pointer (some ⟨p, 0, none⟩), .slice A n c] w fun e w' => e = .returned (.tuple #[.int .i64 ((min L.length n : Nat) : Int), .int .i64 0]) ∧ ∃ F', Dv w' F' p (crI S L P L.length) [] g ∧ Only F w w' ∧ Grow w F F'
  copy : ∀ {w F p S L g}, Dv w F p S L g → Calls Try.prog 48 #[.pointer (some ⟨p, 0, none⟩)] w fun e w' => ∃ p' F', e = .returned (.pointer (some ⟨p', 0, none⟩)) ∧ Dv w' F' p' S L g ∧ Below w.heap.size w w' ∧ ∀ b, F' b → w.heap.size ≤ b
  dead : ∀ {w F p S L g}, Dv w F p S L g → Calls Try.prog 56 #[.pointer (some ⟨p, 0, none⟩)] w fun e w' => e = .returned (.bool g) ∧ Below w.heap.size w w'
  sectors : ∀ {w F p S L g}, Dv w F p S L g → Calls Try.prog 60 #[.pointer (some ⟨p, 0, none⟩)] w fun e w' => e = .returned (.int .i64 (S.length : Int)) ∧ Below w.heap.size w w'
theorem Dev.below (D : Dev) {w w' : World} {F : Nat → Prop} {p : Nat} {S : List Blk} {L : List (Int × Blk)} {g : Bool} (h : D.Dv w F p S L g) (k : Below w.heap.size w w') : D.Dv w' F p S L g := D.only h (Only.of_below (fun _ => False) k) fun _ _ e => e
/-- Behind a call that turned the device's blocks, of what lies below all of them nothing has turned. -/
theorem turned {w w' : World} {F : Nat → Prop} {B : Nat} (h : Only F w w') (hF : ∀ b, F b → B ≤ b) (hB : B ≤ w.heap.size) : Below B w w' := h.below hF hB
theorem Grow.above {w : World} {F F' : Nat → Prop} {B : Nat} (h : Grow w F F') (hF : ∀ b, F b → B ≤ b) (hB : B ≤ w.heap.size) : ∀ b, F' b → B ≤ b := fun b hb => by
  rcases h b hb with e | e
  · exact hF b e
  · omega
end Go.Proofs.Ytpcdcnnnkblhiaa
namespace Go.Proofs.Ytpcdcnnnkblhiaa
open Go.RowKit
set_option linter.unusedVariables false

section
variable {ρ : Operand → Value} {o : Oper} {x y : Operand} {w : World} {A : Option Addr} {n c k B : Nat} {l : List Int} {F : Nat → Prop}
def tailI (A : Option Addr) (c k : Nat) : Option Addr := if c = k then A else A.map (fun x => x.add k)
theorem exec_tailI (ho : o.op = .slice 22 x (some y) none none) (hx : ρ x = .slice A n c) (hy : ρ y = .int .i64 (k : Int)) (hk : k ≤ n) : (execOp ρ o).run Try.prog w = .ok (.value (.slice (tailI A c k) (n - k) (c - k))) w := by
  unfold execOp tailI
  simp [ho, hx, hy, Instr.sliceAt, Instr.slice, Instr.sliceBounds, Instr.sliceBound, asIntOf, run_underlying Try.underlying22]
  intro hh
  omega
theorem RdE.tailI (h : RdE IntE w B A n l) (hk : k ≤ n) (hc : n ≤ c) : RdE IntE w B (Go.Proofs.Ytpcdcnnnkblhiaa.tailI A c k) (n - k) (l.drop k) :=
  ⟨by rw [List.length_drop, h.1], fun j hj => by
    obtain ⟨b, off, e, hb, hr⟩ := h.2 (k + j) (by omega)
    refine ⟨b, off + k, ?_, hb, ?_⟩
    · unfold Go.Proofs.Ytpcdcnnnkblhiaa.tailI
      rw [if_neg (by omega), e]
      simp [Addr.add_mid]
    · rw [List.getD, List.getElem?_drop, show off + k + j * IntE.n = off + (k + j) * IntE.n from by show off + k + j * 1 = off + (k + j) * 1; omega]
      exact hr⟩
/-- A cut's numbers: a slice that reads as a list, and lies outside of F. -/
structure Pk (w : World) (F : Nat → Prop) (A : Option Addr) (n c : Nat) (P : List Int) : Prop where
  rd : RdE IntE w w.heap.size A n P
  le : n ≤ c
  cap : c ≤ maxLen
  out : ∀ x, A = some x → 0 < n → ¬ F x.block
theorem Pk.tail (h : Pk w F A n c l) (hk : k ≤ n) : Pk w F (Go.Proofs.Ytpcdcnnnkblhiaa.tailI A c k) (n - k) (c - k) (l.drop k) :=
  ⟨h.rd.tailI hk h.le, by have := h.le; omega, by have := h.cap; omega, fun x hx h0 => by
    have h1 := h.le
    unfold Go.Proofs.Ytpcdcnnnkblhiaa.tailI at hx
    rw [if_neg (by omega)] at hx
    cases A with
    | none => cases hx
    | some a =>
      have hb : x.block = a.block := by
        simp at hx
        rw [← hx]
        unfold Addr.add
        split <;> rfl
      rw [hb]
      exact h.out a rfl (by omega)⟩
theorem Pk.only {w' : World} (h : Pk w F A n c l) (k : Only F w w') : RdE IntE w' w'.heap.size A n l := (h.rd.only k (Nat.le_refl _) h.out).more k.size
theorem Pk.below {w' : World} (h : Pk w F A n c l) (k : Below w.heap.size w w') : Pk w' F A n c l := ⟨h.rd.step k, h.le, h.cap, h.out⟩
theorem Pk.len (h : Pk w F A n c l) : l.length = n := h.rd.1
/-- Numbers that lie outside of F lie outside of what F grows to. -/
theorem Pk.grown {w' : World} {G : Nat → Prop} (h : Pk w F A n c l) (hg : ∀ b, G b → F b ∨ w.heap.size ≤ b) : ∀ x, A = some x → 0 < n → ¬ G x.block := fun x hx h0 hf => by
  rcases hg _ hf with e | e
  · exact h.out x hx h0 e
  · obtain ⟨b, off, e1, hb, _⟩ := h.rd.2 0 h0
    rw [hx] at e1
    injection e1 with e1
    subst e1
    exact absurd e (by show ¬ w.heap.size ≤ b; omega)
end
end Go.Proofs.Ytpcdcnnnkblhiaa
namespace Go.Proofs.Ytpcdcnnnkblhiaa
open Go.RowKit
set_option linter.unusedVariables false
set_option maxRecDepth 100000

structure DevS where
  S : List Blk
  L : List (Int × Blk)
  g : Bool
structure BenS where
  ds : List DevS
  left : Nat
  dark : Bool
  steps : Nat
def dev0 : DevS := ⟨[], [], false⟩
def BenS.dev (M : BenS) (d : Int) : DevS := M.ds.getD d.toNat dev0
theorem BenS.dev_nat (M : BenS) (k : Nat) : M.dev (k : Int) = M.ds.getD k dev0 := rfl
/-- What a call of a device asks; in the light. -/
def hasE (M : BenS) (d : Int) : Int := if 0 ≤ d ∧ d < M.ds.length then 0 else 2
def litE (M : BenS) (d : Int) : Int := if M.dark = true then 8 else hasE M d
theorem hasE_is (M : BenS) (d : Int) : (hasE M d = 2 ∧ ¬(0 ≤ d ∧ d < M.ds.length)) ∨ (hasE M d = 0 ∧ ∃ k : Nat, d = k ∧ k < M.ds.length) := by
  unfold hasE
  by_cases h : 0 ≤ d ∧ d < M.ds.length
  · rw [if_pos h]; exact .inr ⟨rfl, d.toNat, by omega, by omega⟩
  · rw [if_neg h]; exact .inl ⟨rfl, h⟩
theorem hasE_ok {M : BenS} {k : Nat} (h : k < M.ds.length) : hasE M (k : Int) = 0 := by unfold hasE; rw [if_pos (by omega)]
theorem litE_dark {M : BenS} {d : Int} (h : M.dark = true) : litE M d = 8 := by unfold litE; rw [if_pos h]
theorem litE_light {M : BenS} {d : Int} (h : M.dark = false) : litE M d = hasE M d := by unfold litE; rw [if_neg (by rw [h]; decide)]
theorem litE_is (M : BenS) (d : Int) : (litE M d = 8 ∧ M.dark = true) ∨ (litE M d = 2 ∧ M.dark = false ∧ ¬(0 ≤ d ∧ d < M.ds.length)) ∨ (litE M d = 0 ∧ M.dark = false ∧ ∃ k : Nat, d = k ∧ k < M.ds.length) := by
  cases h : M.dark
  · rw [litE_light h]
    rcases hasE_is M d with ⟨e, h1⟩ | ⟨e, h1⟩
    · exact .inr (.inl ⟨e, rfl, h1⟩)
    · exact .inr (.inr ⟨e, rfl, h1⟩)
  · exact .inl ⟨litE_dark h, rfl⟩
theorem litE_ok {M : BenS} {k : Nat} (hd : M.dark = false) (h : k < M.ds.length) : litE M (k : Int) = 0 := by rw [litE_light hd, hasE_ok h]
/-- A device turned. -/
def BenS.put (M : BenS) (k : Nat) (x : DevS) : BenS := { M with ds := M.ds.set k x }
/-- A step: what it asks, and what it leaves. -/
def BenS.stepE (M : BenS) : Int := if M.left = 1 then 8 else 0
def BenS.done (M : BenS) : BenS := { M with left := M.left - 1, steps := M.steps + 1 }
def BenS.night (M : BenS) : BenS := { M with dark := true }

def rdE6 (M : BenS) (d n : Int) : Int := if litE M d = 0 then askE (M.dev d).S (M.dev d).g n else litE M d
def rdB6 (M : BenS) (d n : Int) : Blk := if litE M d = 0 then readB (M.dev d).S (M.dev d).L (M.dev d).g n else zeroB
def suE6 (M : BenS) (d n : Int) : Int := if hasE M d = 0 then askE (M.dev d).S (M.dev d).g n else hasE M d
def suB6 (M : BenS) (d n : Int) : Blk := if hasE M d = 0 then sureB (M.dev d).S (M.dev d).g n else zeroB
def wrE6 (M : BenS) (d n : Int) : Int := if rdE6 M d n = 0 then M.stepE else rdE6 M d n
def wrS6 (M : BenS) (d n : Int) (b : Blk) : BenS := if rdE6 M d n = 0 then (if M.left = 1 then M.night else M.done.put d.toNat ⟨(M.dev d).S, wrL (M.dev d).S (M.dev d).L (M.dev d).g n b, (M.dev d).g⟩) else M
def flA6 (M : BenS) (d : Int) : Int := if litE M d = 0 then (if (M.dev d).g = true then 9 else 0) else litE M d
def flE6 (M : BenS) (d : Int) : Int := if flA6 M d = 0 then M.stepE else flA6 M d
def flS6 (M : BenS) (d : Int) : BenS := if flA6 M d = 0 then (if M.left = 1 then M.night else M.done.put d.toNat ⟨flS (M.dev d).S (M.dev d).L, [], (M.dev d).g⟩) else M
def faS6 (M : BenS) (d : Int) : BenS := if hasE M d = 0 then M.put d.toNat ⟨(M.dev d).S, [], true⟩ else M
def inE6 (M : BenS) (d : Int) : Int := if litE M d = 0 then (if (M.dev d).g = true then 0 else 17) else litE M d
def inS6 (M : BenS) (d : Int) : BenS := if inE6 M d = 0 then M.put d.toNat ⟨List.replicate (M.dev d).S.length zeroB, [], false⟩ else M
def arE6 (M : BenS) (n : Int) : Int := if M.dark = true then 8 else if n < 0 then 2 else 0
def arS6 (M : BenS) (n : Int) : BenS := if arE6 M n = 0 then { M with left := n.toNat } else M
def roE6 (M : BenS) (d n i : Int) : Int := if hasE M d = 0 then rotE (M.dev d).S (M.dev d).g n i else hasE M d
def roS6 (M : BenS) (d n i : Int) (u : UInt8) : BenS := if hasE M d = 0 then M.put d.toNat ⟨rotS (M.dev d).S (M.dev d).g n i u, (M.dev d).L, (M.dev d).g⟩ else M
/-- A cut: each device takes its numbers behind those of the ones ahead of it. -/
def crAll : List DevS → List Int → List DevS
  | [], _ => []
  | d :: ds, P => ⟨crI d.S d.L P d.L.length, [], d.g⟩ :: crAll ds (P.drop (min d.L.length P.length))
def crS6 (M : BenS) (P : List Int) : BenS := ⟨crAll M.ds P, 0, false, M.steps⟩
def seN6 (M : BenS) (d : Int) : Int := if hasE M d = 0 then ((M.dev d).S.length : Int) else 0
def deG6 (M : BenS) (d : Int) : Bool := if hasE M d = 0 then (M.dev d).g else false
def newS6 (ks : List Int) : BenS := ⟨ks.map fun k => ⟨List.replicate k.toNat zeroB, [], false⟩, 0, false, 0⟩
def newOk (ks : List Int) : Prop := 1 ≤ ks.length ∧ ks.length ≤ 17 ∧ ∀ k ∈ ks, 1 ≤ k ∧ k ≤ 512

/-! What is there of a cut behind i devices: those are cut, the others are as they were; and the numbers that are left. -/
def crIn : List DevS → List Int → Nat → List DevS × List Int
  | ds, P, 0 => (ds, P)
  | [], P, _ + 1 => ([], P)
  | d :: ds, P, i + 1 => (⟨crI d.S d.L P d.L.length, [], d.g⟩ :: (crIn ds (P.drop (min d.L.length P.length)) i).1, (crIn ds (P.drop (min d.L.length P.length)) i).2)
theorem crIn_len : ∀ (i : Nat) (ds : List DevS) (P : List Int), (crIn ds P i).1.length = ds.length
  | 0, ds, P => by simp [crIn]
  | i + 1, [], P => rfl
  | i + 1, d :: ds, P => by simp [crIn, crIn_len i]
theorem crIn_all : ∀ (ds : List DevS) (P : List Int), (crIn ds P ds.length).1 = crAll ds P
  | [], P => by simp [crIn, crAll]
  | d :: ds, P => by simp [crIn, crAll, crIn_all ds]
theorem crIn_off : ∀ (i : Nat) (ds : List DevS) (P : List Int) (j : Nat), i ≤ j → (crIn ds P i).1.getD j dev0 = ds.getD j dev0
  | 0, ds, P, j, h => by simp [crIn]
  | i + 1, [], P, j, h => rfl
  | i + 1, d :: ds, P, 0, h => by omega
  | i + 1, d :: ds, P, j + 1, h => by simpa [crIn] using crIn_off i ds _ j (by omega)
theorem crIn_succ : ∀ (i : Nat) (ds : List DevS) (P : List Int), i < ds.length →
    (crIn ds P (i + 1)).1 = (crIn ds P i).1.set i ⟨crI (ds.getD i dev0).S (ds.getD i dev0).L (crIn ds P i).2 (ds.getD i dev0).L.length, [], (ds.getD i dev0).g⟩ ∧
    (crIn ds P (i + 1)).2 = (crIn ds P i).2.drop (min (ds.getD i dev0).L.length (crIn ds P i).2.length)
  | 0, [], P, h => by simp at h
  | 0, d :: ds, P, h => by simp [crIn]
  | i + 1, [], P, h => by simp at h
  | i + 1, d :: ds, P, h => by
    obtain ⟨h1, h2⟩ := crIn_succ i ds (P.drop (min d.L.length P.length)) (by simpa using h)
    constructor
    · show _ :: (crIn ds _ (i + 1)).1 = _
      rw [h1]; rfl
    · show (crIn ds _ (i + 1)).2 = _
      rw [h2]; rfl
theorem crIn_suffix : ∀ (i : Nat) (ds : List DevS) (P : List Int), ∃ m, m ≤ P.length ∧ (crIn ds P i).2 = P.drop m
  | 0, ds, P => ⟨0, Nat.zero_le _, by cases ds <;> simp [crIn]⟩
  | i + 1, [], P => ⟨0, Nat.zero_le _, by simp [crIn]⟩
  | i + 1, d :: ds, P => by
    obtain ⟨m, h1, h2⟩ := crIn_suffix i ds (P.drop (min d.L.length P.length))
    refine ⟨min d.L.length P.length + m, ?_, ?_⟩
    · rw [List.length_drop] at h1; omega
    · show (crIn ds _ i).2 = _
      rw [h2, List.drop_drop]

/-! ### Sizes that stay small -/
def Room (M : BenS) (k : Nat) : Prop := M.steps + k ≤ 1000000 ∧ M.left < 9223372036854775808 ∧ ∀ d ∈ M.ds, d.L.length + k ≤ 1000000
theorem getD_mem {α : Type} {l : List α} {k : Nat} {x : α} (h : k < l.length) : l.getD k x ∈ l := by
  rw [List.getD_eq_getElem?_getD, List.getElem?_eq_getElem h]; exact List.getElem_mem h
theorem Room.less {M : BenS} {k : Nat} (h : Room M (k + 1)) : Room M k := ⟨by have := h.1; omega, h.2.1, fun d hd => by have := h.2.2 d hd; omega⟩
theorem Room.at_ {M : BenS} {k i : Nat} (h : Room M (k + 1)) (hi : i < M.ds.length) : (M.ds.getD i dev0).L.length < 1000000 := by have := h.2.2 _ (getD_mem (x := dev0) hi); omega
theorem mem_set_or {α : Type} {l : List α} {k : Nat} {x y : α} (h : y ∈ l.set k x) : y ∈ l ∨ y = x := by
  rcases List.mem_or_eq_of_mem_set h with h | h
  · exact .inl h
  · exact .inr h
theorem Room.put {M : BenS} {k i : Nat} {x : DevS} (h : Room M k) (hx : x.L.length + k ≤ 1000000) : Room (M.put i x) k :=
  ⟨h.1, h.2.1, fun d hd => by
    rcases mem_set_or hd with e | e
    · exact h.2.2 d e
    · subst e; exact hx⟩
theorem Room.done {M : BenS} {k : Nat} (h : Room M (k + 1)) : Room M.done k := ⟨by have := h.1; show M.steps + 1 + k ≤ _; omega, by have := h.2.1; show M.left - 1 < _; omega, fun d hd => by have := h.2.2 d hd; omega⟩
theorem room_new {ks : List Int} {k : Nat} (hk : k ≤ 1000000) : Room (newS6 ks) k :=
  ⟨by show 0 + k ≤ _; omega, by show 0 < _; omega, fun d hd => by
    obtain ⟨x, _, rfl⟩ := List.mem_map.1 hd
    show 0 + k ≤ _
    omega⟩
theorem wrL_le (S : List Blk) (L : List (Int × Blk)) (g : Bool) (n : Int) (b : Blk) : (wrL S L g n b).length ≤ L.length + 1 := by
  unfold wrL; split
  · simp
  · omega
theorem room_wr {M : BenS} {k : Nat} (h : Room M (k + 1)) (d n : Int) (b : Blk) : Room (wrS6 M d n b) k := by
  unfold wrS6
  split
  · rename_i he
    split
    · exact h.less
    · have hh : ∃ i : Nat, d = i ∧ i < M.ds.length := by
        rcases litE_is M d with ⟨e, _⟩ | ⟨e, _⟩ | ⟨e, _, h⟩
        · unfold rdE6 at he; rw [if_neg (by omega)] at he; omega
        · unfold rdE6 at he; rw [if_neg (by omega)] at he; omega
        · exact h
      obtain ⟨i, rfl, hi⟩ := hh
      refine (h.done).put ?_
      have h1 := wrL_le (M.dev (i : Int)).S (M.dev (i : Int)).L (M.dev (i : Int)).g n b
      have h2 := h.2.2 _ (getD_mem (x := dev0) hi)
      have h3 : (M.dev (i : Int)).L.length + (k + 1) ≤ 1000000 := h2
      show (wrL _ _ _ _ _).length + k ≤ _
      omega
  · exact h.less
theorem room_fl {M : BenS} {k : Nat} (h : Room M (k + 1)) (d : Int) : Room (flS6 M d) k := by
  unfold flS6
  split
  · split
    · exact h.less
    · exact (h.done).put (by have := h.1; show 0 + k ≤ _; omega)
  · exact h.less
theorem room_fa {M : BenS} {k : Nat} (h : Room M k) (d : Int) : Room (faS6 M d) k := by
  unfold faS6
  split
  · exact h.put (by have := h.1; show 0 + k ≤ _; omega)
  · exact h
theorem room_in {M : BenS} {k : Nat} (h : Room M k) (d : Int) : Room (inS6 M d) k := by
  unfold inS6
  split
  · exact h.put (by have := h.1; show 0 + k ≤ _; omega)
  · exact h
theorem room_ar {M : BenS} {k : Nat} (h : Room M k) (n : Int) (hn : n < 9223372036854775808) : Room (arS6 M n) k := by
  unfold arS6
  split
  · exact ⟨h.1, by show n.toNat < _; omega, h.2.2⟩
  · exact h
theorem room_ro {M : BenS} {k : Nat} (h : Room M k) (d n i : Int) (u : UInt8) : Room (roS6 M d n i u) k := by
  unfold roS6
  split
  · rename_i he
    rcases hasE_is M d with ⟨e, _⟩ | ⟨_, j, rfl, hj⟩
    · omega
    · exact h.put (show (M.dev (j : Int)).L.length + k ≤ 1000000 from h.2.2 _ (getD_mem (x := dev0) hj))
  · exact h
theorem crAll_L : ∀ (ds : List DevS) (P : List Int), ∀ d ∈ crAll ds P, d.L = []
  | [], P, d, h => by cases h
  | x :: ds, P, d, h => by
    rcases List.mem_cons.1 h with e | e
    · subst e; rfl
    · exact crAll_L ds _ d e
theorem room_cr {M : BenS} {k : Nat} (h : Room M k) (P : List Int) : Room (crS6 M P) k :=
  ⟨h.1, by show 0 < _; omega, fun d hd => by rw [crAll_L _ _ d hd]; have := h.1; show 0 + k ≤ _; omega⟩

/-! ### Devices in memory -/
structure DvK where
  Dv : World → (Nat → Prop) → Nat → List Blk → List (Int × Blk) → Bool → Prop
  lt : ∀ {w F p S L g}, Dv w F p S L g → ∀ b, F b → b < w.heap.size
  only : ∀ {w w' F G p S L g}, Dv w F p S L g → Only G w w' → (∀ b, F b → ¬ G b) → Dv w' F p S L g
/-- Devices, one beside the other: where each lies, and in which blocks. -/
structure Devs (K : DvK) (w : World) (Fs : Nat → Nat → Prop) (ps : List Nat) (ds : List DevS) : Prop where
  len : ps.length = ds.length
  at_ : ∀ i, i < ds.length → K.Dv w (Fs i) (ps.getD i 0) (ds.getD i dev0).S (ds.getD i dev0).L (ds.getD i dev0).g
  off : ∀ i j, i < ds.length → j < ds.length → i ≠ j → ∀ b, Fs i b → ¬ Fs j b
def upF (Fs : Nat → Nat → Prop) (k : Nat) (F' : Nat → Prop) : Nat → Nat → Prop := fun i b => (i = k ∧ F' b) ∨ (i ≠ k ∧ Fs i b)
theorem upF_at (Fs : Nat → Nat → Prop) (k : Nat) (F' : Nat → Prop) : upF Fs k F' k = F' := by
  funext b; simp [upF]
theorem upF_off (Fs : Nat → Nat → Prop) {k i : Nat} (F' : Nat → Prop) (h : i ≠ k) : upF Fs k F' i = Fs i := by
  funext b; simp [upF, h]
theorem getD_set_at {α : Type} {l : List α} {k : Nat} {x d : α} (h : k < l.length) : (l.set k x).getD k d = x := by simp [List.getD, h]
theorem getD_set_off {α : Type} {l : List α} {k i : Nat} {x d : α} (h : i ≠ k) : (l.set k x).getD i d = l.getD i d := by simp [List.getD, List.getElem?_set_ne (Ne.symm h)]
section
variable {K : DvK} {w w' : World} {Fs : Nat → Nat → Prop} {ps : List Nat} {ds : List DevS} {G F' : Nat → Prop} {k : Nat}
theorem Devs.lt (h : Devs K w Fs ps ds) : ∀ i, i < ds.length → ∀ b, Fs i b → b < w.heap.size := fun i hi b hb => K.lt (h.at_ i hi) b hb
theorem Devs.only (h : Devs K w Fs ps ds) (k : Only G w w') (hn : ∀ i, i < ds.length → ∀ b, Fs i b → ¬ G b) : Devs K w' Fs ps ds :=
  ⟨h.len, fun i hi => K.only (h.at_ i hi) k (hn i hi), h.off⟩
/-- A device turned: by a call of it (its blocks, and new ones), or another one in its place. -/
theorem Devs.set (h : Devs K w Fs ps ds) (hk : k < ds.length) (ho : Only G w w') (hG : ∀ i, i < ds.length → i ≠ k → ∀ b, Fs i b → ¬ G b) (hg : Grow w (Fs k) F') {p : Nat} {d : DevS} (hd : K.Dv w' F' p d.S d.L d.g) : Devs K w' (upF Fs k F') (ps.set k p) (ds.set k d) := by
  have hnew : ∀ i, i < ds.length → i ≠ k → ∀ b, F' b → ¬ Fs i b := fun i hi hik b hb hf => by
    rcases hg b hb with e | e
    · exact h.off k i hk hi (Ne.symm hik) b e hf
    · have := h.lt i hi b hf; omega
  refine ⟨by rw [List.length_set, List.length_set]; exact h.len, fun i hi => ?_, fun i j hi hj hij b hb => ?_⟩
  · rw [List.length_set] at hi
    by_cases e : i = k
    · subst e
      rw [upF_at, getD_set_at hk, getD_set_at (by rw [h.len]; exact hk)]
      exact hd
    · rw [upF_off _ _ e, getD_set_off e, getD_set_off e]
      exact K.only (h.at_ i hi) ho (hG i hi e)
  · rw [List.length_set] at hi hj
    by_cases e : i = k
    · subst e
      rw [upF_at] at hb
      rw [upF_off _ _ (Ne.symm hij)]
      exact hnew j hj (Ne.symm hij) b hb
    · rw [upF_off _ _ e] at hb
      by_cases e' : j = k
      · subst e'
        rw [upF_at]
        exact fun hf => hnew i hi e b hf hb
      · rw [upF_off _ _ e']
        exact h.off i j hi hj hij b hb
theorem set_self {α : Type} {l : List α} {k : Nat} {d : α} (h : k < l.length) : l.set k (l.getD k d) = l := by
  rw [List.getD_eq_getElem?_getD, List.getElem?_eq_getElem h]
  exact List.set_getElem_self h
theorem Devs.turn (h : Devs K w Fs ps ds) (hk : k < ds.length) (ho : Only (Fs k) w w') (hg : Grow w (Fs k) F') {d : DevS} (hd : K.Dv w' F' (ps.getD k 0) d.S d.L d.g) : Devs K w' (upF Fs k F') ps (ds.set k d) := by
  have := h.set hk ho (fun i hi hik b hb hf => h.off i k hi hk hik b hb hf) hg hd
  rwa [set_self (by rw [h.len]; exact hk)] at this
theorem Devs.push (h : Devs K w Fs ps ds) (hb : Below w.heap.size w w') {p : Nat} {d : DevS} (hF : ∀ b, F' b → w.heap.size ≤ b) (hd : K.Dv w' F' p d.S d.L d.g) : Devs K w' (upF Fs ds.length F') (ps ++ [p]) (ds ++ [d]) := by
  have hlen := h.len
  refine ⟨by simp [h.len], fun i hi => ?_, fun i j hi hj hij b hb' => ?_⟩
  · rw [List.length_append, List.length_singleton] at hi
    by_cases e : i = ds.length
    · subst e
      rw [upF_at]
      have e1 : (ps ++ [p]).getD ds.length 0 = p := by simp [List.getD, ← hlen]
      have e2 : (ds ++ [d]).getD ds.length dev0 = d := by simp [List.getD]
      rw [e1, e2]
      exact hd
    · have hi' : i < ds.length := by omega
      rw [upF_off _ _ e]
      have e1 : (ps ++ [p]).getD i 0 = ps.getD i 0 := by simp [List.getD, List.getElem?_append_left (show i < ps.length by omega)]
      have e2 : (ds ++ [d]).getD i dev0 = ds.getD i dev0 := by simp [List.getD, List.getElem?_append_left hi']
      rw [e1, e2]
      exact K.only (h.at_ i hi') (Only.of_below (fun _ => False) hb) fun _ _ e => e
  · rw [List.length_append, List.length_singleton] at hi hj
    by_cases e : i = ds.length
    · subst e
      rw [upF_at] at hb'
      rw [upF_off _ _ (Ne.symm hij)]
      intro hf
      have := h.lt j (by omega) b hf
      have := hF b hb'
      omega
    · rw [upF_off _ _ e] at hb'
      have := h.lt i (by omega) b hb'
      by_cases e' : j = ds.length
      · subst e'
        rw [upF_at]
        intro hf
        have := hF b hf
        omega
      · rw [upF_off _ _ e']
        exact h.off i j (by omega) (by omega) hij b hb'
end
end Go.Proofs.Ytpcdcnnnkblhiaa
namespace Go.Proofs.Ytpcdcnnnkblhiaa
open Go.RowKit
set_option linter.unusedVariables false
set_option maxRecDepth 100000

def ptr (x : Nat) : Value := .pointer (some ⟨x, 0, none⟩)
/-- Rows of pointers, each to a block of its own. -/
def ptrE (s t : TypeId) (und : Try.prog.underlying s = some (.slice t)) (info : (Try.prog.info? t).map (fun i => (i.zero, i.size, i.bytes)) = some (some (.pointer none), 1, 8)) : Elt Nat where
  s := s
  t := t
  n := 1
  by_ := 8
  cel := fun x => [ptr x]
  d := 0
  z := .pointer none
  pos := by omega
  small := by omega
  len := fun _ => rfl
  one := fun a v hv => by simp only [List.mem_singleton] at hv; subst hv; rfl
  und := und
  info := info
  zc := rfl
section
variable {s t : TypeId} {und : Try.prog.underlying s = some (.slice t)} {info : (Try.prog.info? t).map (fun i => (i.zero, i.size, i.bytes)) = some (some (.pointer none), 1, 8)} {w : World} {B n k : Nat} {A : Option Addr} {l : List Nat}
theorem RdE.ptr (h : RdE (ptrE s t und info) w B A n l) (hk : k < n) : ∃ b off, A = some ⟨b, off, none⟩ ∧ b < B ∧ w.cell? ⟨b, off + k, none⟩ = some (.pointer (some ⟨l.getD k 0, 0, none⟩)) := by
  obtain ⟨b, off, e, hb, hc⟩ := h.2 k hk
  have := hc 0 (Go.Proofs.Ytpcdcnnnkblhiaa.ptr (l.getD k 0)) rfl
  exact ⟨b, off, e, hb, by simpa [ptrE, Go.Proofs.Ytpcdcnnnkblhiaa.ptr] using this⟩
end
/-- What kind of a bench: its devices, its row's type, its object's type and cells (the row, what is left, whether it is dark, steps). -/
structure BKind where
  K : DvK
  s : TypeId
  t : TypeId
  und : Try.prog.underlying s = some (.slice t)
  info : (Try.prog.info? t).map (fun i => (i.zero, i.size, i.bytes)) = some (some (.pointer none), 1, 8)
  o : TypeId
  cs : Value → Nat → Bool → Nat → Array Value
  ne : t ≠ o
def BKind.E (k : BKind) : Elt Nat := ptrE k.s k.t k.und k.info
structure BenAt (k : BKind) (w : World) (p : Nat) (v : Value) (Fs : Nat → Nat → Prop) (ps : List Nat) (M : BenS) : Prop where
  at_ : w.heap[p]? = some (.cells (k.cs v M.left M.dark M.steps) k.o)
  row : MadeE k.E w 0 v ps
  devs : Devs k.K w Fs ps M.ds
  apart : ∀ i, i < M.ds.length → ∀ b, Fs i b → b ≠ p ∧ v.ownBlock ≠ some b
  one : 1 ≤ M.ds.length
  cap : M.ds.length ≤ 17
def footB (p : Nat) (v : Value) (Fs : Nat → Nat → Prop) (n : Nat) (b : Nat) : Prop := b = p ∨ v.ownBlock = some b ∨ ∃ i, i < n ∧ Fs i b
section
variable {k : BKind} {w w' : World} {p : Nat} {v : Value} {Fs : Nat → Nat → Prop} {ps : List Nat} {M : BenS} {G F' : Nat → Prop} {i : Nat}
theorem BenAt.rowp (h : BenAt k w p v Fs ps M) : v.ownBlock ≠ some p := h.row.not_at h.at_ k.ne
theorem BenAt.lt (h : BenAt k w p v Fs ps M) : ∀ b, footB p v Fs M.ds.length b → b < w.heap.size := by
  intro b hb
  rcases hb with rfl | hb | ⟨i, hi, hb⟩
  · exact blk_lt h.at_
  · exact h.row.own_lt b hb
  · exact h.devs.lt i hi b hb
theorem BenAt.only (h : BenAt k w p v Fs ps M) (ho : Only G w w') (hn : ∀ b, footB p v Fs M.ds.length b → ¬ G b) : BenAt k w' p v Fs ps M :=
  ⟨ho.keep h.at_ (hn p (.inl rfl)), h.row.only ho fun b hb => hn b (.inr (.inl hb)), h.devs.only ho fun i hi b hb => hn b (.inr (.inr ⟨i, hi, hb⟩)), h.apart, h.one, h.cap⟩
theorem BenAt.below (h : BenAt k w p v Fs ps M) (hb : Below w.heap.size w w') : BenAt k w' p v Fs ps M := h.only (Only.of_below (fun _ => False) hb) fun _ _ e => e
theorem BenAt.len (h : BenAt k w p v Fs ps M) : ps.length = M.ds.length := h.devs.len
/-- The object's own cells turned. -/
theorem BenAt.obj (h : BenAt k w p v Fs ps M) (left : Nat) (dark : Bool) (steps : Nat) (ho : Only (fun b => b = p) w w') (hc : w'.heap[p]? = some (.cells (k.cs v left dark steps) k.o)) : BenAt k w' p v Fs ps ⟨M.ds, left, dark, steps⟩ :=
  ⟨hc, h.row.only ho fun b hb e => h.rowp (by rw [hb, e]), h.devs.only ho fun i hi b hb e => (h.apart i hi b hb).1 e, h.apart, h.one, h.cap⟩
/-- A device turned by a call of it. -/
theorem BenAt.turn (h : BenAt k w p v Fs ps M) (hi : i < M.ds.length) (ho : Only (Fs i) w w') (hg : Grow w (Fs i) F') {d : DevS} (hd : k.K.Dv w' F' (ps.getD i 0) d.S d.L d.g) :
    BenAt k w' p v (upF Fs i F') ps (M.put i d) := by
  refine ⟨ho.keep h.at_ (fun e => (h.apart i hi p e).1 rfl), h.row.only ho fun b hb e => (h.apart i hi b e).2 hb, h.devs.turn hi ho hg hd, fun j hj b hb => ?_, by show 1 ≤ (M.ds.set i d).length; rw [List.length_set]; exact h.one, by show (M.ds.set i d).length ≤ 17; rw [List.length_set]; exact h.cap⟩
  have hj' : j < M.ds.length := by have : j < (M.ds.set i d).length := hj; rwa [List.length_set] at this
  rcases hb with ⟨e, hb⟩ | ⟨e, hb⟩
  · rcases hg b hb with hb | hb
    · exact h.apart i hi b hb
    · have h1 := blk_lt h.at_
      exact ⟨fun e => by omega, fun e => by have := h.row.own_lt b e; omega⟩
  · exact h.apart j hj' b hb
theorem footB_turn (hi : i < M.ds.length) (ho : Only (Fs i) w w') : Only (footB p v Fs M.ds.length) w w' := ho.widen fun b hb => .inr (.inr ⟨i, hi, hb⟩)
theorem footB_obj (n : Nat) (ho : Only (fun b => b = p) w w') : Only (footB p v Fs n) w w' := ho.widen fun b hb => .inl hb
theorem footB_grow {n : Nat} (hi : i < n) (hg : Grow w (Fs i) F') {n' : Nat} (hn : n' = n) : Grow w (footB p v Fs n) (footB p v (upF Fs i F') n') := by
  subst hn
  intro b hb
  rcases hb with e | e | ⟨j, hj, hb⟩
  · exact .inl (.inl e)
  · exact .inl (.inr (.inl e))
  · rcases hb with ⟨e, hb⟩ | ⟨e, hb⟩
    · rcases hg b hb with hb | hb
      · exact .inl (.inr (.inr ⟨i, hi, hb⟩))
      · exact .inr hb
    · exact .inl (.inr (.inr ⟨j, hj, hb⟩))
theorem BenAt.slice (h : BenAt k w p v Fs ps M) : ∃ g c, v = .slice (some ⟨g, 0, none⟩) M.ds.length c ∧ M.ds.length ≤ c ∧ c ≤ maxLen := by
  have hl := h.len
  have h1 := h.one
  rcases h.row.2 with ⟨rfl, h0⟩ | ⟨g, cap, cur, rfl, _, _, hc1, hc2, _⟩
  · omega
  · exact ⟨g, cap, by rw [hl], by omega, hc2⟩
/-- A device's pointer in the row. -/
theorem BenAt.cell {g c : Nat} (h : BenAt k w p (.slice (some ⟨g, 0, none⟩) M.ds.length c) Fs ps M) (hi : i < M.ds.length) : w.cell? ⟨g, i, none⟩ = some (.pointer (some ⟨ps.getD i 0, 0, none⟩)) := by
  have hr : RdE k.E w w.heap.size (some ⟨g, 0, none⟩) M.ds.length ps := h.row.rd
  obtain ⟨b, off, e, _, hc⟩ := RdE.ptr (und := k.und) (info := k.info) hr hi
  injection e with e
  injection e with e1 e2
  subst e1 e2
  rw [Nat.zero_add] at hc
  exact hc
theorem BenAt.frozen {g c : Nat} (h : BenAt k w p (.slice (some ⟨g, 0, none⟩) M.ds.length c) Fs ps M) (j : Nat) : w.frozen? ⟨g, j, none⟩ = false := by
  obtain ⟨_, _, post, hg, _⟩ := h.row.parts
  exact frozen_of_row w g j _ _ hg
/-- Another device in one's place. -/
theorem BenAt.swap {g c : Nat} {w1 : World} (h : BenAt k w p (.slice (some ⟨g, 0, none⟩) M.ds.length c) Fs ps M) (hi : i < M.ds.length) (hb : Below w.heap.size w w1) (hF : ∀ b, F' b → w.heap.size ≤ b) {p' : Nat} {d : DevS} (hd : k.K.Dv w1 F' p' d.S d.L d.g) :
    BenAt k (w1.setCell ⟨g, i, none⟩ (.pointer (some ⟨p', 0, none⟩))) p (.slice (some ⟨g, 0, none⟩) M.ds.length c) (upF Fs i F') (ps.set i p') (M.put i d) := by
  have h1 := h.below hb
  have ho : Only (fun b => b = g) w1 (w1.setCell ⟨g, i, none⟩ (.pointer (some ⟨p', 0, none⟩))) := (Only.refl (fun b => b = g) w1).setCell (p := ⟨g, i, none⟩) (.inl rfl) _
  have hgl : g < w.heap.size := h.row.own_lt g rfl
  have hl := h.len
  have hrow : MadeE k.E (w1.setCell ⟨g, i, none⟩ (.pointer (some ⟨p', 0, none⟩))) 0 (.slice (some ⟨g, 0, none⟩) M.ds.length c) (ps.set i p') := by
    have := h1.row.store hi p'
    rwa [show i * k.E.n = i from by show i * 1 = i; omega] at this
  refine ⟨ho.keep h1.at_ fun e => h.rowp (by rw [e]; rfl), by show MadeE _ _ _ _ _; exact hrow, ?_, fun j hj b hb' => ?_, by show 1 ≤ (M.ds.set i d).length; rw [List.length_set]; exact h.one, by show (M.ds.set i d).length ≤ 17; rw [List.length_set]; exact h.cap⟩
  · have hoo : Only (fun b => b = g) w (w1.setCell ⟨g, i, none⟩ (.pointer (some ⟨p', 0, none⟩))) := (Only.of_below (fun b => b = g) hb).trans ho fun b hb => .inl hb
    exact h.devs.set hi hoo (fun j hj _ b hb' e => (h.apart j hj b hb').2 (by rw [e]; rfl)) (fun b hb' => .inr (hF b hb')) (k.K.only hd ho fun b hb' e => by have := hF b hb'; omega)
  · have hj' : j < M.ds.length := by have : j < (M.ds.set i d).length := hj; rwa [List.length_set] at this
    rcases hb' with ⟨e, hb'⟩ | ⟨e, hb'⟩
    · have h2 := hF b hb'
      have h3 := blk_lt h.at_
      exact ⟨fun e => by omega, fun e => by have := h.row.own_lt b e; omega⟩
    · exact h.apart j hj' b hb'
end
theorem BenS.put_len (M : BenS) (k : Nat) (d : DevS) : (M.put k d).ds.length = M.ds.length := by show (M.ds.set k d).length = _; rw [List.length_set]
section
variable {k : BKind} {w w' : World} {p : Nat} {v : Value} {Fs : Nat → Nat → Prop} {ps : List Nat} {M : BenS}
/-- What a call that turns devices leaves. -/
def Left (k : BKind) (w : World) (p : Nat) (v : Value) (Fs : Nat → Nat → Prop) (ps : List Nat) (n : Nat) (M' : BenS) (w' : World) : Prop :=
  ∃ Fs' ps', BenAt k w' p v Fs' ps' M' ∧ Only (footB p v Fs n) w w' ∧ Grow w (footB p v Fs n) (footB p v Fs' M'.ds.length)
theorem Left.same (h : BenAt k w p v Fs ps M) {M' : BenS} (e : M' = M) : Left k w p v Fs ps M.ds.length M' w := by
  subst e; exact ⟨Fs, ps, h, Only.refl _ _, Grow.same _ _⟩
theorem Left.turn (h : BenAt k w p v Fs ps M) {i : Nat} {F' : Nat → Prop} {d : DevS} (hi : i < M.ds.length) (ho : Only (Fs i) w w') (hg : Grow w (Fs i) F') (hd : k.K.Dv w' F' (ps.getD i 0) d.S d.L d.g) {M' : BenS} (e : M' = M.put i d) : Left k w p v Fs ps M.ds.length M' w' := by
  subst e
  exact ⟨_, _, h.turn hi ho hg hd, footB_turn hi ho, footB_grow hi hg (M.put_len i d)⟩
theorem Left.behind {w1 : World} {n : Nat} {M' : BenS} (ho : Only (fun b => b = p) w w1) (h : Left k w1 p v Fs ps n M' w') : Left k w p v Fs ps n M' w' := by
  obtain ⟨Fs', ps', h1, h2, h3⟩ := h
  refine ⟨Fs', ps', h1, (footB_obj n ho).trans h2 fun b hb => .inl hb, fun b hb => ?_⟩
  rcases h3 b hb with e | e
  · exact .inl e
  · exact .inr (Nat.le_trans ho.size e)
theorem Left.obj {M' : BenS} (h : BenAt k w' p v Fs ps M') (ho : Only (fun b => b = p) w w') {n : Nat} (hn : M'.ds.length = n) : Left k w p v Fs ps n M' w' := by
  subst hn
  exact ⟨Fs, ps, h, footB_obj _ ho, Grow.same _ _⟩
theorem Left.below_ (h : BenAt k w p v Fs ps M) (hb : Below w.heap.size w w') {M' : BenS} (e : M' = M) : Left k w p v Fs ps M.ds.length M' w' := by
  subst e
  exact ⟨Fs, ps, h.below hb, Only.of_below _ hb, Grow.same _ _⟩
theorem Left.above {w1 : World} {n : Nat} {M' : BenS} (hb : Below w.heap.size w w1) (h : Left k w1 p v Fs ps n M' w') : Left k w p v Fs ps n M' w' := by
  obtain ⟨Fs', ps', h1, h2, h3⟩ := h
  refine ⟨Fs', ps', h1, (Only.of_below _ hb).trans h2 fun b hb => .inl hb, fun b hb' => ?_⟩
  rcases h3 b hb' with e | e
  · exact .inl e
  · exact .inr (Nat.le_trans hb.size e)
/-! ### A cut, device by device -/
def Cutting (k : BKind) (w0 wr : World) (p : Nat) (v : Value) (Fs : Nat → Nat → Prop) (ps : List Nat) (M : BenS) (P : List Int) (j : Nat) (Fs' : Nat → Nat → Prop) : Prop :=
  BenAt k wr p v Fs' ps ⟨(crIn M.ds P j).1, M.left, M.dark, M.steps⟩ ∧ Only (footB p v Fs M.ds.length) w0 wr ∧ Grow w0 (footB p v Fs M.ds.length) (footB p v Fs' M.ds.length)
theorem Cutting.zero (h : BenAt k w p v Fs ps M) (P : List Int) : Cutting k w w p v Fs ps M P 0 Fs := by
  refine ⟨?_, Only.refl _ _, Grow.same _ _⟩
  rw [show (crIn M.ds P 0).1 = M.ds from by rw [crIn]]
  exact h
theorem Cutting.next {w0 w' : World} {Fs' : Nat → Nat → Prop} {F'' : Nat → Prop} {P : List Int} {j : Nat} (h : Cutting k w0 w p v Fs ps M P j Fs') (hj : j < M.ds.length) (ho : Only (Fs' j) w w') (hg : Grow w (Fs' j) F'')
    (hd : k.K.Dv w' F'' (ps.getD j 0) (crI (M.ds.getD j dev0).S (M.ds.getD j dev0).L (crIn M.ds P j).2 (M.ds.getD j dev0).L.length) [] (M.ds.getD j dev0).g) : Cutting k w0 w' p v Fs ps M P (j + 1) (upF Fs' j F'') := by
  obtain ⟨h1, h2, h3⟩ := h
  have hl : (crIn M.ds P j).1.length = M.ds.length := crIn_len j M.ds P
  have hj' : j < (⟨(crIn M.ds P j).1, M.left, M.dark, M.steps⟩ : BenS).ds.length := by show j < (crIn M.ds P j).1.length; rw [hl]; exact hj
  have h4 := h1.turn hj' ho hg (d := ⟨crI (M.ds.getD j dev0).S (M.ds.getD j dev0).L (crIn M.ds P j).2 (M.ds.getD j dev0).L.length, [], (M.ds.getD j dev0).g⟩) hd
  refine ⟨?_, h2.trans ho fun b hb => ?_, fun b hb => ?_⟩
  · rw [(crIn_succ j M.ds P hj).1]
    exact h4
  · exact h3 b (.inr (.inr ⟨j, hj, hb⟩))
  · rcases footB_grow (p := p) (v := v) hj hg rfl b hb with e | e
    · exact h3 b e
    · exact .inr (Nat.le_trans h2.size e)
theorem Cutting.dev {w0 : World} {Fs' : Nat → Nat → Prop} {P : List Int} {j : Nat} (h : Cutting k w0 w p v Fs ps M P j Fs') (hj : j < M.ds.length) : k.K.Dv w (Fs' j) (ps.getD j 0) (M.ds.getD j dev0).S (M.ds.getD j dev0).L (M.ds.getD j dev0).g := by
  have := h.1.devs.at_ j (by show j < (crIn M.ds P j).1.length; rw [crIn_len]; exact hj)
  rwa [crIn_off j M.ds P j (Nat.le_refl _)] at this
end
end Go.Proofs.Ytpcdcnnnkblhiaa
namespace Go.Proofs.Ytpcdcnnnkblhiaa
open Go.RowKit
set_option linter.unusedVariables false
set_option maxRecDepth 100000

def newD (k : Int) : DevS := ⟨List.replicate k.toNat zeroB, [], false⟩
theorem newS6_ds (ks : List Int) : (newS6 ks).ds = ks.map newD := rfl
structure Making (kd : BKind) (w wr : World) (v : Value) (Fs : Nat → Nat → Prop) (ps : List Nat) (ds : List DevS) (left : Nat) (dark : Bool) (steps : Nat) : Prop where
  at_ : wr.heap[w.heap.size]? = some (.cells (kd.cs v left dark steps) kd.o)
  row : MadeE kd.E wr w.heap.size v ps
  devs : Devs kd.K wr Fs ps ds
  apart : ∀ i, i < ds.length → ∀ b, Fs i b → w.heap.size < b ∧ v.ownBlock ≠ some b
  below : Below w.heap.size w wr
section
variable {kd : BKind} {w wr w1 w3 : World} {v v' : Value} {Fs : Nat → Nat → Prop} {F' : Nat → Prop} {ps : List Nat} {ds : List DevS} {p' : Nat} {d : DevS} {o2 : Obj} {left steps : Nat} {dark : Bool}
theorem Making.next (hcs : ∀ v v', (kd.cs v left dark steps).setIfInBounds 0 v' = kd.cs v' left dark steps) (h : Making kd w wr v Fs ps ds left dark steps) (hb1 : Below wr.heap.size wr w1) (hF : ∀ b, F' b → wr.heap.size ≤ b) (hd : kd.K.Dv w1 F' p' d.S d.L d.g)
    (hm : MadeE kd.E w3 w.heap.size v' (ps ++ [p'])) (hg : (w1.alloc o2).grownBy w3 v.ownBlock) (ho : ∀ x, v'.ownBlock = some x → v.ownBlock = some x ∨ w1.heap.size + 1 ≤ x) :
    Making kd w (w3.setCell ⟨w.heap.size, 0, none⟩ v') v' (upF Fs ds.length F') (ps ++ [p']) (ds ++ [d]) left dark steps := by
  have hx := blk_lt h.at_
  have h1 := hb1.size
  have hsz : (w1.alloc o2).heap.size = w1.heap.size + 1 := World.size_alloc _ _
  have hvl : ∀ b, v.ownBlock = some b → b < wr.heap.size := h.row.own_lt
  have o3 : Only (fun b => v.ownBlock = some b) w1 w3 := (Only.of_below _ ((Below.refl _ w1).alloc (Nat.le_refl _) o2)).trans ((Only.refl (fun b => v.ownBlock = some b) _).grown hg fun k e => .inl e) fun b hb => .inl hb
  have hvx : v.ownBlock ≠ some w.heap.size := h.row.not_at h.at_ kd.ne
  have hat1 := blk_keep h.at_ hb1
  have hat3 := o3.keep hat1 hvx
  have o4 : Only (fun b => b = w.heap.size ∨ v.ownBlock = some b) w1 (w3.setCell ⟨w.heap.size, 0, none⟩ v') := (o3.widen fun b hb => .inr hb).setCell (p := ⟨w.heap.size, 0, none⟩) (.inl (.inl rfl)) _
  have hv3 : v'.ownBlock ≠ some w.heap.size := hm.not_at hat3 kd.ne
  have hdv := h.devs.push hb1 hF hd
  have hap : ∀ i, i < (ds ++ [d]).length → ∀ b, upF Fs ds.length F' i b → w.heap.size < b ∧ v.ownBlock ≠ some b ∧ b < w1.heap.size := fun i hi b hb => by
    have hlt := hdv.lt i hi b hb
    rcases hb with ⟨e, hb⟩ | ⟨e, hb⟩
    · have := hF b hb
      exact ⟨by omega, fun e => by have := hvl b e; omega, hlt⟩
    · rw [List.length_append, List.length_singleton] at hi
      exact ⟨(h.apart i (by omega) b hb).1, (h.apart i (by omega) b hb).2, hlt⟩
  refine ⟨?_, hm.only (only_set w3 w.heap.size 0 v') fun b hb e => hv3 (by rw [hb, e]), hdv.only o4 fun i hi b hb e => ?_, fun i hi b hb => ⟨(hap i hi b hb).1, fun e => ?_⟩, ?_⟩
  · have := heap_setCell_same w3 w.heap.size 0 _ _ v' hat3
    rw [hcs] at this
    exact this
  · rcases e with e | e
    · have := (hap i hi b hb).1; omega
    · exact (hap i hi b hb).2.1 e
  · rcases ho b e with e | e
    · exact (hap i hi b hb).2.1 e
    · have := (hap i hi b hb).2.2; omega
  · have hb01 : Below w.heap.size w w1 := h.below.trans (hb1.mono h.below.size)
    refine hb01.trans (o4.below (fun b hb => ?_) hb01.size)
    rcases hb with e | e
    · omega
    · exact h.row.lt_own b e
theorem Making.done (h : Making kd w wr v Fs ps ds left dark steps) (h1 : 1 ≤ ds.length) (h2 : ds.length ≤ 17) : BenAt kd wr w.heap.size v Fs ps ⟨ds, left, dark, steps⟩ ∧ (∀ b, footB w.heap.size v Fs ds.length b → w.heap.size ≤ b) ∧ Below w.heap.size w wr :=
  ⟨⟨h.at_, h.row.base (Nat.zero_le _), h.devs, fun i hi b hb => ⟨by have := (h.apart i hi b hb).1; omega, (h.apart i hi b hb).2⟩, h1, h2⟩, fun b hb => by
    rcases hb with e | e | ⟨i, hi, e⟩
    · omega
    · exact h.row.lt_own b e
    · have := (h.apart i hi b e).1; omega, h.below⟩
end
/-! ### Copies: the first ones of a row are new -/
structure Copying (kd : BKind) (w wr : World) (g c : Nat) (Fs : Nat → Nat → Prop) (qs ps : List Nat) (M : BenS) : Prop where
  at_ : wr.heap[w.heap.size]? = some (.cells (kd.cs (.slice (some ⟨g, 0, none⟩) M.ds.length c) M.left M.dark M.steps) kd.o)
  len : ps.length = M.ds.length
  le : qs.length ≤ M.ds.length
  row : MadeE kd.E wr w.heap.size (.slice (some ⟨g, 0, none⟩) M.ds.length c) (qs ++ ps.drop qs.length)
  devs : Devs kd.K wr Fs qs (M.ds.take qs.length)
  apart : ∀ i, i < qs.length → ∀ b, Fs i b → w.heap.size < b ∧ b ≠ g
  below : Below w.heap.size w wr
section
variable {kd : BKind} {w wr w1 : World} {g c : Nat} {Fs : Nat → Nat → Prop} {F' : Nat → Prop} {qs ps : List Nat} {M : BenS} {p' : Nat}
theorem Copying.next (h : Copying kd w wr g c Fs qs ps M) (hj : qs.length < M.ds.length) (hb1 : Below wr.heap.size wr w1) (hF : ∀ b, F' b → wr.heap.size ≤ b) (hd : kd.K.Dv w1 F' p' (M.ds.getD qs.length dev0).S (M.ds.getD qs.length dev0).L (M.ds.getD qs.length dev0).g) :
    Copying kd w (w1.setCell ⟨g, qs.length, none⟩ (.pointer (some ⟨p', 0, none⟩))) g c (upF Fs qs.length F') (qs ++ [p']) ps M := by
  have hx := blk_lt h.at_
  have h1 := hb1.size
  have hgl : g < wr.heap.size := h.row.own_lt g rfl
  have hge : w.heap.size ≤ g := h.row.lt_own g rfl
  have hgx : g ≠ w.heap.size := fun e => h.row.not_at h.at_ kd.ne (by rw [e]; rfl)
  have ho : Only (fun b => b = g) w1 (w1.setCell ⟨g, qs.length, none⟩ (.pointer (some ⟨p', 0, none⟩))) := (Only.refl (fun b => b = g) w1).setCell (p := ⟨g, qs.length, none⟩) (.inl rfl) _
  have hr1 := h.row.below hb1
  have hl : (M.ds.take qs.length).length = qs.length := by rw [List.length_take]; omega
  have hdv := h.devs.push hb1 hF (d := M.ds.getD qs.length dev0) hd
  rw [hl] at hdv
  have htk : M.ds.take qs.length ++ [M.ds.getD qs.length dev0] = M.ds.take (qs.length + 1) := by
    rw [List.take_add_one, List.getD, List.getElem?_eq_getElem hj]; rfl
  rw [htk] at hdv
  have hpl := h.len
  have hset : (qs ++ ps.drop qs.length).set qs.length p' = (qs ++ [p']) ++ ps.drop (qs.length + 1) := by
    rw [List.set_append_right _ _ (Nat.le_refl _), Nat.sub_self, List.drop_eq_getElem_cons (show qs.length < ps.length by omega), List.set_cons_zero, List.append_assoc]
    rfl
  refine ⟨ho.keep (blk_keep h.at_ hb1) (fun e => hgx e.symm), h.len, by rw [List.length_append, List.length_singleton]; omega, ?_, ?_, fun i hi b hb => ?_, ?_⟩
  · have := hr1.store (k := qs.length) hj p'
    rw [show qs.length * kd.E.n = qs.length from by show qs.length * 1 = _; omega, hset] at this
    rw [List.length_append, List.length_singleton]
    exact this
  · rw [List.length_append, List.length_singleton]
    refine hdv.only ho fun i hi b hb e => ?_
    rw [List.length_take] at hi
    subst e
    rcases hb with ⟨e, hb⟩ | ⟨e, hb⟩
    · have := hF b hb; omega
    · exact (h.apart i (by omega) b hb).2 rfl
  · rw [List.length_append, List.length_singleton] at hi
    rcases hb with ⟨e, hb⟩ | ⟨e, hb⟩
    · have := hF b hb
      exact ⟨by omega, by omega⟩
    · exact h.apart i (by omega) b hb
  · have hb01 : Below w.heap.size w w1 := h.below.trans (hb1.mono h.below.size)
    exact hb01.trans (ho.below (fun b hb => by omega) hb01.size)
theorem Copying.done (h : Copying kd w wr g c Fs qs ps M) (hj : qs.length = M.ds.length) (h1 : 1 ≤ M.ds.length) (h2 : M.ds.length ≤ 17) :
    BenAt kd wr w.heap.size (.slice (some ⟨g, 0, none⟩) M.ds.length c) Fs qs M ∧ (∀ b, footB w.heap.size (.slice (some ⟨g, 0, none⟩) M.ds.length c) Fs M.ds.length b → w.heap.size ≤ b) ∧ Below w.heap.size w wr := by
  have hd := h.devs
  rw [hj, List.take_of_length_le (Nat.le_refl _)] at hd
  have hr := h.row
  have hpl := h.len
  rw [hj, List.drop_of_length_le (by omega), List.append_nil] at hr
  refine ⟨⟨h.at_, hr.base (Nat.zero_le _), hd, fun i hi b hb => ?_, h1, h2⟩, fun b hb => ?_, h.below⟩
  · have := h.apart i (by omega) b hb
    exact ⟨by omega, fun e => this.2 (by injection e with e; exact e.symm)⟩
  · rcases hb with e | e | ⟨i, hi, e⟩
    · omega
    · exact hr.lt_own b e
    · have := (h.apart i (by omega) b e).1; omega
end
/-- What New owes. -/
def NewPost (kd : BKind) (w : World) (ks : List Int) (e : Ending) (w' : World) : Prop :=
  Below w.heap.size w w' ∧ ((newOk ks ∧ ∃ p v Fs ps, e = .returned (.tuple #[.pointer (some ⟨p, 0, none⟩), .int .i64 0]) ∧ BenAt kd w' p v Fs ps (newS6 ks) ∧ ∀ b, footB p v Fs (newS6 ks).ds.length b → w.heap.size ≤ b) ∨ (¬ newOk ks ∧ e = .returned (.tuple #[.pointer none, .int .i64 2])))
theorem NewPost.no {kd : BKind} {w w' : World} {ks : List Int} (hb : Below w.heap.size w w') (hn : ¬ newOk ks) {e : Ending} (he : e = .returned (.tuple #[.pointer none, .int .i64 2])) : NewPost kd w ks e w' := ⟨hb, .inr ⟨hn, he⟩⟩
theorem take_map_succ {ks : List Int} {j : Nat} (h : j < ks.length) : (ks.take (j + 1)).map newD = (ks.take j).map newD ++ [newD (ks.getD j 0)] := by
  rw [List.take_add_one, List.getD, List.getElem?_eq_getElem h, List.map_append]; rfl
/-- What Copy owes. -/
def CopyPost (k : BKind) (w : World) (M : BenS) (e : Ending) (w' : World) : Prop :=
  ∃ p' v' Fs' ps', e = .returned (.pointer (some ⟨p', 0, none⟩)) ∧ BenAt k w' p' v' Fs' ps' M ∧ (∀ b, footB p' v' Fs' M.ds.length b → w.heap.size ≤ b) ∧ Below w.heap.size w w'
end Go.Proofs.Ytpcdcnnnkblhiaa
namespace Go.Proofs.Ytpcdcnnnkblhiaa
open Go.RowKit
set_option linter.unusedVariables false
set_option maxRecDepth 100000

structure BIds where
  read : FuncId
  write : FuncId
  flush : FuncId
  fail : FuncId
  insert : FuncId
  arm : FuncId
  crash : FuncId
  sure : FuncId
  rot : FuncId
  devices : FuncId
  sectors : FuncId
  dead : FuncId
  dark : FuncId
  steps : FuncId
structure BenS.Wf (M : BenS) : Prop where
  one : 1 ≤ M.ds.length
  cap : M.ds.length ≤ 17
  len : ∀ i, i < M.ds.length → 1 ≤ (M.ds.getD i dev0).S.length ∧ (M.ds.getD i dev0).S.length ≤ 512
structure Ben (I : BIds) where
  Bn : World → (Nat → Prop) → Nat → BenS → Prop
  lt : ∀ {w F p M}, Bn w F p M → ∀ b, F b → b < w.heap.size
  only : ∀ {w w' F G p M}, Bn w F p M → Only G w w' → (∀ b, F b → ¬ G b) → Bn w' F p M
  wf : ∀ {w F p M}, Bn w F p M → M.Wf
  read : ∀ {w F p M} (d n : Int), Bn w F p M → Calls Try.prog I.read #[.pointer (some ⟨p, 0, none⟩), .int .i64 d, .int .i64 n] w fun e w' => e = .returned (.tuple #[blk (rdB6 M d n), .int .i64 (rdE6 M d n)]) ∧ Below w.heap.size w w'
  sure : ∀ {w F p M} (d n : Int), Bn w F p M → Calls Try.prog I.sure #[.pointer (some ⟨p, 0, none⟩), .int .i64 d, .int .i64 n] w fun e w' => e = .returned (.tuple #[blk (suB6 M d n), .int .i64 (suE6 M d n)]) ∧ Below w.heap.size w w'
  write : ∀ {w F p M} (d n : Int) (b : Blk), Room M 1 → Bn w F p M → Calls Try.prog I.write #[.pointer (some ⟨p, 0, none⟩), .int .i64 d, .int .i64 n, blk b] w fun e w' => e = .returned (.int .i64 (wrE6 M d n)) ∧ ∃ F', Bn w' F' p (wrS6 M d n b) ∧ Only F w w' ∧ Grow w F F'
  flush : ∀ {w F p M} (d : Int), Room M 1 → Bn w F p M → Calls Try.prog I.flush #[.pointer (some ⟨p, 0, none⟩), .int .i64 d] w fun e w' => e = .returned (.int .i64 (flE6 M d)) ∧ ∃ F', Bn w' F' p (flS6 M d) ∧ Only F w w' ∧ Grow w F F'
  fail : ∀ {w F p M} (d : Int), Bn w F p M → Calls Try.prog I.fail #[.pointer (some ⟨p, 0, none⟩), .int .i64 d] w fun e w' => e = .returned (.int .i64 (hasE M d)) ∧ ∃ F', Bn w' F' p (faS6 M d) ∧ Only F w w' ∧ Grow w F F'
  insert : ∀ {w F p M} (d : Int), Bn w F p M → Calls Try.prog I.insert #[.pointer (some ⟨p, 0, none⟩), .int .i64 d] w fun e w' => e = .returned (.int .i64 (inE6 M d)) ∧ ∃ F', Bn w' F' p (inS6 M d) ∧ Only F w w' ∧ Grow w F F'
  arm : ∀ {w F p M} (n : Int), Bn w F p M → Calls Try.prog I.arm #[.pointer (some ⟨p, 0, none⟩), .int .i64 n] w fun e w' => e = .returned (.int .i64 (arE6 M n)) ∧ ∃ F', Bn w' F' p (arS6 M n) ∧ Only F w w' ∧ Grow w F F'
  crash : ∀ {w F p M A n c P}, Pk w F A n c P → Bn w F p M → Calls Try.prog I.crash #[.pointer (some ⟨p, 0, none⟩), .slice A n c] w fun e w' => e = .returned (.int .i64 0) ∧ ∃ F', Bn w' F' p (crS6 M P) ∧ Only F w w' ∧ Grow w F F'
  rot : ∀ {w F p M} (d n i : Int) (u : UInt8), Bn w F p M → Calls Try.prog I.rot #[.pointer (some ⟨p, 0, none⟩), .int .i64 d, .int .i64 n, .int .i64 i, .int .u8 (u.toNat : Int)] w fun e w' => e = .returned (.int .i64 (roE6 M d n i)) ∧ ∃ F', Bn w' F' p (roS6 M d n i u) ∧ Only F w w' ∧ Grow w F F'
  devices : ∀ {w F p M}, Bn w F p M → Calls Try.prog I.devices #[.pointer (some ⟨p, 0, none⟩)] w fun e w' => e = .returned (.int .i64 (M.ds.length : Int)) ∧ Below w.heap.size w w'
  sectors : ∀ {w F p M} (d : Int), Bn w F p M → Calls Try.prog I.sectors #[.pointer (some ⟨p, 0, none⟩), .int .i64 d] w fun e w' => e = .returned (.int .i64 (seN6 M d)) ∧ Below w.heap.size w w'
  dead : ∀ {w F p M} (d : Int), Bn w F p M → Calls Try.prog I.dead #[.pointer (some ⟨p, 0, none⟩), .int .i64 d] w fun e w' => e = .returned (.bool (deG6 M d)) ∧ Below w.heap.size w w'
  dark : ∀ {w F p M}, Bn w F p M → Calls Try.prog I.dark #[.pointer (some ⟨p, 0, none⟩)] w fun e w' => e = .returned (.bool M.dark) ∧ Below w.heap.size w w'
  steps : ∀ {w F p M}, Bn w F p M → Calls Try.prog I.steps #[.pointer (some ⟨p, 0, none⟩)] w fun e w' => e = .returned (.int .i64 (M.steps : Int)) ∧ Below w.heap.size w w'
theorem Ben.below {I : BIds} (R : Ben I) {w w' : World} {F : Nat → Prop} {p : Nat} {M : BenS} (h : R.Bn w F p M) (k : Below w.heap.size w w') : R.Bn w' F p M := R.only h (Only.of_below (fun _ => False) k) fun _ _ e => e
section
variable {k : BKind} {w w' : World} {F G : Nat → Prop} {p : Nat} {M M' : BenS}
/-- What New, Copy owe, the blocks hidden. -/
def NewB (Bn : World → (Nat → Prop) → Nat → BenS → Prop) (w : World) (ks : List Int) (e : Ending) (w' : World) : Prop :=
  Below w.heap.size w w' ∧ ((newOk ks ∧ ∃ p F, e = .returned (.tuple #[.pointer (some ⟨p, 0, none⟩), .int .i64 0]) ∧ Bn w' F p (newS6 ks) ∧ ∀ b, F b → w.heap.size ≤ b) ∨ (¬ newOk ks ∧ e = .returned (.tuple #[.pointer none, .int .i64 2])))
def CopyB (Bn : World → (Nat → Prop) → Nat → BenS → Prop) (w : World) (M : BenS) (e : Ending) (w' : World) : Prop :=
  ∃ p F, e = .returned (.pointer (some ⟨p, 0, none⟩)) ∧ Bn w' F p M ∧ (∀ b, F b → w.heap.size ≤ b) ∧ Below w.heap.size w w'
/-- A bench at p has M; its blocks lie from B on; what lies below B is as it was in w0. -/
def At {I : BIds} (R : Ben I) (w0 : World) (B : Nat) (w : World) (p : Nat) (M : BenS) : Prop := ∃ F, R.Bn w F p M ∧ (∀ b, F b → B ≤ b) ∧ Below B w0 w ∧ B ≤ w0.heap.size
section
variable {I : BIds} {R : Ben I} {w0 w w' : World} {B p : Nat} {M M' : BenS}
theorem At.below (h : At R w0 B w p M) (k : Below w.heap.size w w') : At R w0 B w' p M := by
  obtain ⟨F, h1, h2, h3, h4⟩ := h
  exact ⟨F, R.below h1 k, h2, h3.trans (k.mono (Nat.le_trans h4 h3.size)), h4⟩
theorem At.alloc (h : At R w0 B w p M) (o : Obj) : At R w0 B (w.alloc o) p M := h.below ((Below.refl _ w).alloc (Nat.le_refl _) o)
theorem At.bel (h : At R w0 B w p M) : Below B w0 w := by obtain ⟨F, h1, h2, h3, h4⟩ := h; exact h3
theorem At.turn {F F' : Nat → Prop} (h2 : ∀ b, F b → B ≤ b) (h3 : Below B w0 w) (h4 : B ≤ w0.heap.size) (k1 : R.Bn w' F' p M') (k2 : Only F w w') (k3 : Grow w F F') : At R w0 B w' p M' := by
  have hs := Nat.le_trans h4 h3.size
  exact ⟨F', k1, k3.above h2 hs, h3.trans (k2.below h2 hs), h4⟩
/-- The calls, in that form: what is asked, and what is left. -/
theorem At.read (d n : Int) (h : At R w0 B w p M) : Calls Try.prog I.read #[.pointer (some ⟨p, 0, none⟩), .int .i64 d, .int .i64 n] w fun e w' => e = .returned (.tuple #[blk (rdB6 M d n), .int .i64 (rdE6 M d n)]) ∧ Below w.heap.size w w' := by
  obtain ⟨F, h1, _⟩ := h
  exact R.read d n h1
theorem At.write (d n : Int) (b : Blk) (hr : Room M 1) (h : At R w0 B w p M) : Calls Try.prog I.write #[.pointer (some ⟨p, 0, none⟩), .int .i64 d, .int .i64 n, blk b] w fun e w' => e = .returned (.int .i64 (wrE6 M d n)) ∧ At R w0 B w' p (wrS6 M d n b) := by
  obtain ⟨F, h1, h2, h3, h4⟩ := h
  exact (R.write d n b hr h1).mono fun e w' ⟨k0, F', k1, k2, k3⟩ => ⟨k0, At.turn h2 h3 h4 k1 k2 k3⟩
theorem At.flush (d : Int) (hr : Room M 1) (h : At R w0 B w p M) : Calls Try.prog I.flush #[.pointer (some ⟨p, 0, none⟩), .int .i64 d] w fun e w' => e = .returned (.int .i64 (flE6 M d)) ∧ At R w0 B w' p (flS6 M d) := by
  obtain ⟨F, h1, h2, h3, h4⟩ := h
  exact (R.flush d hr h1).mono fun e w' ⟨k0, F', k1, k2, k3⟩ => ⟨k0, At.turn h2 h3 h4 k1 k2 k3⟩
theorem At.fail (d : Int) (h : At R w0 B w p M) : Calls Try.prog I.fail #[.pointer (some ⟨p, 0, none⟩), .int .i64 d] w fun e w' => e = .returned (.int .i64 (hasE M d)) ∧ At R w0 B w' p (faS6 M d) := by
  obtain ⟨F, h1, h2, h3, h4⟩ := h
  exact (R.fail d h1).mono fun e w' ⟨k0, F', k1, k2, k3⟩ => ⟨k0, At.turn h2 h3 h4 k1 k2 k3⟩
theorem At.insert (d : Int) (h : At R w0 B w p M) : Calls Try.prog I.insert #[.pointer (some ⟨p, 0, none⟩), .int .i64 d] w fun e w' => e = .returned (.int .i64 (inE6 M d)) ∧ At R w0 B w' p (inS6 M d) := by
  obtain ⟨F, h1, h2, h3, h4⟩ := h
  exact (R.insert d h1).mono fun e w' ⟨k0, F', k1, k2, k3⟩ => ⟨k0, At.turn h2 h3 h4 k1 k2 k3⟩
theorem At.arm (n : Int) (h : At R w0 B w p M) : Calls Try.prog I.arm #[.pointer (some ⟨p, 0, none⟩), .int .i64 n] w fun e w' => e = .returned (.int .i64 (arE6 M n)) ∧ At R w0 B w' p (arS6 M n) := by
  obtain ⟨F, h1, h2, h3, h4⟩ := h
  exact (R.arm n h1).mono fun e w' ⟨k0, F', k1, k2, k3⟩ => ⟨k0, At.turn h2 h3 h4 k1 k2 k3⟩
theorem At.rot (d n i : Int) (u : UInt8) (h : At R w0 B w p M) : Calls Try.prog I.rot #[.pointer (some ⟨p, 0, none⟩), .int .i64 d, .int .i64 n, .int .i64 i, .int .u8 (u.toNat : Int)] w fun e w' => e = .returned (.int .i64 (roE6 M d n i)) ∧ At R w0 B w' p (roS6 M d n i u) := by
  obtain ⟨F, h1, h2, h3, h4⟩ := h
  exact (R.rot d n i u h1).mono fun e w' ⟨k0, F', k1, k2, k3⟩ => ⟨k0, At.turn h2 h3 h4 k1 k2 k3⟩
theorem pk_of {F : Nat → Prop} {A : Option Addr} {n c : Nat} {P : List Int} (h : RdE IntE w B A n P) (hB : B ≤ w.heap.size) (hF : ∀ b, F b → B ≤ b) (hn : n ≤ c) (hc : c ≤ maxLen) : Pk w F A n c P :=
  ⟨h.more hB, hn, hc, fun x hx h0 hf => by
    obtain ⟨b, off, e, hb, _⟩ := h.2 0 h0
    rw [hx] at e
    injection e with e
    subst e
    exact absurd (hF _ hf) (by show ¬ B ≤ b; omega)⟩
theorem At.crash {A : Option Addr} {n c : Nat} {P : List Int} (hP : RdE IntE w B A n P) (hn : n ≤ c) (hc : c ≤ maxLen) (h : At R w0 B w p M) : Calls Try.prog I.crash #[.pointer (some ⟨p, 0, none⟩), .slice A n c] w fun e w' => e = .returned (.int .i64 0) ∧ At R w0 B w' p (crS6 M P) := by
  obtain ⟨F, h1, h2, h3, h4⟩ := h
  exact (R.crash (pk_of hP (Nat.le_trans h4 h3.size) h2 hn hc) h1).mono fun e w' ⟨k0, F', k1, k2, k3⟩ => ⟨k0, At.turn h2 h3 h4 k1 k2 k3⟩
theorem At.sure (d n : Int) (h : At R w0 B w p M) : Calls Try.prog I.sure #[.pointer (some ⟨p, 0, none⟩), .int .i64 d, .int .i64 n] w fun e w' => e = .returned (.tuple #[blk (suB6 M d n), .int .i64 (suE6 M d n)]) ∧ Below w.heap.size w w' := by
  obtain ⟨F, h1, _⟩ := h
  exact R.sure d n h1
theorem At.steps (h : At R w0 B w p M) : Calls Try.prog I.steps #[.pointer (some ⟨p, 0, none⟩)] w fun e w' => e = .returned (.int .i64 (M.steps : Int)) ∧ Below w.heap.size w w' := by
  obtain ⟨F, h1, _⟩ := h
  exact R.steps h1
theorem At.dark (h : At R w0 B w p M) : Calls Try.prog I.dark #[.pointer (some ⟨p, 0, none⟩)] w fun e w' => e = .returned (.bool M.dark) ∧ Below w.heap.size w w' := by
  obtain ⟨F, h1, _⟩ := h
  exact R.dark h1
theorem At.dead (d : Int) (h : At R w0 B w p M) : Calls Try.prog I.dead #[.pointer (some ⟨p, 0, none⟩), .int .i64 d] w fun e w' => e = .returned (.bool (deG6 M d)) ∧ Below w.heap.size w w' := by
  obtain ⟨F, h1, _⟩ := h
  exact R.dead d h1
theorem At.sectors (d : Int) (h : At R w0 B w p M) : Calls Try.prog I.sectors #[.pointer (some ⟨p, 0, none⟩), .int .i64 d] w fun e w' => e = .returned (.int .i64 (seN6 M d)) ∧ Below w.heap.size w w' := by
  obtain ⟨F, h1, _⟩ := h
  exact R.sectors d h1
end
/-- A bench whose blocks are hidden. -/
def InB (k : BKind) (w : World) (F : Nat → Prop) (p : Nat) (M : BenS) : Prop := ∃ v Fs ps, F = footB p v Fs M.ds.length ∧ BenAt k w p v Fs ps M
theorem InB.lt (h : InB k w F p M) : ∀ b, F b → b < w.heap.size := by
  obtain ⟨v, Fs, ps, rfl, h⟩ := h
  exact h.lt
theorem InB.only (h : InB k w F p M) (ho : Only G w w') (hn : ∀ b, F b → ¬ G b) : InB k w' F p M := by
  obtain ⟨v, Fs, ps, rfl, h⟩ := h
  exact ⟨v, Fs, ps, rfl, h.only ho hn⟩
theorem Left.out {v : Value} {Fs : Nat → Nat → Prop} {ps : List Nat} (h : Left k w p v Fs ps M.ds.length M' w') : ∃ F', InB k w' F' p M' ∧ Only (footB p v Fs M.ds.length) w w' ∧ Grow w (footB p v Fs M.ds.length) F' := by
  obtain ⟨Fs', ps', h1, h2, h3⟩ := h
  exact ⟨_, ⟨v, Fs', ps', rfl, h1⟩, h2, h3⟩
end
end Go.Proofs.Ytpcdcnnnkblhiaa
