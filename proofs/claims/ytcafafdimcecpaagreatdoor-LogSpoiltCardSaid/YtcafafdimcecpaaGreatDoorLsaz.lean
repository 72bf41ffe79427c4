import Derived.Test.YtcafafdimcecpaaGreatDoorLsab
import Derived.Test.YtcafafdimcecpaaGreatDoorLsaa
import Derived.Deep.Slices
import Derived.Lib.SmallJoins
import Derived.Test.YtcafafdimcecpaaGreatDoorLsah
import Derived.Test.YtcafafdimcecpaaGreatDoorLsay
import Derived.Test.YtcafafdimcecpaaGreatDoorLsak
import Derived.Test.YtcafafdimcecpaaGreatDoorLsan
import Derived.Test.YtcafafdimcecpaaGreatDoorLsaj
import Derived.Test.YtcafafdimcecpaaGreatDoorLsag
import Derived.Test.YtcafafdimcecpaaGreatDoorLsZ
namespace Go.Proofs.YtcafafdimcecpaaGreatDoor
open Go.RowKit Go.ChangeShapes Go.WideShapes Go.ChangeAt Go.Deep
set_option maxRecDepth 100000
set_option linter.unusedVariables false
section
variable {H : Type} {enc : TypeId × Value → H} {W : World} {base : Nat} {v : Value} {d : DataW H} {p : List MemPlace}
theorem elts_of_trod {α : Type} (E : Elt α) (Good : α → Prop) (hc : Tryz.prog.cellsOf E.t = E.n) {fuel : Nat} {cs : List Value} {x : DataW H × List MemPlace} (hf : DataW.trod enc Tryz.prog W 0 (fun _ => true) true fuel E.s cs = some x)
    (hE : ∀ (fuel : Nat) (cs : List Value) (x : DataW H × List MemPlace), DataW.trod enc Tryz.prog W 0 (fun _ => true) true fuel E.t cs = some x → ∃ a, cs = E.cel a ∧ Good a) :
    ∃ (A : Option Addr) (n c : Nat) (l : List α), cs = [.slice A n c] ∧ RdE E W W.heap.size A n l ∧ n ≤ c ∧ c ≤ maxLen ∧ ∀ k, k < n → Good (l.getD k E.d) := by
  rcases open_slice E.und hf with ⟨hcs, hx⟩ | ⟨a, len0, cap, m, n, D, Pl, hcs, hb, hl, hm, hmm, hx, hel⟩
  · exact ⟨none, 0, 0, [], hcs, RdE.nil _ _ _, by omega, by unfold maxLen; omega, fun k hk => absurd hk (by omega)⟩
  · simp only [if_true] at hmm
    subst hmm
    haveI : Inhabited α := ⟨E.d⟩
    obtain ⟨f, hf2⟩ := choose_lt (α := α) (p := fun i b => W.cells? 0 (a.add (i * E.n)) E.n = some (E.cel b) ∧ Good b) (n := m) (fun i hi => by
      obtain ⟨cs', h1, h2⟩ := hel i hi
      rw [hc] at h1
      obtain ⟨b, rfl, hg⟩ := hE _ _ _ h2
      exact ⟨b, h1, hg⟩)
    have hp := E.pos
    refine ⟨some a, len0, m, (List.range len0).map f, hcs, ⟨by simp, fun k hk => ?_⟩, hl, hm, fun k hk => ?_⟩
    · obtain ⟨b, off, spot⟩ := a
      have hzero : ∀ i, ∃ u, (E.cel (f i))[0]? = some u := fun i => ⟨_, List.getElem?_eq_getElem (by rw [E.len]; exact hp)⟩
      have hspot : spot = none := by
        obtain ⟨u, hu⟩ := hzero 0
        have h0 := (World.cells?_some (hf2 0 (by omega)).1).2.2 0 hp
        rw [hu] at h0
        have := World.cell?_spot h0
        simpa [Addr.add] using this
      subst hspot
      have hcc := World.cells?_some (hf2 k (by omega)).1
      refine ⟨b, off, rfl, ?_, fun j u hj => ?_⟩
      · obtain ⟨u, hu⟩ := hzero k
        have h0 := hcc.2.2 0 hp
        rw [hu, add_mid, add_mid] at h0
        exact World.block_lt_of_cell? W _ h0
      · have hlt : j < E.n := by have := (List.getElem?_eq_some_iff.1 hj).1; rwa [E.len] at this
        have h1 := hcc.2.2 j hlt
        rw [add_mid, add_mid] at h1
        rw [h1, ← hj]
        simp [List.getD, hk]
    · simpa [List.getD, hk] using (hf2 k (by omega)).2
theorem open_elts {α : Type} (E : Elt α) (Good : α → Prop) (hc : Tryz.prog.cellsOf E.t = E.n) (hv : Value.okWide Tryz.prog W .any base E.s v) (h : DataW.Trod enc Tryz.prog W 0 (fun _ => true) true E.s v d p)
    (hE : ∀ (fuel : Nat) (cs : List Value) (x : DataW H × List MemPlace), DataW.trod enc Tryz.prog W 0 (fun _ => true) true fuel E.t cs = some x → ∃ a, cs = E.cel a ∧ Good a) :
    ∃ (A : Option Addr) (n c : Nat) (l : List α), v = .slice A n c ∧ RdE E W W.heap.size A n l ∧ n ≤ c ∧ c ≤ maxLen ∧ ∀ k, k < n → Good (l.getD k E.d) := by
  obtain ⟨a0, len0, cap0, rfl⟩ := okWide_slice E.und hv
  obtain ⟨fuel, hf⟩ := h
  obtain ⟨A, n, c, l, hcs, rest⟩ := elts_of_trod E Good hc hf hE
  simp [Value.cells] at hcs
  obtain ⟨rfl, rfl, rfl⟩ := hcs
  exact ⟨_, _, _, l, rfl, rest⟩
end
set_option linter.unusedSimpArgs false
theorem cell_of_trod {H : Type} {enc : TypeId × Value → H} {W : World} (fuel : Nat) (cs : List Value) (x : DataW H × List MemPlace) (h : DataW.trod enc Tryz.prog W 0 (fun _ => true) true fuel 104 cs = some x) : ∃ a : Cl, cs = bp.cel a ∧ True := by
  obtain ⟨c, e⟩ := at_cell h
  exact ⟨c, e, trivial⟩
theorem cells_of_trod {H : Type} {enc : TypeId × Value → H} {W : World} {fuel : Nat} {cs : List Value} {x : DataW H × List MemPlace} (h : DataW.trod enc Tryz.prog W 0 (fun _ => true) true fuel 34 cs = some x) :
    ∃ (A : Option Addr) (n c : Nat) (l : List Cl), cs = [.slice A n c] ∧ RdE bp W W.heap.size A n l ∧ n ≤ c ∧ c ≤ maxLen := by
  obtain ⟨A, n, c, l, e, h1, h2, h3, _⟩ := elts_of_trod bp (fun _ => True) (by kernel_rfl) h (fun fuel cs x h => cell_of_trod fuel cs x h)
  exact ⟨A, n, c, l, e, h1, h2, h3⟩
def ClsIn (W : World) (A : Option Addr) (n c : Nat) : Prop := ∃ l : List Cl, RdE bp W W.heap.size A n l ∧ n ≤ c ∧ c ≤ maxLen
structure Act14 where
  Do : Int
  D : Int
  CsA : Option Addr
  Csn : Nat
  Csc : Nat
  N : Nat
  Near : Bool
  Size : Int
  At : Int
  By : UInt8
  PsA : Option Addr
  Psn : Nat
  Psc : Nat
structure Step14 where
  Clear : Bool
  N : UInt8
  CsA : Option Addr
  Csn : Nat
  Csc : Nat
structure Spot14 where
  Kind : Int
  N : Int
  B : Blk
  Count : Nat
  Mark : Mrk
  Note : Nte
structure Sl14 where
  A : Option Addr
  n : Nat
  c : Nat
def bx : Elt Sl14 where
  s := 46
  t := 34
  n := 1
  by_ := 24
  cel a := [.slice a.A a.n a.c]
  d := ⟨none, 0, 0⟩
  z := .slice none 0 0
  pos := by omega
  small := by omega
  len _ := rfl
  one a v hv := by simp at hv; subst hv; rfl
  und := Tryz.underlying46
  info := by kernel_rfl
  zc := rfl
theorem open_Sl14s {H : Type} {enc : TypeId × Value → H} {W : World} {base : Nat} {v : Value} {d : DataW H} {p : List MemPlace} (hv : Value.okWide Tryz.prog W .any base 46 v) (h : DataW.Trod enc Tryz.prog W 0 (fun _ => true) true 46 v d p) :
    ∃ (A : Option Addr) (n c : Nat) (l : List Sl14), v = .slice A n c ∧ RdE bx W W.heap.size A n l ∧ n ≤ c ∧ c ≤ maxLen ∧ ∀ k, k < n → ClsIn W (l.getD k bx.d).A (l.getD k bx.d).n (l.getD k bx.d).c :=
  open_elts bx (fun a => ClsIn W a.A a.n a.c) (by kernel_rfl) hv h (fun fuel cs x h => by
    obtain ⟨A, n, c, l, e, r, s, t⟩ := cells_of_trod h
    exact ⟨⟨A, n, c⟩, e, l, r, s, t⟩)
open Go.RowKit
section
variable {S : List Blk} {x : LgS} {A : Nat → List Cl} {N left st : Nat} {b : Bool} {cs : List Cl} {f : Nat}
theorem OnD.lgok (h : OnD S x A N) : LgOk (solo S [] left b st) x N :=
  ⟨by rw [h.dev]; exact Nat.zero_lt_one, by rw [h.dev]; show 10 + x.size ≤ S.length; have := h.len; omega, h.siz, h.own.2, h.use, h.eig, h.lim, by have := h.cnt; omega, by have := h.fst; omega, by have := h.pos; omega,
    fun i hi => by
      obtain ⟨t1, t2, t3⟩ := h.tak hi
      have e := (h.rcd i hi).2.1
      exact ⟨by omega, by omega, (h.nts i hi).2.1, (h.note_fit hi).2⟩⟩
theorem recL_siz (hc : 1 ≤ cs.length ∧ cs.length ≤ 32) : (bE cs).length = sizN (cs.length : Int) := by rw [bz, fj hc.1 hc.2]
end
section
variable {ρ : Operand → Value} {o : Oper} {x y : Operand} {w : World} {t r : TypeId}
theorem ldClsA {ad : Addr} {A : Option Addr} {n c : Nat} (h : w.cell? ad = some (.slice A n c)) : (Instr.loadAt 34 (.pointer (some ad))).run Tryz.prog w = .ok (.slice A n c) w := by simp [go_sem, h]
theorem u64w {a : Nat} (h : a < 18446744073709551616) : IntKind.u64.wrap (a : Int) = (a : Int) := IntWalk.u64_in _ ⟨by omega, by omega⟩
theorem i64w {a : Int} (h : 0 ≤ a ∧ a ≤ 9223372036854775807) : IntKind.i64.wrap a = a := IntWalk.i64_in _ ⟨by omega, by omega⟩
end
def mix (l y : List UInt8) (k j : Nat) : List UInt8 := l.take k ++ List.zipWith (fun a b => a ^^^ b) ((l.drop k).take j) (y.take j) ++ l.drop (k + j)
def chg (y : List UInt8) (j : Nat) : Bool := (y.take j).any fun v => (v.toNat : Int) != 0
theorem mix_zero (l y : List UInt8) (k : Nat) : mix l y k 0 = l := by
  unfold mix
  simp
theorem length_zip {l y : List UInt8} {k j : Nat} (h : k + j ≤ l.length) (hy : j ≤ y.length) : (List.zipWith (fun a b => a ^^^ b) ((l.drop k).take j) (y.take j)).length = j := by
  simp
  omega
theorem mix_split {l y : List UInt8} {k j : Nat} (h : k + j < l.length) : mix l y k j = (l.take k ++ List.zipWith (fun a b => a ^^^ b) ((l.drop k).take j) (y.take j)) ++ l[k + j] :: l.drop (k + j + 1) := by
  unfold mix
  rw [List.drop_eq_getElem_cons h]
theorem mix_set {l y : List UInt8} {k j : Nat} (h : k + j < l.length) (hy : j < y.length) : (mix l y k j).set (k + j) (l[k + j] ^^^ y[j]) = mix l y k (j + 1) := by
  have hl : (l.take k ++ List.zipWith (fun a b => a ^^^ b) ((l.drop k).take j) (y.take j)).length = k + j := by
    rw [List.length_append, length_zip (by omega) (by omega)]
    simp
    omega
  rw [mix_split h, List.set_append_right _ _ (by omega), hl, Nat.sub_self]
  have e : List.zipWith (fun a b => a ^^^ b) ((l.drop k).take (j + 1)) (y.take (j + 1)) = List.zipWith (fun a b => a ^^^ b) ((l.drop k).take j) (y.take j) ++ [l[k + j] ^^^ y[j]] := by
    rw [List.take_succ_eq_append_getElem (by simp; omega), List.take_succ_eq_append_getElem hy, List.zipWith_append (by simp; omega)]
    simp
  unfold mix
  rw [e, List.set_cons_zero, ← Nat.add_assoc]
  simp
theorem zip_same {q z : List UInt8} (hl : q.length = z.length) : List.zipWith (fun a b => a ^^^ b) q z = q ↔ (z.any fun v => (v.toNat : Int) != 0) = false := by
  induction q generalizing z with
  | nil =>
    cases z with
    | nil => simp
    | cons v z => simp at hl
  | cons u q ih =>
    cases z with
    | nil => simp at hl
    | cons v z =>
      have h := ih (z := z) (by simpa using hl)
      rw [List.zipWith_cons_cons, List.any_cons, Bool.or_eq_false_iff, List.cons_eq_cons, h]
      have hv : u ^^^ v = u ↔ ((v.toNat : Int) != 0) = false := by
        constructor
        · intro e
          have e2 := congrArg UInt8.toNat e
          rw [UInt8.toNat_xor] at e2
          have e3 : u.toNat ^^^ v.toNat = u.toNat ^^^ 0 := by rw [e2, Nat.xor_zero]
          have e4 := xor_inj e3
          simp [e4]
        · intro e
          have e4 : v.toNat = 0 := by
            simp at e
            omega
          apply UInt8.toNat_inj.1
          rw [UInt8.toNat_xor, e4, Nat.xor_zero]
      rw [hv]
theorem more_mix {l y : List UInt8} {k j : Nat} (h : k + j ≤ l.length) (hy : j ≤ y.length) (h4 : j ≤ 4) : (more 0 (mix l y k j) = more 0 l) ↔ chg y j = false := by
  have hq : ((l.drop k).take j).length = (y.take j).length := by simp; omega
  have hs := zip_same hq
  have hl : l = l.take k ++ (l.drop k).take j ++ l.drop (k + j) := by
    rw [List.append_assoc, ← List.drop_drop, List.take_append_drop, List.take_append_drop]
  unfold chg
  rw [← hs]
  constructor
  · intro e
    have e2 := neg_inj e
    unfold mix at e2
    conv at e2 => rhs; rw [hl]
    refine run_row (neg_lt (by omega)) _ _ _ _ ?_ ?_ e2
    · rw [length_zip h hy]; simp; omega
    · rw [length_zip h hy]; exact h4
  · intro e
    unfold mix
    rw [e, ← hl]
theorem byts_set {l : List Blk} {i r : Nat} (hi : i < l.length) (hr : r < 64) (u : UInt8) : cC (l.set i ((l.getD i al).set r u)) = (cC l).set (64 * i + r) u := by
  have hlen : 64 * i + r < (cC l).length := by rw [cG]; omega
  refine el (by rw [List.length_set, cG, cG, List.length_set]) fun j hj => ?_
  rw [cG, List.length_set] at hj
  have hk : j / 64 < (l.set i ((l.getD i al).set r u)).length := by rw [List.length_set]; omega
  have e : j = 64 * (j / 64) + j % 64 := by omega
  have hs : bt ((cC l).set (64 * i + r) u) j = if j = 64 * i + r then (u.toNat : Int) else bt (cC l) j := by
    unfold bt
    by_cases h : j = 64 * i + r
    · rw [if_pos h, h, List.getD, List.getElem?_set_self hlen]
      rfl
    · rw [if_neg h, List.getD, List.getElem?_set_ne (fun e => h e.symm), List.getD]
  rw [hs]
  conv => lhs; rw [e]
  rw [bt_byts hk (by omega)]
  by_cases hji : j / 64 = i
  · have eg : (l.set i ((l.getD i al).set r u)).getD (j / 64) al = (l.getD i al).set r u := by
      rw [hji, List.getD, List.getElem?_set_self hi]
      rfl
    rw [eg, dN _ (by omega)]
    by_cases hjr : j % 64 = r
    · rw [if_pos (by omega)]
      simp [hjr]
    · rw [if_neg (by omega)]
      conv => rhs; rw [e]
      rw [bt_byts (by omega) (by omega), hji, dN _ (by omega), Vector.getElem_set_ne (by omega) (by omega) (fun e => hjr e.symm)]
  · rw [if_neg (by omega)]
    conv => rhs; rw [e]
    rw [bt_byts (by omega) (by omega), List.getD, List.getElem?_set_ne (fun e => hji e.symm), List.getD]
theorem sumB_set {l : List Blk} {i r : Nat} (hi : i < l.length) (hr : r < 64) (y : UInt8) : (sumB (l.set i ((l.getD i al).set r ((l.getD i al)[r] ^^^ y))) = sumB l) ↔ y.toNat = 0 := by
  have hlen : 64 * i + r < (cC l).length := by rw [cG]; omega
  have hx : (cC l)[64 * i + r] = (l.getD i al)[r] := by
    have h := bt_byts hi hr
    rw [bt_get hlen, dN _ hr] at h
    exact UInt8.toNat_inj.1 (by omega)
  have hm := mix_set (l := cC l) (y := [y]) (k := 64 * i + r) (j := 0) hlen (by simp)
  rw [mix_zero] at hm
  simp only [Nat.add_zero, List.getElem_cons_zero] at hm
  unfold sumB
  rw [byts_set hi hr, ← hx, hm, more_mix (by omega) (by simp) (by omega)]
  unfold chg
  simp
section
variable {S S' : List Blk} {x : LgS} {A : Nat → List Cl} {N left st : Nat} {b : Bool}
theorem usd_mono (l : List Nte) {i j : Nat} (h : i ≤ j) : usd (l.take i) ≤ usd (l.take j) := by
  have := ee (l.take j) i
  rw [List.take_take, Nat.min_eq_left h] at this
  omega
theorem rcd_alike (hl : S'.length = S.length) (hd : x.d = 0) (hz : 10 + x.size ≤ S.length) (hs : 40 ≤ x.size) (i : Nat) (hi : i < x.nts.length)
    (h : ∀ j, j < aN (x.nts.getD i aB) → S'.getD (10 + ((x.nts.getD i aB).pos + j) % x.size) al = S.getD (10 + ((x.nts.getD i aB).pos + j) % x.size) al) :
    rcdE (solo S' [] left false st) x (x.fst + i) = rcdE (solo S [] left false st) x (x.fst + i) ∧ rcdC (solo S' [] left false st) x (x.fst + i) = rcdC (solo S [] left false st) x (x.fst + i) := by
  have hnote : x.note (x.fst + i) = x.nts.getD i aB := by unfold LgS.note; rw [show x.fst + i - x.fst = i from by omega]
  have hsec : ∀ p, 10 + p % x.size < S.length := fun p => by have := Nat.mod_lt p (show 0 < x.size by omega); omega
  have hL : rcdL (solo S' [] left false st) x (x.nts.getD i aB) = rcdL (solo S [] left false st) x (x.nts.getD i aB) := by
    unfold rcdL
    refine List.map_congr_left fun j hj => ?_
    rw [hd, bH, show ((0 : Nat) : Int) = 0 from rfl, solo_rdB (by rw [hl]; exact hsec _), solo_rdB (hsec _), h j (List.mem_range.1 hj)]
  have hr : ∀ T : List Blk, T.length = S.length → bW (solo T [] left false st) (x.d : Int) (bH x.size (x.nts.getD i aB).pos) = 0 := fun T hT => by
    rw [hd]
    have := hsec (x.nts.getD i aB).pos
    exact fA ⟨by unfold bH; omega, by unfold bH; omega⟩
  have hE : rcdE (solo S' [] left false st) x (x.fst + i) = rcdE (solo S [] left false st) x (x.fst + i) := by
    unfold rcdE
    rw [hnote, hL, hr S' hl, hr S rfl]
  refine ⟨hE, ?_⟩
  unfold rcdC
  rw [hE, hnote, hL]
def hitS (x : LgS) (k r : Nat) : Nat := 10 + (usd (x.nts.take k) + r)
theorem hit_in (h : OnD S x A N) {k r : Nat} (hk : k < x.nts.length) (hr : r < aN (x.nts.getD k aB)) : hitS x k r < S.length := by
  have := h.end_ hk
  have := h.use
  have := h.len
  unfold hitS
  omega
theorem sp_other (h : OnD S x A N) (h0 : x.pos = 0) {k r i : Nat} (hk : k < x.nts.length) (hr : r < aN (x.nts.getD k aB)) (hi : i < x.nts.length) (hne : i ≠ k) (y : Blk) :
    rcdE (solo (S.set (hitS x k r) y) [] left false st) x (x.fst + i) = 0 ∧ rcdC (solo (S.set (hitS x k r) y) [] left false st) x (x.fst + i) = A (x.fst + i) := by
  have hq : livQ x (x.fst + i) = true := decide_eq_true ⟨by omega, by show _ < x.fst + x.nts.length; omega⟩
  obtain ⟨r1, r2⟩ := h.record (left := left) (st := st) hq
  have hl := h.len
  obtain ⟨e1, e2⟩ := rcd_alike (S := S) (S' := S.set (hitS x k r) y) (left := left) (st := st) (by rw [List.length_set]) h.dev (by omega) h.siz.1 i hi fun j hj => by
    refine bl fun e => ?_
    have ep := (h.nts i hi).2.1
    rw [h0, Nat.zero_add] at ep
    have e3 := h.end_ hi
    have e4 := h.end_ hk
    have eu := h.use
    rw [ep, Nat.mod_eq_of_lt (by omega)] at e
    unfold hitS at e
    rcases Nat.lt_or_ge i k with c | c
    · have := usd_mono x.nts (show i + 1 ≤ k from c)
      rw [dA hi] at this
      omega
    · have := usd_mono x.nts (show k + 1 ≤ i by omega)
      rw [dA hk] at this
      omega
  exact ⟨e1.trans r1, e2.trans r2⟩
theorem sp_self (h : OnD S x A N) (h0 : x.pos = 0) {k r t : Nat} (hk : k < x.nts.length) (hr : r < aN (x.nts.getD k aB)) (ht : t < 64) (u : UInt8) (hu : u.toNat ≠ 0) :
    rcdE (solo (S.set (hitS x k r) (rotB (S.getD (hitS x k r) al) t u)) [] left false st) x (x.fst + k) = 6 ∧ rcdC (solo (S.set (hitS x k r) (rotB (S.getD (hitS x k r) al) t u)) [] left false st) x (x.fst + k) = [] := by
  have hq : livQ x (x.fst + k) = true := decide_eq_true ⟨by omega, by show _ < x.fst + x.nts.length; omega⟩
  have hin := hit_in h hk hr
  obtain ⟨c1, c2, c3, c4⟩ := h.rcd k hk
  obtain ⟨t1, t2, t3⟩ := h.tak hk
  have hnote : x.note (x.fst + k) = x.nts.getD k aB := by unfold LgS.note; rw [show x.fst + k - x.fst = k from by omega]
  have hlen := h.len
  have hsz := h.siz
  have hsec : ∀ p, 10 + p % x.size < S.length := fun p => by have := Nat.mod_lt p (show 0 < x.size by omega); omega
  have ep := (h.nts k hk).2.1
  rw [h0, Nat.zero_add] at ep
  have e4 := h.end_ hk
  have eu := h.use
  obtain ⟨S', hS'⟩ : ∃ S', S.set (hitS x k r) (rotB (S.getD (hitS x k r) al) t u) = S' := ⟨_, rfl⟩
  have hl' : S'.length = S.length := by rw [← hS', List.length_set]
  rw [hS']
  have hat : ∀ j, j < aN (x.nts.getD k aB) → S.getD (10 + (usd (x.nts.take k) + j)) al = (bE (A (x.fst + k))).getD j al := fun j hj => by
    have := c4 j (by rw [← t1]; exact hj)
    rwa [ep, Nat.mod_eq_of_lt (by omega)] at this
  have hL : rcdL (solo S' [] left false st) x (x.nts.getD k aB) = (bE (A (x.fst + k))).set r (((bE (A (x.fst + k))).getD r al).set t (((bE (A (x.fst + k))).getD r al)[t] ^^^ u)) := by
    unfold rcdL
    apply List.ext_getElem
    · rw [List.length_map, List.length_range, t1, List.length_set]
    · intro j hj1 hj2
      rw [List.length_map, List.length_range] at hj1
      rw [List.getElem_map, List.getElem_range, h.dev, bH, show ((0 : Nat) : Int) = 0 from rfl, solo_rdB (by rw [hl']; exact hsec _), ep, Nat.mod_eq_of_lt (by omega), ← hS']
      by_cases e : j = r
      · subst e
        rw [show 10 + (usd (x.nts.take k) + j) = hitS x k j from rfl, cz (by exact hin), List.getElem_set_self]
        have := hat j hj1
        unfold hitS
        rw [this]
        unfold rotB
        rw [dif_pos ht]
      · rw [bl (by unfold hitS; omega), List.getElem_set_ne (fun c => e c.symm), hat j hj1, List.getD, List.getElem?_eq_getElem (by rw [← t1]; exact hj1)]
        rfl
  have hr0 : bW (solo S' [] left false st) (x.d : Int) (bH x.size (x.nts.getD k aB).pos) = 0 := by
    rw [h.dev]
    have := hsec (x.nts.getD k aB).pos
    exact fA ⟨by unfold bH; omega, by unfold bH; omega⟩
  have hne : sumB (rcdL (solo S' [] left false st) x (x.nts.getD k aB)) ≠ (x.nts.getD k aB).sum := by
    rw [hL, c3]
    exact fun e => hu ((sumB_set (by rw [← t1]; exact hr) ht u).1 e)
  have hE : rcdE (solo S' [] left false st) x (x.fst + k) = 6 := by
    unfold rcdE
    rw [if_pos hq, hnote, if_pos hr0]
    exact if_neg hne
  exact ⟨hE, if_neg (by rw [hE]; decide)⟩
theorem rot_none (y : Blk) (t : Nat) (u : UInt8) (hu : u.toNat = 0) : rotB y t u = y := by
  have e : u = 0 := UInt8.toNat_inj.1 hu
  unfold rotB
  split
  · rename_i ht
    subst e
    apply Vector.ext
    intro i hi
    rw [Vector.getElem_set]
    split
    · rename_i e2
      subst e2
      simp
    · rfl
  · rfl
theorem sp_rot {n t : Nat} (hn : n < S.length) (ht : t < 64) (u : UInt8) : roE6 (solo S [] left false st) 0 (n : Int) (t : Int) = 0 ∧ roS6 (solo S [] left false st) 0 (n : Int) (t : Int) u = solo (S.set n (rotB (S.getD n al) t u)) [] left false st := by
  have hE : rotE S false (n : Int) (t : Int) = 0 := if_pos ⟨by omega, by omega, by omega, by omega⟩
  constructor
  · unfold roE6
    rw [if_pos (solo_has _)]
    exact hE
  · unfold roS6
    rw [if_pos (solo_has _)]
    show (solo S [] left false st).put 0 ⟨rotS S false (n : Int) (t : Int) u, [], false⟩ = _
    unfold rotS
    rw [if_pos hE, Int.toNat_natCast, Int.toNat_natCast]
    rfl
end
def slV (s : Sl14) : Value := .slice s.A s.n s.c
structure AllAt (B : Nat) (wr : World) (K : Nat → Prop) (v : Value) (L : List (List Cl)) (ss : List Sl14) : Prop where
  all : az bx wr B v ss
  len : ss.length = L.length
  own : ∀ b, v.ownBlock = some b → K b
  row : ∀ i, i < L.length → az bp wr B (slV (ss.getD i bx.d)) (L.getD i []) ∧ ∀ b, (slV (ss.getD i bx.d)).ownBlock = some b → K b
section
variable {B : Nat} {w w' : World} {K K' : Nat → Prop} {v : Value} {L : List (List Cl)} {ss : List Sl14} {A : Option Addr} {n c : Nat} {cl : List Cl}
theorem AllAt.nil (B : Nat) (w : World) : AllAt B w K (.slice none 0 0) [] [] := ⟨az.nil w B, rfl, fun b e => by simp [Value.ownBlock] at e, fun i hi => absurd hi (by simp)⟩
theorem AllAt.kept (h : AllAt B w K v L ss) (hk : ∀ b, K b → w'.heap[b]? = w.heap[b]?) : AllAt B w' K v L ss :=
  ⟨h.all.kept_ fun b e => hk b (h.own b e), h.len, h.own, fun i hi => ⟨(h.row i hi).1.kept_ fun b e => hk b ((h.row i hi).2 b e), (h.row i hi).2⟩⟩
theorem AllAt.below (h : AllAt B w K v L ss) (hb : Below w.heap.size w w') : AllAt B w' K v L ss :=
  ⟨h.all.below hb, h.len, h.own, fun i hi => ⟨(h.row i hi).1.below hb, (h.row i hi).2⟩⟩
theorem AllAt.get (h : AllAt B w K v L ss) {i : Nat} (hi : i < L.length) : ∃ g c s, v = .slice (some ⟨g, 0, none⟩) L.length c ∧ w.cell? ⟨g, i, none⟩ = some (slV s) ∧ s.n = (L.getD i []).length ∧ RdE bp w w.heap.size s.A s.n (L.getD i []) := by
  obtain ⟨A, c, rfl, hr, _⟩ := h.all.open_ h.len
  obtain ⟨g, c2, e⟩ := h.all.slice h.len (by omega)
  cases e
  obtain ⟨b, off, e, _, hc⟩ := hr.2 i hi
  cases e
  obtain ⟨m, _⟩ := h.row i hi
  obtain ⟨A2, c3, e2, hr2, _⟩ := m.open_ rfl
  have hn : (ss.getD i bx.d).n = (L.getD i []).length := by
    unfold slV at e2
    injection e2
  have hA : (ss.getD i bx.d).A = A2 := by
    unfold slV at e2
    injection e2
  refine ⟨g, _, ss.getD i bx.d, rfl, ?_, hn, by rw [hA, hn]; exact hr2⟩
  have := hc 0 (slV (ss.getD i bx.d)) rfl
  rwa [show 0 + i * bx.n + 0 = i from by show 0 + i * 1 + 0 = i; omega] at this
theorem AllAt.app (ty : TypeId) (h : AllAt B w K v L ss) (hr : az bp w B (.slice A n c) cl) (hB : B ≤ w.heap.size) (hl : L.length ≤ 1000) :
    ∃ v' w', (Builtin.append_ #[bx.s, bx.s] ty #[v, .slice (some ⟨w.heap.size, 0, none⟩) 1 1]).run Tryz.prog (w.alloc (.cells (bx.cel ⟨A, n, c⟩).toArray bx.t)) = .ok v' w' ∧
      AllAt B w' (fun b => K b ∨ v'.ownBlock = some b ∨ (Value.slice A n c).ownBlock = some b) v' (L ++ [cl]) (ss ++ [⟨A, n, c⟩]) ∧ Only (fun b => v.ownBlock = some b) w w' ∧ (∀ x, v'.ownBlock = some x → v.ownBlock = some x ∨ w.heap.size ≤ x) := by
  have hb1 := (Below.refl w.heap.size w).alloc (Nat.le_refl _) (.cells (bx.cel ⟨A, n, c⟩).toArray bx.t)
  have hz : (w.alloc (.cells (bx.cel ⟨A, n, c⟩).toArray bx.t)).heap.size = w.heap.size + 1 := World.size_alloc ..
  have hrd := dY (E := bx) (l := [⟨A, n, c⟩]) w (bx.cel ⟨A, n, c⟩).toArray bx.t rfl
  obtain ⟨v', w', h1, h2, h3, h4⟩ := eq bx _ ty B _ 1 1 v ss [⟨A, n, c⟩] _ (h.all.below hb1) hrd (by omega) (by have := h.len; omega)
  have ho : Only (fun b => v.ownBlock = some b) w w' := ((Only.refl _ w).cK hb1).grown h3 fun k e => .inl e
  refine ⟨v', w', h1, ⟨h2, by rw [List.length_append, List.length_append, h.len]; rfl, fun b e => .inr (.inl e), fun i hi => ?_⟩, ho, fun x e => (h4 x e).imp id fun e => by omega⟩
  rw [List.length_append] at hi
  have hi2 : i < L.length + 1 := hi
  have keep : ∀ {u : Value} {l : List Cl}, az bp w B u l → az bp w' B u l := fun k => (k.below hb1).kept h3 ((k.below hb1).other (h.all.below hb1) (by decide))
  by_cases e : i = L.length
  · subst e
    rw [fa, ← h.len, fa]
    exact ⟨keep hr, fun b e => .inr (.inr e)⟩
  · have i1 : i < L.length := by omega
    have i2 : i < ss.length := by rw [h.len]; exact i1
    rw [eX (l := L) i1, eX (l := ss) i2]
    obtain ⟨m1, m2⟩ := h.row i i1
    exact ⟨keep m1, fun b e => .inl (m2 b e)⟩
end
theorem LAt.inK {C : LogI} {w0 w wz : World} {B q p : Nat} {K K' F : Nat → Prop} {M : BenS} {x : LgS} (h : LAt C w0 B K w q p M x) (k : Only F w wz) (hF : ∀ b, F b → K b ∧ B ≤ b) (hK : ∀ b, K' b → K b ∨ (w.heap.size ≤ b ∧ b < wz.heap.size)) : LAt C w0 B K' wz q p M x := by
  have hle := AtK.le h
  obtain ⟨G, h1, h2, h3, h4, h5⟩ := h
  have hs := k.size
  refine ⟨G, C.only h1 k fun b hb hf => (h5 b (hF b hf).1).1 hb, h2, h3.trans (k.below (fun b e => (hF b e).2) hle), h4, fun b hb => ?_⟩
  rcases hK b hb with e | ⟨e1, e2⟩
  · obtain ⟨g1, g2⟩ := h5 b e
    exact ⟨g1, by omega⟩
  · exact ⟨fun hg => by have := C.lt h1 b hg; omega, e2⟩
def SpS (w : World) (K : Nat → Prop) (wr : World) (q p k : Nat) (x : LgS) (L : List (List Cl)) : Prop :=
  ∃ S A st N, LAt theLog w w.heap.size K wr q p (solo S [] 0 false st) x ∧ OnD S x A N ∧ Twn S x ∧ N ≤ k + 1 ∧ st ≤ 13 + 40 * k ∧ x.fst = 1 ∧ x.pos = 0 ∧ x.nts.length = L.length ∧ ∀ i, i < L.length → A (1 + i) = L.getD i []
section
variable {w wr wz : World} {K K' F : Nat → Prop} {q p k : Nat} {x : LgS} {L : List (List Cl)}
theorem SpS.guard (h : SpS w K wr q p k x L) (hb : Below wr.heap.size wr wz) (hK : ∀ b, K' b → K b ∨ (wr.heap.size ≤ b ∧ b < wz.heap.size)) : SpS w K' wz q p k x L := by
  obtain ⟨S, A, st, N, h1, h2⟩ := h
  exact ⟨S, A, st, N, h1.guard hb hK, h2⟩
theorem SpS.inK (h : SpS w K wr q p k x L) (k_ : Only F wr wz) (hF : ∀ b, F b → K b ∧ w.heap.size ≤ b) (hK : ∀ b, K' b → K b ∨ (wr.heap.size ≤ b ∧ b < wz.heap.size)) : SpS w K' wz q p k x L := by
  obtain ⟨S, A, st, N, h1, h2⟩ := h
  exact ⟨S, A, st, N, h1.inK k_ hF hK, h2⟩
theorem SpS.bel (h : SpS w K wr q p k x L) : Below w.heap.size w wr := by
  obtain ⟨S, A, st, N, h1, h2⟩ := h
  exact AtK.bel h1
theorem SpS.eight (h : SpS w K wr q p k x L) : L.length ≤ 8 := by
  obtain ⟨S, A, st, N, h1, h2, _, _, _, _, _, h8, _⟩ := h
  have := h2.eig
  omega
def SpApp (w : World) (K : Nat → Prop) (wr : World) (q p k : Nat) (x : LgS) (L : List (List Cl)) (cs : List Cl) (e : Ending) (w' : World) : Prop :=
  keptK K wr w' ∧ ∃ (a : Nat) (E : Int) (x' : LgS), e = .returned (.tuple #[.int .u64 (a : Int), .int .i64 E]) ∧
    ((E ≠ 0 ∧ SpS w K w' q p (k + 1) x L) ∨ (E = 0 ∧ SpS w K w' q p (k + 1) x' (L ++ [cs]) ∧ 1 ≤ cs.length ∧ cs.length ≤ 32))
theorem SpS.app (B : Option Addr) (n c N0 : Nat) (cs : List Cl) (h : SpS w K wr q p k x L) (hk : k ≤ 1000) (hc : RdE bp wr N0 B n cs) (hN0 : N0 ≤ wr.heap.size) (hn : n ≤ maxLen) :
    Calls Tryz.prog 19 #[.pointer (some ⟨p, 0, none⟩), .slice B n c] wr (SpApp w K wr q p k x L cs) := by
  obtain ⟨S, A, st, N, h1, h2, h3, h4, h5, h6, h7, h8, h9⟩ := h
  refine (h1.app B n c N0 cs h2.lgok (solo_room (by omega)) hc hN0 hn).mono ?_
  rintro e w' ⟨rfl, k1, k2⟩
  refine ⟨k2, appN (solo S [] 0 false st) x cs, appE (solo S [] 0 false st) x cs, appX (solo S [] 0 false st) x cs, rfl, ?_⟩
  by_cases hq : appQ x cs = 0
  · right
    obtain ⟨c1, _, _⟩ := of_appQ hq
    obtain ⟨c2, c3, _⟩ := of_recE c1
    have hhd : hd cs.length ≤ 2 := by unfold hd; omega
    rcases app_go (left := 0) (st := st) h2 h3 hq (by omega) with ⟨_, g1, S', g2, g3, g4⟩ | ⟨h0, _⟩
    · rw [Nat.zero_sub] at g2
      have e2 : appX (solo S [] 0 false st) x cs = x.with_ (cF x cs) := if_pos g1
      rw [e2] at k1 ⊢
      rw [g2] at k1
      have hnx : x.next = 1 + L.length := by unfold LgS.next; omega
      refine ⟨g1, ⟨S', _, _, N + 1, k1, g3, g4, by omega, (by rw [bz]; omega), h6, h7, by show (x.nts ++ [cF x cs]).length = _; rw [List.length_append, List.length_append, h8]; rfl, fun i hi => ?_⟩, c2, c3⟩
      rw [List.length_append] at hi
      have hi2 : i < L.length + 1 := hi
      by_cases e : i = L.length
      · subst e
        rw [fa, hnx]
        exact upA_at
      · rw [eX (by omega), upA_off (by omega)]
        exact h9 i (by omega)
    · omega
  · left
    obtain ⟨a1, a2, a3, _⟩ := app_no (M := solo S [] 0 false st) hq
    rw [a2, a3] at k1
    exact ⟨by rw [a1]; exact hq, S, A, st, N, k1, h2, h3, by omega, by omega, h6, h7, h8, h9⟩
theorem sp_add {w2 w3 : World} {v vc : Value} {ss : List Sl14} {cl : List Cl} (ty : TypeId) (hs : SpS w K w2 q p k x (L ++ [cl])) (ha : AllAt w.heap.size w2 K v L ss) (hv : az bp w3 w2.heap.size vc cl) (hb : Below w2.heap.size w2 w3) (hl : L.length ≤ 1000) :
    ∃ A c, vc = .slice A cl.length c ∧ ∃ v' w' K', (Builtin.append_ #[bx.s, bx.s] ty #[v, .slice (some ⟨w3.heap.size, 0, none⟩) 1 1]).run Tryz.prog (w3.alloc (.cells (bx.cel ⟨A, cl.length, c⟩).toArray bx.t)) = .ok v' w' ∧
      SpS w K' w' q p k x (L ++ [cl]) ∧ AllAt w.heap.size w' K' v' (L ++ [cl]) (ss ++ [⟨A, cl.length, c⟩]) := by
  obtain ⟨A, c, rfl, _, _⟩ := hv.form
  have hle := hs.bel.size
  have hs2 := hb.size
  have g1 : SpS w (fun b => K b ∨ (Value.slice A cl.length c).ownBlock = some b) w3 q p k x (L ++ [cl]) := hs.guard hb fun b e => e.imp id fun e => hv.own_both b e
  obtain ⟨v', w', h1, h2, h3, h4⟩ := (ha.below hb).app ty (hv.base hle) (by omega) hl
  refine ⟨A, c, rfl, v', w', _, h1, ?_, h2⟩
  refine g1.inK h3 (fun b e => ⟨.inl (ha.own b e), ((ha.all.own_both b e).1)⟩) fun b e => ?_
  rcases e with e | e | e
  · exact .inl (.inl e)
  · rcases h4 b e with e2 | e2
    · exact .inl (.inl (ha.own b e2))
    · exact .inr ⟨e2, (h2.all.own_both b e).2⟩
  · exact .inl (.inr e)
theorem SpS.tak (h : SpS w K wr q p k x L) {i : Nat} (hi : i < L.length) : aN (x.nts.getD i aB) = sizN ((L.getD i []).length : Int) ∧ 1 ≤ (L.getD i []).length ∧ (L.getD i []).length ≤ 32 ∧ 1 ≤ aN (x.nts.getD i aB) ∧ aN (x.nts.getD i aB) ≤ 34 ∧ usd (x.nts.take (i + 1)) = usd (x.nts.take i) + aN (x.nts.getD i aB) := by
  obtain ⟨S, A, st, N, h1, h2, h3, h4, h5, h6, h7, h8, h9⟩ := h
  obtain ⟨t1, t2, t3⟩ := h2.tak (i := i) (by omega)
  have e : A (x.fst + i) = L.getD i [] := by rw [h6]; exact h9 i hi
  rw [e] at t1 t2 t3
  have hh : hd (L.getD i []).length ≤ 2 := by unfold hd; omega
  have hr := bz (L.getD i [])
  exact ⟨t1.trans (recL_siz ⟨t2, t3⟩), t2, t3, by omega, by omega, dA (by omega)⟩
theorem SpS.usd_le (h : SpS w K wr q p k x L) {i : Nat} (hi : i ≤ L.length) : usd (x.nts.take i) ≤ 256 := by
  obtain ⟨S, A, st, N, h1, h2, h3, h4, h5, h6, h7, h8, h9⟩ := h
  have := ee x.nts i
  have hu := h2.use
  have hz := h2.siz
  unfold LgS.used at hu
  omega
def RotS (w : World) (K : Nat → Prop) (wr : World) (q p : Nat) (x : LgS) (L : List (List Cl)) (kk : Nat) (u : UInt8) : Prop :=
  ∃ M N, LAt theLog w w.heap.size K wr q p M x ∧ LgOk M x N ∧ (kk < L.length → u.toNat ≠ 0 → rcdE M x (kk + 1) = 6 ∧ rcdC M x (kk + 1) = []) ∧ ∀ i, i < L.length → (i ≠ kk ∨ u.toNat = 0) → rcdE M x (i + 1) = 0 ∧ rcdC M x (i + 1) = L.getD i []
theorem SpS.rot (h : SpS w K wr q p k x L) {kk r t : Nat} (hk : kk < L.length) (hr : r < aN (x.nts.getD kk aB)) (ht : t < 64) (u : UInt8) :
    Calls Tryz.prog 34 #[.pointer (some ⟨q, 0, none⟩), .int .i64 0, .int .i64 ((10 + usd (x.nts.take kk) + r : Nat) : Int), .int .i64 (t : Int), .int .u8 (u.toNat : Int)] wr fun e w' => e = .returned (.int .i64 0) ∧ RotS w K w' q p x L kk u ∧ keptK K wr w' := by
  obtain ⟨S, A, st, N, h1, h2, h3, h4, h5, h6, h7, h8, h9⟩ := h
  have hin := hit_in h2 (k := kk) (r := r) (by omega) hr
  have e0 : 10 + usd (x.nts.take kk) + r = hitS x kk r := by unfold hitS; omega
  rw [e0]
  obtain ⟨r1, r2⟩ := sp_rot (S := S) (left := 0) (st := st) hin ht u
  refine (h1.ben (M' := roS6 (solo S [] 0 false st) 0 (hitS x kk r : Int) (t : Int) u) (v := .int .i64 0) fun hb => by
    have := theLog.R.rot 0 (hitS x kk r : Int) (t : Int) u hb
    rw [r1] at this
    exact this).mono ?_
  rintro e w' ⟨rfl, k1, k2⟩
  rw [r2] at k1
  refine ⟨rfl, ⟨_, N, k1, ?_, ?_, ?_⟩, k2⟩
  · exact (h2.lgok (left := 0) (st := st) (b := false)).shp ⟨rfl, fun d => by
      rcases d with _ | d
      · show (S.set _ _).length = S.length
        rw [List.length_set]
      · rfl⟩
  · intro _ hu
    have := sp_self h2 h7 (k := kk) (r := r) (t := t) (left := 0) (st := st) (by omega) hr ht u hu
    rwa [h6, Nat.add_comm] at this
  · intro i hi hne
    by_cases hu : u.toNat = 0
    · rw [rot_none _ _ _ hu]
      have e1 : S.set (hitS x kk r) (S.getD (hitS x kk r) al) = S := by
        apply List.ext_getElem (by rw [List.length_set])
        intro j j1 j2
        rw [List.getElem_set]
        split
        · rename_i e
          subst e
          rw [List.getD, List.getElem?_eq_getElem hin]
          rfl
        · rfl
      rw [e1]
      have := h2.record (left := 0) (st := st) (q := x.fst + i) (decide_eq_true ⟨by omega, by show _ < x.fst + x.nts.length; omega⟩)
      rw [h6, h9 i hi] at this
      rwa [Nat.add_comm] at this
    · have := sp_other h2 h7 (k := kk) (r := r) (i := i) (left := 0) (st := st) (by omega) hr (by omega) (by omega) (rotB (S.getD (hitS x kk r) al) t u)
      rw [h6, h9 i hi] at this
      rwa [Nat.add_comm] at this
theorem RotS.below {kk : Nat} {u : UInt8} (h : RotS w K wr q p x L kk u) (hb : Below wr.heap.size wr wz) : RotS w K wz q p x L kk u := by
  obtain ⟨M, N, h1, h2⟩ := h
  exact ⟨M, N, h1.below hb, h2⟩
theorem RotS.bel {kk : Nat} {u : UInt8} (h : RotS w K wr q p x L kk u) : Below w.heap.size w wr := by
  obtain ⟨M, N, h1, h2⟩ := h
  exact AtK.bel h1
def RotRec (wr : World) (L : List (List Cl)) (kk : Nat) (u : UInt8) (i : Nat) (e : Ending) (w' : World) : Prop :=
  ∃ (A : Option Addr) (n c : Nat) (l : List Cl) (E : Int), e = .returned (.tuple #[.slice A n c, .int .i64 E]) ∧ RdE bp w' w'.heap.size A n l ∧ n ≤ maxLen ∧ Below wr.heap.size wr w' ∧ (i = kk → u.toNat ≠ 0 → E = 6 ∧ n = 0) ∧ ((i ≠ kk ∨ u.toNat = 0) → E = 0 ∧ l = L.getD i [])
theorem RotS.rec_ {kk : Nat} {u : UInt8} (h : RotS w K wr q p x L kk u) (i : Nat) (hi : i < L.length) (hi2 : i ≤ 1000) : Calls Tryz.prog 24 #[.pointer (some ⟨p, 0, none⟩), .int .u64 ((i + 1 : Nat) : Int)] wr (RotRec wr L kk u i) := by
  obtain ⟨M, N, h1, h2, h3, h4⟩ := h
  refine (h1.rec_ (i + 1) h2 (by omega)).mono ?_
  rintro e w' ⟨v', rfl, k1, k2⟩
  obtain ⟨A, c, rfl, hr, hn1, hn2⟩ := k1.open_ rfl
  refine ⟨A, _, c, _, _, rfl, hr, Nat.le_trans hn1 hn2, k2, ?_, ?_⟩
  · rintro rfl hu
    obtain ⟨e1, e2⟩ := h3 hi hu
    exact ⟨e1, by rw [e2]; rfl⟩
  · intro hne
    exact h4 i hi hne
theorem Laid.sps {r : Nat} {e : Ending} {w' : World} (h : Laid theLog w r e w') : ∃ q p, e = .returned (.tuple #[.pointer (some ⟨q, 0, none⟩), .pointer (some ⟨p, 0, none⟩), .bool true]) ∧ SpS w (fun _ => False) w' q p 0 (layX 0 7 (r : Int)) [] := by
  obtain ⟨q, p, S, he, h1, h2, h3, h4⟩ := h
  exact ⟨q, p, he, S, fun _ => [], 13, 1, h1, h2 _, h3, by omega, by omega, rfl, rfl, rfl, fun i hi => absurd hi (by simp)⟩
end
end Go.Proofs.YtcafafdimcecpaaGreatDoor
