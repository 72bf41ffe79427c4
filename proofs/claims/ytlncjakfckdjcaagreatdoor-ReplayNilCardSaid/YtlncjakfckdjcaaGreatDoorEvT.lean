/-
  Structs, arrays and slices made: the evaluator's and the model's. No statement.
-/
import Derived.Test.YtlncjakfckdjcaaGreatDoorEvS
import Derived.Laws.Tables
import Derived.Laws.MakeOwn
set_option linter.all false
set_option maxRecDepth 100000
namespace Go.Ev
open Go
variable {P : Program} {G : Nat} {ε : Env} {h h' : H} {w : World}
theorem mapO_mapM {α β : Type} {f : α → Option β} : ∀ {l : List α} {m : List β}, mapO f l = some m → l.mapM f = some m
  | [], m, e => by simp [mapO] at e; subst e; simp
  | x :: l, m, e => by
    simp only [mapO, Option.bind_eq_some_iff, Option.some.injEq] at e
    obtain ⟨y, hy, r, hr, rfl⟩ := e
    simp [List.mapM_cons, hy, mapO_mapM hr]
theorem zeroS_info {t : Nat} {z : SV} (e : zeroS P t = some z) : ∃ i v, P.info? t = some i ∧ i.zero = some v ∧ ofV v = some z := by
  unfold zeroS at e
  simp only [Option.bind_eq_some_iff] at e
  obtain ⟨i, hi, v, hv, hz⟩ := e
  exact ⟨i, v, ty_info hi, hv, hz⟩
theorem places_eq {fs : List Field} {pl : List (Nat × Nat)} (e : mapO (fun f => (szOf P f.type).bind fun s => some (f.offset, s)) fs = some pl) :
    fs.mapM (fun f => (P.info? f.type).map fun i => (f.offset, i.size)) = some pl := by
  refine mapO_mapM ?_
  have key : ∀ {fs : List Field} {pl : List (Nat × Nat)}, mapO (fun f => (szOf P f.type).bind fun s => some (f.offset, s)) fs = some pl → mapO (fun f : Field => (P.info? f.type).map fun i => (f.offset, i.size)) fs = some pl := by
    intro fs
    induction fs with
    | nil => intro pl h; exact h
    | cons f fs ih =>
      intro pl h
      simp only [mapO, Option.bind_eq_some_iff, Option.some.injEq] at h ⊢
      obtain ⟨y, ⟨s, hs, rfl⟩, r, hr, rfl⟩ := h
      obtain ⟨i, hi, rfl⟩ := sz_eq hs
      exact ⟨_, by rw [hi]; rfl, r, ih hr, rfl⟩
  exact key e
theorem buildS_R {t : Nat} {ps : List (Nat × SV)} {ps' : List (Nat × Value)} {v : SV} (e : buildS P t ps = some v) (h1 : ps.map (·.1) = ps'.map (·.1)) (h2 : Rs ε (ps.map (·.2)) (ps'.map (·.2))) (w : World) :
    ∃ v', (Instr.build t ps'.toArray).run P w = .ok v' w ∧ R ε v v' := by
  simp only [buildS, Option.bind_eq_some_iff] at e
  obtain ⟨z0, hz0, z, hz, d, hd, e⟩ := e
  obtain ⟨i, zv, hi, hzv, hov⟩ := zeroS_info hz0
  obtain ⟨m, rfl, hm, hm1⟩ := asA_R hz (ofV_R (ε := ε) hov)
  split at e
  · rename_i fs
    simp only [Option.bind_eq_some_iff, Option.some.injEq] at e
    obtain ⟨pl, hpl, l, hl, rfl⟩ := e
    obtain ⟨q, k1, k2, k3⟩ := fill_R hl h1 h2 hm hm1
    refine ⟨.agg q.toArray, run_build w t ps'.toArray q.toArray ?_, .a k2 k3⟩
    simp only [Program.built, hi, und_eq hd, hzv, places_eq hpl, Value.cells]
    rw [← k1]
    congr 1
    funext k
    rw [nth_eq]; simp
  · rename_i n el
    simp only [Option.bind_eq_some_iff, Option.some.injEq] at e
    obtain ⟨s, hs, l, hl, rfl⟩ := e
    obtain ⟨ie, hie, rfl⟩ := sz_eq hs
    obtain ⟨q, k1, k2, k3⟩ := fill_R hl h1 h2 hm hm1
    refine ⟨.agg q.toArray, run_build w t ps'.toArray q.toArray ?_, .a k2 k3⟩
    simp only [Program.built, hi, und_eq hd, hzv, hie, Value.cells]
    exact k1
  · cases e
theorem rep_get {α : Type} (l : List α) : ∀ n k, k < n * l.length → (rep l n)[k]? = l[k % l.length]?
  | 0, k, h => by simp at h
  | n + 1, k, h => by
    rw [rep, app_eq]
    by_cases hk : k < l.length
    · rw [List.getElem?_append_left hk, Nat.mod_eq_of_lt hk]
    · have hk := Nat.le_of_not_lt hk
      rw [List.getElem?_append_right hk, rep_get l n (k - l.length) (by rw [Nat.succ_mul] at h; omega), ← Nat.mod_eq_sub_mod hk]
theorem cells_rep (z : Array Value) (n s : Nat) (hs : z.size = s) : ((Array.range (n * s)).map (z[· % z.size]!)) = (rep z.toList n).toArray := by
  apply Array.ext'
  apply List.ext_getElem?
  intro k
  simp only [Array.toList_map, Array.toList_range, List.getElem?_map, List.getElem?_range']
  by_cases hk : k < n * s
  · have h0 : 0 < s := by rcases Nat.eq_zero_or_pos s with h | h; subst h; simp at hk; exact h
    have hlt : k % z.size < z.size := Nat.mod_lt _ (by omega)
    rw [rep_get z.toList n k (by simpa [hs] using hk)]
    simp [hk, hs, List.getElem?_range hk]
    rw [← hs, Array.getElem?_eq_getElem hlt]
    simp [getElem!_pos, hlt]
  · have h1 : (rep z.toList n)[k]? = none := by rw [List.getElem?_eq_none_iff, rep_len]; simp [hs]; omega
    rw [h1]
    have : (List.range (n * s))[k]? = none := by rw [List.getElem?_eq_none_iff]; simp; omega
    simp [this]
theorem Rs.rep {l : List SV} {m : List Value} (hl : Rs ε l m) : ∀ n, Rs ε (rep l n) (rep m n)
  | 0 => .nil
  | n + 1 => by rw [Ev.rep, Ev.rep, app_eq, app_eq]; exact hl.append (Rs.rep hl n)
theorem rep_mem {α : Type} {l : List α} {p : α → Prop} (h : ∀ x ∈ l, p x) : ∀ n, ∀ x ∈ rep l n, p x
  | 0, x, hx => by simp [rep] at hx
  | n + 1, x, hx => by
    rw [rep, app_eq, List.mem_append] at hx
    rcases hx with hx | hx
    · exact h x hx
    · exact rep_mem h n x hx
theorem one_of_sc {s : SV} {v : Value} (hr : R ε s v) (hs : (cellsOf s).all sc = true) : ∀ u ∈ v.cells.toList, u.oneCell' = true :=
  hr.cells_one (fun q hq => by rw [hq] at hs; simp [cellsOf, sc] at hs)
def GoesA (m0 : Nat) (P : Program) (G : Nat) (ε : Env) (h : H) (w : World) (v : SV) (h' : H) (s : Sem Value) : Prop :=
  ∃ v' w' ε', s.run P w = .ok v' w' ∧ R ε' v v' ∧ Rep G ε' h' w' ∧ KpA m0 h ε w h' ε' w'
theorem buildSlice_R (r : Rep G ε h w) {m0 : Nat} (hm0 : ε m0 = none) (hle : m0 ≤ h.nx) {t e n s : Nat} {ps : List (Nat × SV)} {ps' : List (Nat × Value)} {z : SV} {cs : List SV} (hd : und P t = some (.slice e)) (hs : szOf P e = some s) (hz : zeroS P e = some z)
    (hb1 : (cellsOf z).length = s) (hb2 : n * s ≤ 16777216) (hb3 : (cellsOf z).all sc = true) (hf : fillS (fun i => some (i * s, s)) (rep (cellsOf z) n) ps = some cs)
    (h1 : ps.map (·.1) = ps'.map (·.1)) (h2 : Rs ε (ps.map (·.2)) (ps'.map (·.2))) :
    GoesA m0 P G ε h w (.s (some (m0, 0)) n n) (h.addA m0 (row e cs)) (Instr.buildSlice t n ps'.toArray) := by
  obtain ⟨i, zv, hi, hzv, hov⟩ := zeroS_info hz
  have hzr : R ε z zv := ofV_R hov
  have hone := one_of_sc hzr hb3
  have hlen := hzr.cells.length
  obtain ⟨q, k1, k2, k3⟩ := fill_R (ε := ε) hf h1 h2 (hzr.cells.rep n) (rep_mem hone n)
  have hsz : zv.cells.size = s := by rw [← hb1, hlen]; simp
  obtain ⟨i2, hi2, hss⟩ := sz_eq hs
  rw [hi] at hi2; cases hi2
  have hrun : (Instr.buildSlice t n ps'.toArray).run P w = .ok (.slice (some ⟨w.heap.size, 0, none⟩) n n) (w.alloc (.cells q.toArray e)) := by
    have hc := cells_rep zv.cells n s hsz
    by_cases h0 : n * s = 0
    · have hr0 : rep zv.cells.toList n = [] := by
        apply List.eq_nil_of_length_eq_zero
        rw [rep_len]; simp [hsz, h0]
      rw [hr0] at k1
      simp [Instr.buildSlice, run_underlying (und_eq hd), sizeOf, typeInfo, hi, hss, h0, newRow, Array.range_zero', k1]
    · rw [← hc] at k1
      have : ¬ (16777216 < n * s) := by omega
      simp [Instr.buildSlice, run_underlying (und_eq hd), sizeOf, typeInfo, zeroValue, hi, hzv, hss, h0, this, newRow, k1]
  obtain ⟨a, b⟩ := r.rowA hm0 hle (t := e) k2 k3
  exact ⟨_, _, _, hrun, .s n n (Env.add_at ε m0 ⟨w.heap.size, 0, 0⟩), a, b⟩
theorem makeSlice_R (r : Rep G ε h w) {m0 : Nat} (hm0 : ε m0 = none) (hle : m0 ≤ h.nx) {t e n c : Nat} {kl kc : IntKind} {z : SV} {i : TypeInfo} {zv : Value} (hd : und P t = some (.slice e)) (hi : ty P e = some i) (hzv : i.zero = some zv) (hz : ofV zv = some z)
    (hn : n ≤ c) (hc : c ≤ GREAT) (hby : i.bytes ≤ GREAT) (hb1 : (cellsOf z).length = i.size) (hb3 : (cellsOf z).all sc = true) :
    GoesA m0 P G ε h w (.s (some (m0, 0)) n c) (h.addA m0 (row e (rep (cellsOf z) c))) (Instr.makeSlice t (.int kl (.ofNat n)) (.int kc (.ofNat c))) := by
  have hzr : R ε z zv := ofV_R hz
  have hone := one_of_sc hzr hb3
  have hlen := hzr.cells.length
  have hsz : zv.cells.size = i.size := by rw [← hb1, hlen]; simp
  have hbc : i.bytes * c ≤ GREAT * GREAT := Nat.mul_le_mul hby hc
  have hG : GREAT * GREAT ≤ 281474976710656 := by decide
  have hG2 : GREAT ≤ 9223372036854775807 := by decide
  have hrun := run_make w t e i zv (und_eq hd) (ty_info hi) hzv kl kc (.ofNat n) (.ofNat c) (Int.natCast_nonneg n) (Int.ofNat_le.2 hn)
    (by show (i.bytes : Int) * (c : Int) ≤ _; rw [← Int.natCast_mul]; omega) (by show (c : Int) ≤ _; omega)
  have hm : madeCells zv.cells ((Int.ofNat c).toNat * i.size) = (rep zv.cells.toList c).toArray := by
    have := cells_rep zv.cells c i.size hsz
    rw [← this]; rfl
  rw [hm] at hrun
  obtain ⟨a, b⟩ := r.rowA hm0 hle (t := e) (hzr.cells.rep c) (rep_mem hone c)
  exact ⟨_, _, _, hrun, .s n c (Env.add_at ε m0 ⟨w.heap.size, 0, 0⟩), a, b⟩
/-- a block for a value -/
theorem box_R (r : Rep G ε h w) {m0 : Nat} (hm0 : ε m0 = none) (hle : m0 ≤ h.nx) {e : Nat} {z : SV} {zv : Value} (hz : R ε z zv) (hs : ∀ l, z ≠ .t l) :
    Rep G (ε.add m0 ⟨w.heap.size, 0, 0⟩) (h.addA m0 (row e (cellsOf z))) (w.alloc (.cells zv.cells e)) ∧ KpA m0 h ε w (h.addA m0 (row e (cellsOf z))) (ε.add m0 ⟨w.heap.size, 0, 0⟩) (w.alloc (.cells zv.cells e)) := by
  have := r.rowA hm0 hle (t := e) hz.cells (hz.cells_one hs)
  simpa using this
end Go.Ev
