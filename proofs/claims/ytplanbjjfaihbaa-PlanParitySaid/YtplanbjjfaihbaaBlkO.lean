/-
  Blocks, and slices of blocks, that came in.
-/
import Derived.Test.YtplanbjjfaihbaaBlkW
import Derived.Test.YtplanbjjfaihbaaBlkS
import Derived.Test.YtplanbjjfaihbaaKnob
import Derived.Deep.Slices
namespace Go.Proofs.Ytplanbjjfaihbaa
open Go.RowKit Go.ChangeShapes Go.WideShapes Go.ChangeAt Go.Deep
set_option maxRecDepth 100000

theorem cellsB : Try.prog.cellsOf 34 = 64 := by kernel_rfl
theorem bytesB : Try.prog.bytesOf 34 = 64 := by kernel_rfl
section
variable {H : Type} {enc : TypeId × Value → H} {W : World} {base : Nat} {v : Value} {d : DataW H} {p : List MemPlace}
theorem one_u8 {m : Nat} {x : Value} {y : DataW H × List MemPlace} (h : DataW.trod enc Try.prog W 0 (fun _ => true) true m 5 [x] = some y) : ∃ u : UInt8, x = .int .u8 (u.toNat : Int) := by
  obtain ⟨k, e, _, hw⟩ := DataW.trod_int Try.underlying5 h
  have hr : 0 ≤ k ∧ k ≤ 255 := bounds_u8 hw
  injection e with e
  refine ⟨UInt8.ofNat k.toNat, ?_⟩
  rw [e, UInt8.toNat_ofNat']
  congr 1
  omega
theorem cel_of_trod {fuel : Nat} {cs : List Value} {x : DataW H × List MemPlace} (h : DataW.trod enc Try.prog W 0 (fun _ => true) true fuel 34 cs = some x) : ∃ b : Blk, cs = cel b := by
  obtain ⟨xs, m, _, _, hlen, hn, hel⟩ := DataW.trod_array undB h
  rw [cellsB] at hlen
  rw [u8cells] at hel
  have hu : ∀ i : Fin 64, ∃ u : UInt8, cs[i.val]? = some (.int .u8 (u.toNat : Int)) := fun i => by
    have h1 := hel i.val i.isLt
    have hi : i.val < cs.length := by have := i.isLt; omega
    have hd : (cs.drop (i.val * 1)).take 1 = [cs[i.val]] := by
      rw [Nat.mul_one, List.drop_eq_getElem_cons hi]
      rfl
    have hx : i.val < xs.length := by have := i.isLt; omega
    rw [hd, List.getElem?_eq_getElem hx] at h1
    obtain ⟨u, hu⟩ := one_u8 h1
    exact ⟨u, by rw [List.getElem?_eq_getElem hi, hu]⟩
  obtain ⟨f, hf⟩ := Classical.axiomOfChoice hu
  refine ⟨Vector.ofFn f, ?_⟩
  apply List.ext_getElem?
  intro i
  by_cases hi : i < 64
  · rw [hf ⟨i, hi⟩, cel_at _ hi, byt_get _ hi]
    simp
  · rw [List.getElem?_eq_none (by omega), List.getElem?_eq_none (by rw [cel_length]; omega)]
theorem open_blk (hv : Value.okWide Try.prog W .any base 34 v) (h : DataW.Trod enc Try.prog W 0 (fun _ => true) true 34 v d p) : ∃ b : Blk, v = blk b := by
  obtain ⟨cs, rfl, _, _⟩ : ∃ cs, v = .agg cs ∧ cs.size = Try.prog.cellsOf 34 ∧ Row.okWide Try.prog W .any base 34 cs := by
    simpa [Value.okWide, Try.underlying34] using hv
  obtain ⟨fuel, hf⟩ := h
  obtain ⟨b, hb⟩ := cel_of_trod hf
  refine ⟨b, ?_⟩
  unfold blk
  rw [← hb]
  simp [Value.cells]
theorem open_blocks (hv : Value.okWide Try.prog W .any base 32 v) (h : DataW.Trod enc Try.prog W 0 (fun _ => true) true 32 v d p) (hz : ∀ x ∈ DataW.weights Try.prog 32 d, x ≤ reachBytes) :
    ∃ (A : Option Addr) (n c : Nat) (l : List Blk), v = .slice A n c ∧ RdB W W.heap.size A n l ∧ n ≤ 2199023255488 ∧ n ≤ c := by
  obtain ⟨a0, len0, cap0, rfl⟩ := okWide_slice Try.underlying32 hv
  obtain ⟨fuel, hf⟩ := h
  rcases open_slice underS hf with ⟨hcs, hx⟩ | ⟨a, len, cap, m, n, D, Pl, hcs, hb, hl, hm, hmm, hx, hel⟩
  · simp [Value.cells] at hcs
    obtain ⟨rfl, rfl, rfl⟩ := hcs
    exact ⟨none, 0, 0, [], rfl, RdB.nil _ _ _, by omega, by omega⟩
  · simp [Value.cells] at hcs
    obtain ⟨rfl, rfl, rfl⟩ := hcs
    simp only [Prod.mk.injEq] at hx
    obtain ⟨rfl, rfl⟩ := hx
    simp only [if_true] at hmm
    subst hmm
    have hr := hz (((((List.range len0).map D).length + ((List.range (m - len0)).map fun j => D (len0 + j)).length)) * Try.prog.bytesOf 34) (by simp [DataW.weights])
    rw [bytesB] at hr
    simp only [List.length_map, List.length_range, reachBytes] at hr
    obtain ⟨f, hf2⟩ := choose_lt (α := Blk) (p := fun i b => W.cells? 0 (a.add (i * 64)) 64 = some (cel b)) (n := m) (fun i hi => by
      obtain ⟨cs', h1, h2⟩ := hel i hi
      rw [cellsB] at h1
      obtain ⟨b, rfl⟩ := cel_of_trod h2
      exact ⟨b, h1⟩)
    refine ⟨some a, len0, m, (List.range len0).map f, rfl, ⟨by simp, fun k hk => ?_⟩, by omega, hl⟩
    obtain ⟨b, off, spot⟩ := a
    have hspot : spot = none := by
      have h0 := (World.cells?_some (hf2 0 (by omega))).2.2 0 (by omega)
      rw [cel_at _ (by omega)] at h0
      have := World.cell?_spot h0
      simpa [Addr.add] using this
    subst hspot
    have hc := World.cells?_some (hf2 k (by omega))
    refine ⟨b, off, rfl, ?_, fun j u hj => ?_⟩
    · have h0 := hc.2.2 0 (by omega)
      rw [cel_at _ (by omega), Addr.add_mid, Addr.add_mid] at h0
      exact World.block_lt_of_cell? W _ h0
    · have hlt : j < 64 := by have := (List.getElem?_eq_some_iff.1 hj).1; rwa [cel_length] at this
      have h1 := hc.2.2 j hlt
      rw [Addr.add_mid, Addr.add_mid] at h1
      rw [h1, ← hj]
      simp [List.getD, hk]
end
end Go.Proofs.Ytplanbjjfaihbaa
