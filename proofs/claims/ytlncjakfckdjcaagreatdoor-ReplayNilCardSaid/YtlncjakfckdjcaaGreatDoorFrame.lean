/-
  A byte slice that came in reads as a list of bytes; how its length is bounded by the form's own reach.
-/
import Derived.Test.YtlncjakfckdjcaaGreatDoorKnob
namespace Go.Proofs.YtlncjakfckdjcaaGreatDoor
open Go.RowKit Go.ChangeShapes Go.WideShapes Go.ChangeAt
set_option maxRecDepth 100000
section
variable {H : Type} {enc : TypeId × Value → H} {W : World} {base : Nat} {v : Value} {d : DataW H} {p : List MemPlace}
theorem open_bytes (hv : Value.okWide Tryz.prog W .any base 147 v) (h : DataW.Trod enc Tryz.prog W 0 (fun _ => true) true 147 v d p) (hz : ∀ x ∈ DataW.weights Tryz.prog 147 d, x ≤ reachBytes) :
    ∃ (A : Option Addr) (n c : Nat) (l : List UInt8), v = .slice A n c ∧ Rd W W.heap.size A n l ∧ n ≤ 140737488351232 := by
  obtain ⟨a0, len0, cap0, rfl⟩ := okWide_slice Tryz.underlying147 hv
  obtain ⟨fuel, hf⟩ := h
  rcases open_ints Tryz.underlying147 Tryz.underlying5 u8cells hf with ⟨hcs, hx⟩ | ⟨x, l, c, zs, hcs, _, hl, hm, hzl, hx, hcell, hwz⟩
  · simp [Value.cells] at hcs
    obtain ⟨rfl, rfl, rfl⟩ := hcs
    exact ⟨none, 0, 0, [], rfl, Rd.nil _ _ _, by omega⟩
  · simp [Value.cells] at hcs
    obtain ⟨rfl, rfl, rfl⟩ := hcs
    simp only [Prod.mk.injEq] at hx
    obtain ⟨rfl, rfl⟩ := hx
    simp only [if_true] at hzl
    have hr := hz ((((lits (H := H) .u8 (zs.take len0)).length + (lits (H := H) .u8 (zs.drop len0)).length)) * Tryz.prog.bytesOf 5) (by simp [DataW.weights, Tryz.underlying147])
    rw [u8bytes] at hr
    simp only [lits, List.length_map, List.length_take, List.length_drop, reachBytes] at hr
    refine ⟨some x, len0, cap0, toBytes (zs.take len0), rfl, ⟨by simp [toBytes]; omega, fun k hk => ?_⟩, by omega⟩
    have hc := hcell k (by omega)
    obtain ⟨b, off, spot⟩ := x
    have hspot : spot = none := by
      have := World.cell?_spot (hcell 0 (by omega))
      simpa [Addr.add] using this
    subst hspot
    have hadd : (⟨b, off, none⟩ : Addr).add k = ⟨b, off + k, none⟩ := by unfold Addr.add; split <;> simp_all
    rw [hadd] at hc
    refine ⟨b, off, rfl, World.block_lt_of_cell? W _ hc, ?_⟩
    rw [hc, bt_toBytes (fun z hz => hwz z (List.mem_of_mem_take hz)) (by simp; omega)]
    congr 2
    simp [List.getD, List.getElem?_take_of_lt hk]
theorem open_small (hv : Value.okWide Tryz.prog W .any base 147 v) (h : DataW.Trod enc Tryz.prog W 0 (fun _ => true) true 147 v d p) (hz : Rows.uptoBulk d ≤ 1048576) :
    ∃ (A : Option Addr) (n c : Nat) (l : List UInt8), v = .slice A n c ∧ Rd W W.heap.size A n l ∧ n ≤ 1048576 := by
  obtain ⟨a0, len0, cap0, rfl⟩ := okWide_slice Tryz.underlying147 hv
  obtain ⟨fuel, hf⟩ := h
  rcases open_ints Tryz.underlying147 Tryz.underlying5 u8cells hf with ⟨hcs, hx⟩ | ⟨x, l, c, zs, hcs, _, hl, hm, hzl, hx, hcell, hwz⟩
  · simp [Value.cells] at hcs
    obtain ⟨rfl, rfl, rfl⟩ := hcs
    exact ⟨none, 0, 0, [], rfl, Rd.nil _ _ _, by omega⟩
  · simp [Value.cells] at hcs
    obtain ⟨rfl, rfl, rfl⟩ := hcs
    simp only [Prod.mk.injEq] at hx
    obtain ⟨rfl, rfl⟩ := hx
    simp only [if_true] at hzl
    have h1 := bulk_length (lits (H := H) .u8 (zs.take len0))
    simp only [Rows.uptoBulk] at hz
    simp only [lits, List.length_map, List.length_take] at h1 hz
    refine ⟨some x, len0, cap0, toBytes (zs.take len0), rfl, ⟨by simp [toBytes]; omega, fun k hk => ?_⟩, by omega⟩
    have hc := hcell k (by omega)
    obtain ⟨b, off, spot⟩ := x
    have hspot : spot = none := by
      have := World.cell?_spot (hcell 0 (by omega))
      simpa [Addr.add] using this
    subst hspot
    have hadd : (⟨b, off, none⟩ : Addr).add k = ⟨b, off + k, none⟩ := by unfold Addr.add; split <;> simp_all
    rw [hadd] at hc
    refine ⟨b, off, rfl, World.block_lt_of_cell? W _ hc, ?_⟩
    rw [hc, bt_toBytes (fun z hz => hwz z (List.mem_of_mem_take hz)) (by simp; omega)]
    congr 2
    simp [List.getD, List.getElem?_take_of_lt hk]
end
end Go.Proofs.YtlncjakfckdjcaaGreatDoor
