/- A list of whole numbers that comes in, opened. -/
import Derived.Test.YtjohiehlnbgdaaaDoorBindOpen
import Derived.Test.YtjohiehlnbgdaaaDoorSlotVars
namespace Go.Proofs.YtjohiehlnbgdaaaDoor
open Go.ChangeShapes Go.WideShapes Go.ChangeAt Go.RowKit Go.Joins Go.Deep
set_option linter.unusedVariables false

set_option maxRecDepth 100000 in
theorem open_vars {H : Type} {enc : TypeId × Value → H} {W : World} {a : Option Addr} {len cap : Nat} {d : DataW H} {p : List MemPlace}
    (h : DataW.Trod enc Tryd.prog W 0 (fun _ => true) true 30 (.slice a len cap) d p) : ∃ V, IIn W a len V ∧ len ≤ cap ∧ cap ≤ 9223372036854775807 := by
  obtain ⟨fuel, hf⟩ := h
  rcases open_ints Tryd.underlying30 Tryd.underlying3 (by kernel_rfl) hf with ⟨hcs, _⟩ | ⟨x, l, c, zs, hcs, _, hl, hm, hz, _, hcell, hwz⟩
  · simp [Value.cells] at hcs
    obtain ⟨rfl, rfl, rfl⟩ := hcs
    exact ⟨[], ⟨rfl, by omega, fun h => by omega⟩, by omega, by omega⟩
  · simp [Value.cells] at hcs
    obtain ⟨rfl, rfl, rfl⟩ := hcs
    simp only [if_true] at hz
    have hzl : len ≤ zs.length := by omega
    refine ⟨zs.take len, ⟨by simp; omega, by unfold maxLen at hm; omega, fun h0 => ?_⟩, hl, by unfold maxLen at hm; omega⟩
    obtain ⟨b, off, spot⟩ := x
    have hc := hcell 0 (by omega)
    have hspot : spot = none := by simpa [Addr.add] using World.cell?_spot hc
    subst hspot
    rw [add_offS] at hc
    refine ⟨b, off, rfl, cell_ltS hc, fun n hn => ?_⟩
    have hq := hcell n (by omega)
    rw [add_offS] at hq
    have e : (zs.take len).getD n 0 = zs.getD n 0 := by simp [List.getD, hn]
    rw [e]
    exact hq
end Go.Proofs.YtjohiehlnbgdaaaDoor
