/- Lists of values and rows of bytes that come in, opened. -/
import Derived.Test.YtppplkfidjjodaaDoorKeyHelp
import Derived.Test.YtppplkfidjjodaaDoorKeyCut
import Derived.Test.YtppplkfidjjodaaDoorValRowOpen
import Derived.ChangeSlices
import Derived.OpenShut
namespace Go.Proofs.YtppplkfidjjodaaDoor
open Go.ChangeShapes Go.WideShapes Go.ChangeAt Go.RowKit
set_option linter.unusedVariables false

theorem open_vin {H : Type} {enc : TypeId × Value → H} {W : World} {a : Option Addr} {len cap : Nat} {d : DataW H} {p : List MemPlace}
    (h : DataW.Trod enc Tryd.prog W 0 (fun _ => true) true 22 (.slice a len cap) d p) : ∃ L, VIn W a len L := by
  obtain ⟨L, h1, h2⟩ := open_vrowB h
  refine ⟨L, ?_⟩
  rcases h1 with ⟨rfl, rfl⟩ | ⟨hm, hl, hr, hs⟩
  · exact ⟨rfl, by omega, fun h => by omega, fun n hn => by simp at hn⟩
  · exact ⟨hl, by unfold maxLen at hm; omega, fun _ => hr, fun n hn => ⟨by have := hs n hn; unfold maxLen at this; omega, bounds_i64 (h2 n hn)⟩⟩

theorem open_bin {H : Type} {enc : TypeId × Value → H} {W : World} {a : Option Addr} {len cap : Nat} {d : DataW H} {p : List MemPlace}
    (h : DataW.Trod enc Tryd.prog W 0 (fun _ => true) true 25 (.slice a len cap) d p) : ∃ l, BIn W a len cap l ∧ len ≤ 9223372036854775807 := by
  obtain ⟨fuel, hf⟩ := h
  rcases open_ints Tryd.underlying25 Tryd.underlying5 (by kernel_rfl) hf with ⟨hcs, _⟩ | ⟨x, l, c, zs, hcs, _, hl, hm, hz, _, hcell, hwz⟩
  · simp [Value.cells] at hcs
    obtain ⟨rfl, rfl, rfl⟩ := hcs
    exact ⟨[], ⟨rfl, by omega, fun h => by omega⟩, by omega⟩
  · simp [Value.cells] at hcs
    obtain ⟨rfl, rfl, rfl⟩ := hcs
    simp only [if_true] at hz
    have hzl : len ≤ zs.length := by omega
    refine ⟨(zs.take len).map (fun z => UInt8.ofNat z.toNat), ⟨by simp; omega, hl, fun h0 => ?_⟩, by unfold maxLen at hm; omega⟩
    obtain ⟨b, off, spot⟩ := x
    have hc := hcell 0 (by omega)
    have hspot : spot = none := by simpa [Addr.add] using World.cell?_spot hc
    subst hspot
    refine ⟨b, off, rfl, ⟨fun j c hj => ?_⟩⟩
    rw [List.getElem?_map, List.getElem?_take] at hj
    split at hj
    · rename_i hjl
      have hjz : j < zs.length := by omega
      rw [List.getElem?_eq_getElem hjz] at hj
      simp at hj
      have hq := hcell j hjz
      have e : zs.getD j 0 = zs[j] := by simp [List.getD, hjz]
      rw [e, add_off] at hq
      rw [hq, ← hj]
      have hw := hwz zs[j] (List.getElem_mem hjz)
      simp [Lit.wf, IntKind.min, IntKind.max, IntKind.signed, IntKind.bits] at hw
      rw [UInt8.toNat_ofNat']
      congr 2
      omega
    · simp at hj

/-- What the answer 1 of right says. -/
theorem rN_one {w : World} {a : Option Addr} {len : Nat} {L : List Vd} (hv : VIn w a len L) (h : rN L = 1) : allD L ∧ len ≤ 10 := by
  unfold rN at h
  split at h
  · cases h
  · rename_i h10
    split at h
    · cases h
    · split at h
      · rename_i hall
        rw [List.all_eq_true] at hall
        refine ⟨fun v hm => ?_, by rw [← hv.leng]; omega⟩
        obtain ⟨j, hj, rfl⟩ := List.getElem_of_mem hm
        have e : L.getD j default = L[j] := by simp [List.getD, hj]
        have hf := (hv.fits j hj).2
        rw [e] at hf
        exact ⟨hall _ hm, hf⟩
      · cases h
theorem rN_zero {w : World} {a : Option Addr} {len : Nat} {L : List Vd} (hv : VIn w a len L) (h : rN L = 0) : len ≤ 10 ∧ ∃ n0, n0 < len ∧ rB (L.getD n0 default) = false ∧ ∀ j, j < n0 → rB (L.getD j default) = true := by
  unfold rN at h
  split at h
  · cases h
  · rename_i h10
    split at h
    · cases h
    · split at h
      · cases h
      · rename_i hall
        refine ⟨by rw [← hv.leng]; omega, ?_⟩
        have key : ∀ n, n ≤ L.length → (∀ j, j < n → rB (L.getD j default) = true) ∨ ∃ n0, n0 < n ∧ rB (L.getD n0 default) = false ∧ ∀ j, j < n0 → rB (L.getD j default) = true := by
          intro n
          induction n with
          | zero => exact fun _ => .inl (fun j hj => absurd hj (Nat.not_lt_zero _))
          | succ n ih =>
            intro hn
            rcases ih (by omega) with h1 | ⟨n0, h1, h2, h3⟩
            · cases hb : rB (L.getD n default)
              · exact .inr ⟨n, by omega, hb, h1⟩
              · exact .inl (fun j hj => by
                  by_cases hjn : j < n
                  · exact h1 j hjn
                  · rw [show j = n by omega]; exact hb)
            · exact .inr ⟨n0, by omega, h2, h3⟩
        rcases key L.length (Nat.le_refl _) with h1 | ⟨n0, h1, h2, h3⟩
        · refine absurd ?_ hall
          rw [List.all_eq_true]
          intro v hm
          obtain ⟨j, hj, rfl⟩ := List.getElem_of_mem hm
          have e : L.getD j default = L[j] := by simp [List.getD, hj]
          rw [← e]
          exact h1 j hj
        · exact ⟨n0, by rw [← hv.leng]; exact h1, h2, h3⟩
theorem rN_cases (L : List Vd) : rN L = -1 ∨ rN L = 0 ∨ rN L = 1 := by
  unfold rN
  split
  · exact .inl rfl
  · split
    · exact .inl rfl
    · split
      · exact .inr (.inr rfl)
      · exact .inr (.inl rfl)
end Go.Proofs.YtppplkfidjjodaaDoor
