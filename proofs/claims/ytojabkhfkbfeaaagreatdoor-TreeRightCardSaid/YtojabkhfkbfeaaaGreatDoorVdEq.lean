/- Whether two values are one: decided. No program. -/
import Derived.Test.YtojabkhfkbfeaaaGreatDoorValCells
namespace Go.Proofs.YtojabkhfkbfeaaaGreatDoor
open Go.RowKit
set_option linter.unusedVariables false

theorem bytes_eq {a b : ByteArray} (h : a.toList = b.toList) : a = b := by
  rw [ByteArray.toList_eq, ByteArray.toList_eq] at h
  exact ByteArray.ext (Array.toList_inj.1 h)
theorem tl_eq (a b : ByteArray) : a.toList = b.toList ↔ a = b := ⟨bytes_eq, fun h => by rw [h]⟩
theorem Vd.same {a b : Vd} (h : eqB a.k a.i a.s a.b b.k b.i b.s b.b = true) : a = b := by
  obtain ⟨k, i, s, c⟩ := a
  obtain ⟨k', i', s', c'⟩ := b
  obtain ⟨h1, h2, h3, h4⟩ := (eqB_iff _ _ _ _ _ _ _ _).1 h
  simp only at h1 h2 h3 h4
  rw [h1, h2, bytes_eq h3, h4]
instance : DecidableEq Vd := fun a b =>
  if h : eqB a.k a.i a.s a.b b.k b.i b.s b.b = true then isTrue (Vd.same h) else isFalse (fun e => h (by rw [e]; exact (eqB_iff _ _ _ _ _ _ _ _).2 ⟨rfl, rfl, rfl, rfl⟩))
theorem eqB_dec (a b : Vd) : eqB a.k a.i a.s a.b b.k b.i b.s b.b = decide (a = b) := by
  cases h : eqB a.k a.i a.s a.b b.k b.i b.s b.b
  · exact (decide_eq_false (fun e => by rw [e, (eqB_iff _ _ _ _ _ _ _ _).2 ⟨rfl, rfl, rfl, rfl⟩] at h; cases h)).symm
  · exact (decide_eq_true (Vd.same h)).symm
end Go.Proofs.YtojabkhfkbfeaaaGreatDoor
