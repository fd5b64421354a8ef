/- Trees and what they are made of: told apart. No program. -/
import Derived.Test.YtojabkhfkbfeaaaGreatDoorTreeMath
import Derived.Test.YtojabkhfkbfeaaaGreatDoorVdEq
namespace Go.Proofs.YtojabkhfkbfeaaaGreatDoor
open Go.RowKit
set_option linter.unusedVariables false

deriving instance DecidableEq for Id3
deriving instance DecidableEq for Ex
deriving instance DecidableEq for Ag
deriving instance DecidableEq for Sy
deriving instance DecidableEq for De
deriving instance DecidableEq for Qu
deriving instance DecidableEq for Fr
deriving instance DecidableEq for Sta
deriving instance DecidableEq for Se
deriving instance DecidableEq for Ts
deriving instance DecidableEq for Tr

theorem take_sameG {α : Type} {L M : List α} {n : Nat} {x y : α} (hx : L[n]? = some x) (hy : M[n]? = some y) (h : L.take n = M.take n) (e : x = y) : L.take (n + 1) = M.take (n + 1) := by
  obtain ⟨h1, e1⟩ := List.getElem?_eq_some_iff.1 hx
  obtain ⟨h2, e2⟩ := List.getElem?_eq_some_iff.1 hy
  rw [List.take_succ_eq_append_getElem h1, List.take_succ_eq_append_getElem h2, h, e1, e2, e]
theorem ne_atG {α : Type} {L M : List α} {n : Nat} {x y : α} (hx : L[n]? = some x) (hy : M[n]? = some y) (e : x ≠ y) : L ≠ M := by
  rintro rfl
  exact e (Option.some.inj (hx.symm.trans hy))
theorem at_some {α : Type} {L : List α} {n len : Nat} (hl : L.length = len) (h : n < len) : ∃ x, L[n]? = some x := ⟨L[n]'(by omega), List.getElem?_eq_getElem (by omega)⟩
end Go.Proofs.YtojabkhfkbfeaaaGreatDoor
