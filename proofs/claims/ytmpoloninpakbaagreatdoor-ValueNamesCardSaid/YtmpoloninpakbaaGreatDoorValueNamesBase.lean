/- Kinds, names and the law ValueNames: what its walks share. -/
import Derived.Test.YtmpoloninpakbaaGreatDoorValAwake
import Derived.Test.YtmpoloninpakbaaGreatDoorValRefOp
import Derived.Deep.Cut
namespace Go.Proofs.YtmpoloninpakbaaGreatDoor.valueNames
open Go.RowKit
set_option linter.unusedVariables false

/-- A kind and its name, in the tests' own words. -/
def KindWay (k : Int) (N : ByteArray) : Prop :=
  ((k == 1) = true ∧ N = ⟨#[105, 110, 116]⟩) ∨ ((k == 1) = false ∧ (k == 2) = true ∧ N = ⟨#[115, 116, 114, 105, 110, 103]⟩) ∨ ((k == 1) = false ∧ (k == 2) = false ∧ (k == 3) = true ∧ N = ⟨#[98, 111, 111, 108]⟩) ∨ ((k == 1) = false ∧ (k == 2) = false ∧ (k == 3) = false ∧ N = ⟨#[]⟩)
theorem kindWay (k : Int) : KindWay k (nameV k) := by
  unfold KindWay nameV
  by_cases h1 : k = 1
  · subst h1; exact .inl ⟨rfl, rfl⟩
  have t1 : (k == 1) = false := beq_eq_false_iff_ne.2 h1
  by_cases h2 : k = 2
  · subst h2; exact .inr (.inl ⟨rfl, rfl, rfl⟩)
  have t2 : (k == 2) = false := beq_eq_false_iff_ne.2 h2
  by_cases h3 : k = 3
  · subst h3; exact .inr (.inr (.inl ⟨rfl, rfl, rfl, rfl⟩))
  exact .inr (.inr (.inr ⟨t1, t2, beq_eq_false_iff_ne.2 h3, by rw [if_neg h1, if_neg h2, if_neg h3]⟩))
/-- A name and its kind, in the tests' own words. -/
def NameWay (n : ByteArray) (K : Int) : Prop :=
  ((n.toList == [105, 110, 116]) = true ∧ K = 1) ∨ ((n.toList == [105, 110, 116]) = false ∧ (n.toList == [115, 116, 114, 105, 110, 103]) = true ∧ K = 2) ∨ ((n.toList == [105, 110, 116]) = false ∧ (n.toList == [115, 116, 114, 105, 110, 103]) = false ∧ (n.toList == [98, 111, 111, 108]) = true ∧ K = 3) ∨ ((n.toList == [105, 110, 116]) = false ∧ (n.toList == [115, 116, 114, 105, 110, 103]) = false ∧ (n.toList == [98, 111, 111, 108]) = false ∧ K = 0)
theorem nameWay (n : ByteArray) : NameWay n (kindV n) := by
  unfold NameWay kindV
  by_cases h1 : n.toList = [105, 110, 116]
  · exact .inl ⟨by simpa using h1, by rw [if_pos h1]⟩
  have t1 : (n.toList == [105, 110, 116]) = false := beq_eq_false_iff_ne.2 h1
  by_cases h2 : n.toList = [115, 116, 114, 105, 110, 103]
  · exact .inr (.inl ⟨t1, by simpa using h2, by rw [if_neg h1, if_pos h2]⟩)
  have t2 : (n.toList == [115, 116, 114, 105, 110, 103]) = false := beq_eq_false_iff_ne.2 h2
  by_cases h3 : n.toList = [98, 111, 111, 108]
  · exact .inr (.inr (.inl ⟨t1, t2, by simpa using h3, by rw [if_neg h1, if_neg h2, if_pos h3]⟩))
  exact .inr (.inr (.inr ⟨t1, t2, beq_eq_false_iff_ne.2 h3, by rw [if_neg h1, if_neg h2, if_neg h3]⟩))

/-- The law's own example, and a call of it. -/
def Aw (w : World) : Prop := ∀ w1, Below w.heap.size w w1 → Calls Tryz.prog 7 #[] w1 fun e w' => e = .returned (.bool true) ∧ Below w1.heap.size w1 w'

end Go.Proofs.YtmpoloninpakbaaGreatDoor.valueNames
