/- For every list l of nodes and every place at, in every state of a program that has begun and holds what the row lists, the law PrintExpr of the package proctorlaw12 answers true when called with them, and leaves what it was given as it was: if l is small (at most 40 nodes, texts of at most 100 bytes), print.Expr(l, at) is empty if no expression has its root at that place, and else is what the document's reference tells, and parse.Expr reads it as nodes that have the same operators, names and values. The conditions are those of the card: the program is a pruned copy of the project at the commit, the variables that the row lists hold what they are tied to, memory is enough, and nothing is said of how deep Go's stack may go. -/
import Derived.Test.YtiafhfchjhffhaaGreatDoorCards
import Derived.Test.YtiafhfchjhffhaaGreatDoorTie
import Derived.Test.YtiafhfchjhffhaaGreatDoorPrintExprLift
import Derived.Test.YtiafhfchjhffhaaGreatDoorPrintExprFacts
import Derived.SevenTiedAt
namespace Go.Proofs.YtiafhfchjhffhaaGreatDoor.printExpr
open Go.ChangeShapes Go.WideShapes Go.ChangeAt Go.RowKit
open Go.ChangeMaps (open_string shut_string)


theorem said : Rows.PrintExprSaid :=
  OpenClaim.holds_of_wide 4 Tryz.f4 rfl rfl rfl rfl rfl rfl rfl ⟨rfl, rfl, rfl, rfl, rfl⟩ rfl rfl rfl rfl rfl (by kernel_rfl) Tryz.func4 closedA
    (of_decide_eq_true (by kernel_rfl)) (by unfold Func.isWrapper; first | (rw [if_pos (by decide +kernel)]; kernel_rfl) | (rw [if_neg (by decide +kernel)]; exact ⟨rfl, rfl⟩))
    (fun os started H enc _ => lifted os started H enc)

/-- The card: the row, with what it lists tied to the text of the program. -/
theorem card : Rows.PrintExprCardSaid :=
  Claim7.holds_tied_plain_at .later [] _ _ _ _ said (fun _ h => by cases h) (by as_aux_lemma => kernel_rfl) (fun _ h => by cases h) printExpr_row_tie rfl ⟨rfl, rfl⟩ (by as_aux_lemma => kernel_rfl) rfl
    (fun f fn hf hfn => by
      obtain rfl : f = 4 := Option.some.inj ((show Tryz.prog.funcNamed "proctor/proctorlaw12.PrintExpr" = some 4 by kernel_rfl).symm.trans hf) |>.symm
      obtain rfl : fn = Tryz.f4 := (Option.some.inj (Tryz.func4.symm.trans hfn)).symm
      exact ⟨by as_aux_lemma => kernel_rfl, fun j t ht => by
        rw [Tryz.params4] at ht
        have hm : t ∈ [40, 3] := by simpa using Array.mem_of_getElem? ht
        have hall : ([40, 3].all fun u => !Tryz.prog.wantsStandIn u) = true := by kernel_rfl
        exact (show Tryz.prog.wantsStandIn t = false by simpa using List.all_eq_true.1 hall t hm)⟩)
    (by as_aux_lemma => kernel_rfl)
#print axioms card
end Go.Proofs.YtiafhfchjhffhaaGreatDoor.printExpr
