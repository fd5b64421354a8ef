/- What the rows' list gives: the table of words; and that a world that lists it exists. -/
import Derived.Test.YtojabkhfkbfeaaaDoorScWLaid
namespace Go.Proofs.YtojabkhfkbfeaaaDoor
open Go.RowKit
set_option linter.unusedVariables false

theorem wds_of_laid {W : World} (h : laidMetH Tryd.prog [("proctor/schema.words", Rows.laid_proctor_schema_words)] W) : Wds W := by
  rw [MakeChecks.laidMetH_plain _ _ _ (by kernel_rfl)] at h
  exact wds_of_head h
theorem door_metW (os : Os) (args : Array Value) : laidMetH Tryd.prog [("proctor/schema.words", Rows.laid_proctor_schema_words)] ((World.doorLaid Tryd.prog 400 os).forCall (fun _ _ => 0) ⟨#[], args, []⟩).memory :=
  laidMetH_of_parts3 (fuel := 8) (laidMet_of_run' 8 (by kernel_rfl) (by kernel_rfl)) (by kernel_rfl) (by kernel_rfl)
end Go.Proofs.YtojabkhfkbfeaaaDoor
