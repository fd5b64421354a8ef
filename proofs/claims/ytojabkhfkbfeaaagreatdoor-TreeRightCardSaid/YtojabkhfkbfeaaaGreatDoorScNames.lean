/- What value.Name says of kinds. -/
import Derived.Test.YtojabkhfkbfeaaaGreatDoorScChars
namespace Go.Proofs.YtojabkhfkbfeaaaGreatDoor
open Go.RowKit
set_option linter.unusedVariables false

set_option maxHeartbeats 400000 in
theorem scKind_calls (k : Int) (w : World) :
    Calls Tryz.prog 84 #[.int .i64 k] w fun e w' => e = .returned (.string (kindT k)) ∧ w = w' := by
  go_enter Tryz.func84, Tryz.ntmps84
  go_wp2
  all_goals go_ret
  all_goals exact ⟨by simp_all [kindT, kindL], rfl⟩
end Go.Proofs.YtojabkhfkbfeaaaGreatDoor
