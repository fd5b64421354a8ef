/- Failures compared. -/
import Derived.Test.YtbojhcfofgdoeaaDoorCsvKeep
import Derived.Laws.StructEq
namespace Go.Proofs.YtbojhcfofgdoeaaDoor
open Go.RowKit
set_option linter.unusedVariables false

set_option maxRecDepth 100000 in
theorem failEq (e l c e' l' c' : Nat) (w : World) : (Op.equalIn 10000 26 (.agg #[.int .i64 (e : Nat), .int .i64 (l : Nat), .int .i64 (c : Nat)]) (.agg #[.int .i64 (e' : Nat), .int .i64 (l' : Nat), .int .i64 (c' : Nat)])).run Tryd.prog w = .ok (decide (e = e' ∧ l = l' ∧ c = c')) w := by
  rw [run_equalIn_agg w 9999 _ _ _ (by simp only [Program.fieldsOf, Tryd.underlying26]) (by kernel_rfl)]
  simp only [Program.fieldsOf, Tryd.underlying26]
  go_simp
  repeat' split
  all_goals simp_all
  all_goals omega
theorem failGuard : Tryd.prog.eqGuardType Tryd.prog.depth 26 = false := by kernel_rfl
end Go.Proofs.YtbojhcfofgdoeaaDoor
