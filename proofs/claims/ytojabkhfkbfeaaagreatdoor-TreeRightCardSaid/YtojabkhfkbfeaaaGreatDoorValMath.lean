/- Values compared. -/
import Derived.Test.YtojabkhfkbfeaaaGreatDoorValBox
import Derived.Laws.StructEq
namespace Go.Proofs.YtojabkhfkbfeaaaGreatDoor
open Go.RowKit
set_option linter.unusedVariables false

theorem guardV : Tryz.prog.eqGuardType Tryz.prog.depth 41 = false := by kernel_rfl
set_option maxRecDepth 100000 in
theorem eqIn (k i : Int) (s : ByteArray) (b : Bool) (k' i' : Int) (s' : ByteArray) (b' : Bool) (w : World) :
    (Op.equalIn 10000 41 (.agg #[.int .i64 k, .int .i64 i, .string s, .bool b]) (.agg #[.int .i64 k', .int .i64 i', .string s', .bool b'])).run Tryz.prog w = .ok (eqB k i s b k' i' s' b') w := by
  rw [run_equalIn_agg w 9999 _ _ _ (by simp only [Program.fieldsOf, Tryz.underlying41]) (by kernel_rfl)]
  simp only [Program.fieldsOf, Tryz.underlying41]
  go_simp
  repeat' split
  all_goals simp_all [eqB]
end Go.Proofs.YtojabkhfkbfeaaaGreatDoor
