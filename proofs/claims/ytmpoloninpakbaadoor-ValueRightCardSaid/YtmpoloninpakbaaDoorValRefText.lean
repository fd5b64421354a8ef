/- What the reference's Text does with any value that may be. -/
import Derived.Test.YtmpoloninpakbaaDoorValText
import Derived.Test.YtmpoloninpakbaaDoorNumRefText
import Derived.Test.YtmpoloninpakbaaDoorQuoteRefQ
namespace Go.Proofs.YtmpoloninpakbaaDoor
open Go.RowKit
set_option linter.unusedVariables false

set_option maxHeartbeats 1000000 in
theorem refVText_calls (k i : Int) (s : ByteArray) (b : Bool) (w : World) (hi : -9223372036854775808 ≤ i ∧ i ≤ 9223372036854775807) (hr : rightB k i s b = true) :
    Calls Tryd.prog 13 #[.agg #[.int .i64 k, .int .i64 i, .string s, .bool b]] w fun e w' => e = .returned (.string ⟨(valText k i s b).toArray⟩) ∧ Below w.heap.size w w' := by
  have HA := Lib.hid ((Below.refl w.heap.size w).alloc (Nat.le_refl _) (.cells #[.int .i64 k, .int .i64 i, .string s, .bool b] 23))
  rcases right_kind hr with rfl | rfl | rfl
  · rw [valText1 hr]
    have HT := Lib.hid (fun w1 => refText_calls i.natAbs i w1 (Nat.le_refl _) hi.1 hi.2)
    clear hr
    go_enter Tryd.func13, Tryd.ntmps13
    go_wp2_with fail
    refine (HT.out _).mono ?_
    rintro e w1 ⟨rfl, n, rfl⟩
    go_wp2_with fail
    go_ret
    exact ⟨rfl, HA.out.os, HA.out.tape, HA.out.output, HA.out.size, HA.out.block⟩
  · rw [valText2 hr]
    have HT := Lib.hid (fun w1 => refQuote_calls s w1 (by have := right2_size hr; omega))
    clear hr
    go_enter Tryd.func13, Tryd.ntmps13
    go_wp2_with fail
    refine (HT.out _).mono ?_
    rintro e w1 ⟨rfl, k3⟩
    go_wp2_with fail
    go_ret
    exact ⟨rfl, HA.out.trans (k3.mono HA.out.size)⟩
  · rw [valText3 hr]
    clear hr
    cases b
    all_goals
      go_enter Tryd.func13, Tryd.ntmps13
      go_wp2_with fail
      go_ret
      exact ⟨rfl, HA.out⟩
end Go.Proofs.YtmpoloninpakbaaDoor
