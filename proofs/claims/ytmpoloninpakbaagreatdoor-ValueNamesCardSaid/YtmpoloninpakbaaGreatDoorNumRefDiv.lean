/- What the reference's Div does with any numbers. -/
import Derived.Test.YtmpoloninpakbaaGreatDoorNumRefMul
import Derived.RegionTactic
import Derived.Deep.QuietTactic
import Derived.BigQuiet
namespace Go.Proofs.YtmpoloninpakbaaGreatDoor
open Go.RowKit
set_option linter.unusedVariables false

set_option maxHeartbeats 400000 in
theorem refDiv_calls (a b : Int) (w : World) (ha : -9223372036854775808 ≤ a ∧ a ≤ 9223372036854775807) (hb : -9223372036854775808 ≤ b ∧ b ≤ 9223372036854775807) :
    Calls Tryz.prog 38 #[.int .i64 a, .int .i64 b] w fun e w' => e = .returned (.tuple #[.int .i64 (dn a b), .int .i64 (mn a b), .int .i64 (de a b)]) ∧ ∃ n, w' = w.drewN n := by
  by_cases h0 : b = 0
  · subst h0
    rw [dn_zero, de_zero, mn_zero]
    clear ha hb
    go_enter Tryz.func38, Tryz.ntmps38
    go_wp2
    go_ret3
    exact ⟨rfl, 0, rfl⟩
  by_cases h1 : b = -1
  · subst h1
    rw [dn_ne h0, de_ne h0, mn_ne h0, tdiv_m1, tmod_m1]
    clear hb h0
    by_cases h : -9223372036854775808 ≤ -a ∧ -a ≤ 9223372036854775807
    · have hc := refSub0_calls a w ha
      rw [tb_yes h.1 h.2] at hc
      rw [te_yes h.1 h.2]
      have HC := Lib.hid hc
      clear hc h ha
      go_enter Tryz.func38, Tryz.ntmps38
      go_wp2_with (go_at_call 36; refine HC.out.mono ?_; rintro e w' ⟨rfl, rfl⟩)
      go_ret3
      exact ⟨rfl, 0, rfl⟩
    · have hc := refSub0_calls a w ha
      rw [tb_no h] at hc
      rw [te_no h, tn_no h]
      have HC := Lib.hid hc
      clear hc h ha
      go_enter Tryz.func38, Tryz.ntmps38
      go_wp2_with (go_at_call 36; refine HC.out.mono ?_; rintro e w' ⟨rfl, rfl⟩)
      go_ret3
      exact ⟨rfl, 0, rfl⟩
  · rw [dn_ne h0, de_ne h0, mn_ne h0]
    obtain ⟨r1, r2⟩ := tdiv_fits h0 h1 ha
    obtain ⟨m1, m2⟩ := tmod_fits (b := b) ha
    rw [tn_yes r1 r2, te_yes r1 r2]
    have t0 : (b == 0) = false := by simpa using h0
    have t1 : (b == -1) = false := by simpa using h1
    clear ha hb h1
    go_enter Tryz.func38, Tryz.ntmps38
    go_wp2
    go_quiet (fail)
    go_wp2
    go_ret3
    exact ⟨rfl, _, rfl⟩

end Go.Proofs.YtmpoloninpakbaaGreatDoor
