/- What the reference's Add does with any numbers. -/
import Derived.Test.YtmpoloninpakbaaGreatDoorBase
import Derived.Test.YtmpoloninpakbaaGreatDoorNumMath
import Derived.WalkSpells
import Derived.WalkLawsBesides
import Derived.Lib.Hide
namespace Go.Proofs.YtmpoloninpakbaaGreatDoor
open Go.RowKit

set_option maxHeartbeats 400000 in
theorem refAdd_calls (a b : Int) (w : World) (ha : -9223372036854775808 ≤ a ∧ a ≤ 9223372036854775807) (hb : -9223372036854775808 ≤ b ∧ b ≤ 9223372036854775807) :
    Calls Tryz.prog 34 #[.int .i64 a, .int .i64 b] w fun e w' => e = .returned (.tuple #[.int .i64 (tn (a + b)), .bool (tb (a + b))]) ∧ w = w' := by
  obtain ⟨ha1, ha2⟩ := ha
  obtain ⟨hb1, hb2⟩ := hb
  by_cases h : -9223372036854775808 ≤ a + b ∧ a + b ≤ 9223372036854775807
  · obtain ⟨h1, h2⟩ := h
    rw [tn_yes h1 h2, tb_yes h1 h2]
    by_cases hp : 0 < b
    · have t1 : decide (0 < b) = true := by simp; omega
      have t2 : decide (b < 0) = false := by simp; omega
      have t3 : decide (9223372036854775807 - b < a) = false := by simp; omega
      go_enter Tryz.func34, Tryz.ntmps34
      go_wp2
      go_ret2
      exact ⟨rfl, rfl⟩
    · by_cases hq : b < 0
      · have t1 : decide (0 < b) = false := by simp; omega
        have t2 : decide (b < 0) = true := by simp; omega
        have t3 : decide (a < -9223372036854775808 - b) = false := by simp; omega
        go_enter Tryz.func34, Tryz.ntmps34
        go_wp2
        go_ret2
        exact ⟨rfl, rfl⟩
      · have t1 : decide (0 < b) = false := by simp; omega
        have t2 : decide (b < 0) = false := by simp; omega
        go_enter Tryz.func34, Tryz.ntmps34
        go_wp2
        go_ret2
        exact ⟨rfl, rfl⟩
  · rw [tn_no h, tb_no h]
    by_cases hp : 0 < b
    · have t1 : decide (0 < b) = true := by simp; omega
      have t2 : decide (b < 0) = false := by simp; omega
      have t3 : decide (9223372036854775807 - b < a) = true := by simp; omega
      go_enter Tryz.func34, Tryz.ntmps34
      go_wp2
      go_ret2
      exact ⟨rfl, rfl⟩
    · have t1 : decide (0 < b) = false := by simp; omega
      have t2 : decide (b < 0) = true := by simp; omega
      have t3 : decide (a < -9223372036854775808 - b) = true := by simp; omega
      go_enter Tryz.func34, Tryz.ntmps34
      go_wp2
      go_ret2
      exact ⟨rfl, rfl⟩

end Go.Proofs.YtmpoloninpakbaaGreatDoor
