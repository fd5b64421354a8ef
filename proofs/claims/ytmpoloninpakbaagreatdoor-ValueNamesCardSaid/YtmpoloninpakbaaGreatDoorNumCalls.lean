/- What each function of package num does with any numbers. -/
import Derived.Test.YtmpoloninpakbaaGreatDoorBase
import Derived.Test.YtmpoloninpakbaaGreatDoorNumMath
import Derived.WalkSpells
import Derived.WalkLawsBesides
import Derived.Lib.Hide
namespace Go.Proofs.YtmpoloninpakbaaGreatDoor
open Go.RowKit

set_option maxHeartbeats 400000 in
theorem add_calls (a b : Int) (w : World) (ha : -9223372036854775808 ≤ a ∧ a ≤ 9223372036854775807) (hb : -9223372036854775808 ≤ b ∧ b ≤ 9223372036854775807) :
    Calls Tryz.prog 64 #[.int .i64 a, .int .i64 b] w fun e w' => e = .returned (.tuple #[.int .i64 (tn (a + b)), .int .i64 (te (a + b))]) ∧ w = w' := by
  obtain ⟨ha1, ha2⟩ := ha
  obtain ⟨hb1, hb2⟩ := hb
  by_cases h : -9223372036854775808 ≤ a + b ∧ a + b ≤ 9223372036854775807
  · obtain ⟨h1, h2⟩ := h
    rw [tn_yes h1 h2, te_yes h1 h2]
    by_cases hp : 0 < b
    · have t1 : decide (a < a + b) = true := by simp; omega
      have t2 : decide (0 < b) = true := by simp; omega
      go_enter Tryz.func64, Tryz.ntmps64
      go_wp2
      go_ret2
      exact ⟨rfl, rfl⟩
    · have t1 : decide (a < a + b) = false := by simp; omega
      have t2 : decide (0 < b) = false := by simp; omega
      go_enter Tryz.func64, Tryz.ntmps64
      go_wp2
      go_ret2
      exact ⟨rfl, rfl⟩
  · rw [tn_no h, te_no h]
    by_cases hp : 0 < b
    · have t1 : decide (a < wrap64 (a + b)) = false := by rw [wrap_over_up (by omega) (by omega)]; simp; omega
      have t2 : decide (0 < b) = true := by simp; omega
      clear h ha1 ha2 hb1 hb2
      go_enter Tryz.func64, Tryz.ntmps64
      go_wp2
      go_ret2
      exact ⟨rfl, rfl⟩
    · have t1 : decide (a < wrap64 (a + b)) = true := by rw [wrap_over_down (by omega) (by omega)]; simp; omega
      have t2 : decide (0 < b) = false := by simp; omega
      clear h ha1 ha2 hb1 hb2
      go_enter Tryz.func64, Tryz.ntmps64
      go_wp2
      go_ret2
      exact ⟨rfl, rfl⟩

set_option maxHeartbeats 400000 in
theorem sub_calls (a b : Int) (w : World) (ha : -9223372036854775808 ≤ a ∧ a ≤ 9223372036854775807) (hb : -9223372036854775808 ≤ b ∧ b ≤ 9223372036854775807) :
    Calls Tryz.prog 65 #[.int .i64 a, .int .i64 b] w fun e w' => e = .returned (.tuple #[.int .i64 (tn (a - b)), .int .i64 (te (a - b))]) ∧ w = w' := by
  obtain ⟨ha1, ha2⟩ := ha
  obtain ⟨hb1, hb2⟩ := hb
  by_cases h : -9223372036854775808 ≤ a - b ∧ a - b ≤ 9223372036854775807
  · obtain ⟨h1, h2⟩ := h
    rw [tn_yes h1 h2, te_yes h1 h2]
    by_cases hp : 0 < b
    · have t1 : decide (a - b < a) = true := by simp; omega
      have t2 : decide (0 < b) = true := by simp; omega
      go_enter Tryz.func65, Tryz.ntmps65
      go_wp2
      go_ret2
      exact ⟨rfl, rfl⟩
    · have t1 : decide (a - b < a) = false := by simp; omega
      have t2 : decide (0 < b) = false := by simp; omega
      go_enter Tryz.func65, Tryz.ntmps65
      go_wp2
      go_ret2
      exact ⟨rfl, rfl⟩
  · rw [tn_no h, te_no h]
    by_cases hp : 0 < b
    · have t1 : decide (wrap64 (a - b) < a) = false := by rw [wrap_over_down (by omega) (by omega)]; simp; omega
      have t2 : decide (0 < b) = true := by simp; omega
      clear h ha1 ha2 hb1 hb2
      go_enter Tryz.func65, Tryz.ntmps65
      go_wp2
      go_ret2
      exact ⟨rfl, rfl⟩
    · have t1 : decide (wrap64 (a - b) < a) = true := by rw [wrap_over_up (by omega) (by omega)]; simp; omega
      have t2 : decide (0 < b) = false := by simp; omega
      clear h ha1 ha2 hb1 hb2
      go_enter Tryz.func65, Tryz.ntmps65
      go_wp2
      go_ret2
      exact ⟨rfl, rfl⟩

set_option maxHeartbeats 400000 in
theorem neg_calls (a : Int) (w : World) (ha : -9223372036854775808 ≤ a ∧ a ≤ 9223372036854775807) :
    Calls Tryz.prog 50 #[.int .i64 a] w fun e w' => e = .returned (.tuple #[.int .i64 (tn (-a)), .int .i64 (te (-a))]) ∧ w = w' := by
  obtain ⟨ha1, ha2⟩ := ha
  by_cases h : a = -9223372036854775808
  · rw [tn_no (by omega), te_no (by omega)]
    have t : (a == -9223372036854775808) = true := by simpa using h
    clear h ha1 ha2
    go_enter Tryz.func50, Tryz.ntmps50
    go_wp2
    go_ret2
    exact ⟨rfl, rfl⟩
  · rw [tn_yes (by omega) (by omega), te_yes (by omega) (by omega)]
    have t : (a == -9223372036854775808) = false := by simpa using h
    have b1 : -9223372036854775808 ≤ -a := by omega
    have b2 : -a ≤ 9223372036854775807 := by omega
    clear h
    go_enter Tryz.func50, Tryz.ntmps50
    go_wp2
    go_ret2
    exact ⟨rfl, rfl⟩

set_option maxHeartbeats 400000 in
theorem mul_calls (a b : Int) (w : World) (ha : -9223372036854775808 ≤ a ∧ a ≤ 9223372036854775807) (hb : -9223372036854775808 ≤ b ∧ b ≤ 9223372036854775807) :
    Calls Tryz.prog 66 #[.int .i64 a, .int .i64 b] w fun e w' => e = .returned (.tuple #[.int .i64 (tn (a * b)), .int .i64 (te (a * b))]) ∧ w = w' := by
  by_cases h0 : b = 0
  · subst h0
    rw [Int.mul_zero, tn_yes (by omega) (by omega), te_yes (by omega) (by omega)]
    clear ha hb
    go_enter Tryz.func66, Tryz.ntmps66
    go_wp2
    go_ret2
    exact ⟨rfl, rfl⟩
  by_cases h1 : b = -1
  · have t : (b == 0) = false := by simpa using h0
    have t1 : (b == -1) = true := by simpa using h1
    have e : a * b = -a := by rw [h1]; omega
    rw [e]
    clear h0 h1 e hb
    go_enter Tryz.func66, Tryz.ntmps66
    go_wp2_with (go_at_call 50; refine (neg_calls a _ ha).mono ?_; rintro e w' ⟨rfl, rfl⟩)
    go_ret2
    exact ⟨rfl, rfl⟩
  have t : (b == 0) = false := by simpa using h0
  have t1 : (b == -1) = false := by simpa using h1
  by_cases h : -9223372036854775808 ≤ a * b ∧ a * b ≤ 9223372036854775807
  · have ed := tdiv_back (a := a) h0
    obtain ⟨b1, b2⟩ := h
    rw [tn_yes b1 b2, te_yes b1 b2]
    have t2 : ((a * b).tdiv b != a) = false := by simpa using ed
    have r1 : -9223372036854775808 ≤ (a * b).tdiv b := by rw [ed]; exact ha.1
    have r2 : (a * b).tdiv b ≤ 9223372036854775807 := by rw [ed]; exact ha.2
    obtain ⟨ha1, ha2⟩ := ha
    clear ed h1 hb
    go_enter Tryz.func66, Tryz.ntmps66
    go_wp2
    go_ret2
    exact ⟨rfl, rfl⟩
  · have ed := mul_over (a := a) h0 h1 hb h
    rw [tn_no h, te_no h]
    obtain ⟨k, hk, hl, hu⟩ := wrap_mul (a * b)
    clear hk
    obtain ⟨r1, r2⟩ := tdiv_fits h0 h1 ⟨hl, hu⟩
    have t2 : ((wrap64 (a * b)).tdiv b != a) = true := by simpa using ed
    clear ed h1 ha hb h
    go_enter Tryz.func66, Tryz.ntmps66
    go_wp2
    go_ret2
    exact ⟨rfl, rfl⟩

end Go.Proofs.YtmpoloninpakbaaGreatDoor
