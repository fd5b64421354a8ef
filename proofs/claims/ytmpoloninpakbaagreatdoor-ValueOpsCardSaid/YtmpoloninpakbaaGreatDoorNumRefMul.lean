/- What the reference's Sub and Mul do with any numbers. -/
import Derived.Test.YtmpoloninpakbaaGreatDoorBase
import Derived.Test.YtmpoloninpakbaaGreatDoorNumMath
import Derived.WalkSpells
import Derived.WalkLawsBesides
import Derived.Lib.Hide
namespace Go.Proofs.YtmpoloninpakbaaGreatDoor
open Go.RowKit

set_option maxHeartbeats 400000 in
theorem refSub_calls (a b : Int) (w : World) (ha : -9223372036854775808 ≤ a ∧ a ≤ 9223372036854775807) (hb : -9223372036854775808 ≤ b ∧ b ≤ 9223372036854775807) :
    Calls Tryz.prog 36 #[.int .i64 a, .int .i64 b] w fun e w' => e = .returned (.tuple #[.int .i64 (tn (a - b)), .bool (tb (a - b))]) ∧ w = w' := by
  obtain ⟨ha1, ha2⟩ := ha
  obtain ⟨hb1, hb2⟩ := hb
  by_cases h : -9223372036854775808 ≤ a - b ∧ a - b ≤ 9223372036854775807
  · obtain ⟨h1, h2⟩ := h
    rw [tn_yes h1 h2, tb_yes h1 h2]
    by_cases hp : 0 < b
    · have t1 : decide (0 < b) = true := by simp; omega
      have t2 : decide (b < 0) = false := by simp; omega
      have t3 : decide (a < -9223372036854775808 + b) = false := by simp; omega
      go_enter Tryz.func36, Tryz.ntmps36
      go_wp2
      go_ret2
      exact ⟨rfl, rfl⟩
    · by_cases hq : b < 0
      · have t1 : decide (0 < b) = false := by simp; omega
        have t2 : decide (b < 0) = true := by simp; omega
        have t3 : decide (9223372036854775807 + b < a) = false := by simp; omega
        go_enter Tryz.func36, Tryz.ntmps36
        go_wp2
        go_ret2
        exact ⟨rfl, rfl⟩
      · have t1 : decide (0 < b) = false := by simp; omega
        have t2 : decide (b < 0) = false := by simp; omega
        go_enter Tryz.func36, Tryz.ntmps36
        go_wp2
        go_ret2
        exact ⟨rfl, rfl⟩
  · rw [tn_no h, tb_no h]
    by_cases hp : 0 < b
    · have t1 : decide (0 < b) = true := by simp; omega
      have t2 : decide (b < 0) = false := by simp; omega
      have t3 : decide (a < -9223372036854775808 + b) = true := by simp; omega
      go_enter Tryz.func36, Tryz.ntmps36
      go_wp2
      go_ret2
      exact ⟨rfl, rfl⟩
    · have t1 : decide (0 < b) = false := by simp; omega
      have t2 : decide (b < 0) = true := by simp; omega
      have t3 : decide (9223372036854775807 + b < a) = true := by simp; omega
      go_enter Tryz.func36, Tryz.ntmps36
      go_wp2
      go_ret2
      exact ⟨rfl, rfl⟩
theorem refSub0_calls (a : Int) (w : World) (ha : -9223372036854775808 ≤ a ∧ a ≤ 9223372036854775807) :
    Calls Tryz.prog 36 #[.int .i64 0, .int .i64 a] w fun e w' => e = .returned (.tuple #[.int .i64 (tn (-a)), .bool (tb (-a))]) ∧ w = w' := by
  have h := refSub_calls 0 a w ⟨by omega, by omega⟩ ha
  rwa [Int.zero_sub] at h

set_option maxHeartbeats 1000000 in
theorem refMul_calls (a b : Int) (w : World) (ha : -9223372036854775808 ≤ a ∧ a ≤ 9223372036854775807) (hb : -9223372036854775808 ≤ b ∧ b ≤ 9223372036854775807) :
    Calls Tryz.prog 37 #[.int .i64 a, .int .i64 b] w fun e w' => e = .returned (.tuple #[.int .i64 (tn (a * b)), .bool (tb (a * b))]) ∧ w = w' := by
  by_cases a0 : a = 0
  · subst a0
    rw [Int.zero_mul, tn_yes (by omega) (by omega), tb_yes (by omega) (by omega)]
    clear ha hb
    go_enter Tryz.func37, Tryz.ntmps37
    go_wp2
    go_ret2
    exact ⟨rfl, rfl⟩
  have ta0 : (a == 0) = false := by simpa using a0
  by_cases b0 : b = 0
  · subst b0
    rw [Int.mul_zero, tn_yes (by omega) (by omega), tb_yes (by omega) (by omega)]
    clear ha hb a0
    go_enter Tryz.func37, Tryz.ntmps37
    go_wp2
    go_ret2
    exact ⟨rfl, rfl⟩
  have tb0 : (b == 0) = false := by simpa using b0
  by_cases a1 : a = -1
  · subst a1
    rw [show (-1 : Int) * b = -b by omega]
    clear ha a0 b0 ta0
    go_enter Tryz.func37, Tryz.ntmps37
    go_wp2_with (go_at_call 36; refine (refSub0_calls b _ hb).mono ?_; rintro e w' ⟨rfl, rfl⟩)
    go_ret2
    exact ⟨rfl, rfl⟩
  have ta1 : (a == -1) = false := by simpa using a1
  by_cases b1 : b = -1
  · subst b1
    rw [show a * (-1 : Int) = -a by omega]
    clear hb a0 b0 tb0 a1
    go_enter Tryz.func37, Tryz.ntmps37
    go_wp2_with (go_at_call 36; refine (refSub0_calls a _ ha).mono ?_; rintro e w' ⟨rfl, rfl⟩)
    go_ret2
    exact ⟨rfl, rfl⟩
  have tb1 : (b == -1) = false := by simpa using b1
  rcases (show (0 < a ∧ 0 < b) ∨ (0 < a ∧ b < 0) ∨ (a < 0 ∧ 0 < b) ∨ (a < 0 ∧ b < 0) by omega) with ⟨sa, sb⟩ | ⟨sa, sb⟩ | ⟨sa, sb⟩ | ⟨sa, sb⟩
  · -- 0 < a, 0 < b
    have hq := pos_pos sa sb
    obtain ⟨r1, r2⟩ := tdiv_fits (p := 9223372036854775807) b0 b1 ⟨by omega, by omega⟩
    have s1 : decide (0 < a) = true := by simp; omega
    have s2 : decide (a < 0) = false := by simp; omega
    have s3 : decide (0 < b) = true := by simp; omega
    have s4 : decide (b < 0) = false := by simp; omega
    by_cases h : -9223372036854775808 ≤ a * b ∧ a * b ≤ 9223372036854775807
    · have t : decide ((9223372036854775807 : Int).tdiv b < a) = false := by rw [decide_eq_false_iff_not, hq]; exact fun x => x h
      rw [tn_yes h.1 h.2, tb_yes h.1 h.2]
      obtain ⟨p1, p2⟩ := h
      clear hq a0 b0 a1 b1 ha hb
      go_enter Tryz.func37, Tryz.ntmps37
      go_wp2
      go_ret2
      exact ⟨rfl, rfl⟩
    · have t : decide ((9223372036854775807 : Int).tdiv b < a) = true := by rw [decide_eq_true_iff, hq]; exact h
      rw [tn_no h, tb_no h]
      clear hq a0 b0 a1 b1 ha hb h
      go_enter Tryz.func37, Tryz.ntmps37
      go_wp2
      go_ret2
      exact ⟨rfl, rfl⟩
  · -- 0 < a, b < 0
    have hq := pos_neg sa sb
    obtain ⟨r1, r2⟩ := least_fits a0 a1
    have s1 : decide (0 < a) = true := by simp; omega
    have s2 : decide (a < 0) = false := by simp; omega
    have s3 : decide (0 < b) = false := by simp; omega
    have s4 : decide (b < 0) = true := by simp; omega
    by_cases h : -9223372036854775808 ≤ a * b ∧ a * b ≤ 9223372036854775807
    · have t : decide (b < -(9223372036854775808 : Int).tdiv a) = false := by rw [decide_eq_false_iff_not, hq]; exact fun x => x h
      rw [tn_yes h.1 h.2, tb_yes h.1 h.2]
      obtain ⟨p1, p2⟩ := h
      clear hq a0 b0 a1 b1 ha hb
      go_enter Tryz.func37, Tryz.ntmps37
      go_wp2
      go_ret2
      exact ⟨rfl, rfl⟩
    · have t : decide (b < -(9223372036854775808 : Int).tdiv a) = true := by rw [decide_eq_true_iff, hq]; exact h
      rw [tn_no h, tb_no h]
      clear hq a0 b0 a1 b1 ha hb h
      go_enter Tryz.func37, Tryz.ntmps37
      go_wp2
      go_ret2
      exact ⟨rfl, rfl⟩
  · -- a < 0, 0 < b
    have hq := neg_pos sa sb
    obtain ⟨r1, r2⟩ := least_fits b0 b1
    have s1 : decide (0 < a) = false := by simp; omega
    have s2 : decide (a < 0) = true := by simp; omega
    have s3 : decide (0 < b) = true := by simp; omega
    have s4 : decide (b < 0) = false := by simp; omega
    by_cases h : -9223372036854775808 ≤ a * b ∧ a * b ≤ 9223372036854775807
    · have t : decide (a < -(9223372036854775808 : Int).tdiv b) = false := by rw [decide_eq_false_iff_not, hq]; exact fun x => x h
      rw [tn_yes h.1 h.2, tb_yes h.1 h.2]
      obtain ⟨p1, p2⟩ := h
      clear hq a0 b0 a1 b1 ha hb
      go_enter Tryz.func37, Tryz.ntmps37
      go_wp2
      go_ret2
      exact ⟨rfl, rfl⟩
    · have t : decide (a < -(9223372036854775808 : Int).tdiv b) = true := by rw [decide_eq_true_iff, hq]; exact h
      rw [tn_no h, tb_no h]
      clear hq a0 b0 a1 b1 ha hb h
      go_enter Tryz.func37, Tryz.ntmps37
      go_wp2
      go_ret2
      exact ⟨rfl, rfl⟩
  · -- a < 0, b < 0
    have hq := neg_neg sa sb
    obtain ⟨r1, r2⟩ := tdiv_fits (p := 9223372036854775807) b0 b1 ⟨by omega, by omega⟩
    have s1 : decide (0 < a) = false := by simp; omega
    have s2 : decide (a < 0) = true := by simp; omega
    have s3 : decide (0 < b) = false := by simp; omega
    have s4 : decide (b < 0) = true := by simp; omega
    by_cases h : -9223372036854775808 ≤ a * b ∧ a * b ≤ 9223372036854775807
    · have t : decide (a < (9223372036854775807 : Int).tdiv b) = false := by rw [decide_eq_false_iff_not, hq]; exact fun x => x h
      rw [tn_yes h.1 h.2, tb_yes h.1 h.2]
      obtain ⟨p1, p2⟩ := h
      clear hq a0 b0 a1 b1 ha hb
      go_enter Tryz.func37, Tryz.ntmps37
      go_wp2
      go_ret2
      exact ⟨rfl, rfl⟩
    · have t : decide (a < (9223372036854775807 : Int).tdiv b) = true := by rw [decide_eq_true_iff, hq]; exact h
      rw [tn_no h, tb_no h]
      clear hq a0 b0 a1 b1 ha hb h
      go_enter Tryz.func37, Tryz.ntmps37
      go_wp2
      go_ret2
      exact ⟨rfl, rfl⟩

end Go.Proofs.YtmpoloninpakbaaGreatDoor
