/- What each function of package num and of its reference does with any numbers. -/
import Derived.Test.YtjomnmpabchikaaDoorRows
import Derived.Test.YtjomnmpabchikaaDoorNumMath
import Derived.WalkSpells
import Derived.WalkLawsBesides
import Derived.Lib.Hide
namespace Go.Proofs.YtjomnmpabchikaaDoor
open Go.RowKit

set_option maxHeartbeats 400000 in
theorem add_calls (a b : Int) (w : World) (ha : -9223372036854775808 ≤ a ∧ a ≤ 9223372036854775807) (hb : -9223372036854775808 ≤ b ∧ b ≤ 9223372036854775807) :
    Calls Tryd.prog 9 #[.int .i64 a, .int .i64 b] w fun e w' => e = .returned (.tuple #[.int .i64 (tn (a + b)), .int .i64 (te (a + b))]) ∧ w = w' := by
  obtain ⟨ha1, ha2⟩ := ha
  obtain ⟨hb1, hb2⟩ := hb
  by_cases h : -9223372036854775808 ≤ a + b ∧ a + b ≤ 9223372036854775807
  · obtain ⟨h1, h2⟩ := h
    rw [tn_yes h1 h2, te_yes h1 h2]
    by_cases hp : 0 < b
    · have t1 : decide (a < a + b) = true := by simp; omega
      have t2 : decide (0 < b) = true := by simp; omega
      go_enter Tryd.func9, Tryd.ntmps9
      go_wp2
      go_ret2
      exact ⟨rfl, rfl⟩
    · have t1 : decide (a < a + b) = false := by simp; omega
      have t2 : decide (0 < b) = false := by simp; omega
      go_enter Tryd.func9, Tryd.ntmps9
      go_wp2
      go_ret2
      exact ⟨rfl, rfl⟩
  · rw [tn_no h, te_no h]
    by_cases hp : 0 < b
    · have t1 : decide (a < wrap64 (a + b)) = false := by rw [wrap_over_up (by omega) (by omega)]; simp; omega
      have t2 : decide (0 < b) = true := by simp; omega
      clear h ha1 ha2 hb1 hb2
      go_enter Tryd.func9, Tryd.ntmps9
      go_wp2
      go_ret2
      exact ⟨rfl, rfl⟩
    · have t1 : decide (a < wrap64 (a + b)) = true := by rw [wrap_over_down (by omega) (by omega)]; simp; omega
      have t2 : decide (0 < b) = false := by simp; omega
      clear h ha1 ha2 hb1 hb2
      go_enter Tryd.func9, Tryd.ntmps9
      go_wp2
      go_ret2
      exact ⟨rfl, rfl⟩

set_option maxHeartbeats 400000 in
theorem sub_calls (a b : Int) (w : World) (ha : -9223372036854775808 ≤ a ∧ a ≤ 9223372036854775807) (hb : -9223372036854775808 ≤ b ∧ b ≤ 9223372036854775807) :
    Calls Tryd.prog 12 #[.int .i64 a, .int .i64 b] w fun e w' => e = .returned (.tuple #[.int .i64 (tn (a - b)), .int .i64 (te (a - b))]) ∧ w = w' := by
  obtain ⟨ha1, ha2⟩ := ha
  obtain ⟨hb1, hb2⟩ := hb
  by_cases h : -9223372036854775808 ≤ a - b ∧ a - b ≤ 9223372036854775807
  · obtain ⟨h1, h2⟩ := h
    rw [tn_yes h1 h2, te_yes h1 h2]
    by_cases hp : 0 < b
    · have t1 : decide (a - b < a) = true := by simp; omega
      have t2 : decide (0 < b) = true := by simp; omega
      go_enter Tryd.func12, Tryd.ntmps12
      go_wp2
      go_ret2
      exact ⟨rfl, rfl⟩
    · have t1 : decide (a - b < a) = false := by simp; omega
      have t2 : decide (0 < b) = false := by simp; omega
      go_enter Tryd.func12, Tryd.ntmps12
      go_wp2
      go_ret2
      exact ⟨rfl, rfl⟩
  · rw [tn_no h, te_no h]
    by_cases hp : 0 < b
    · have t1 : decide (wrap64 (a - b) < a) = false := by rw [wrap_over_down (by omega) (by omega)]; simp; omega
      have t2 : decide (0 < b) = true := by simp; omega
      clear h ha1 ha2 hb1 hb2
      go_enter Tryd.func12, Tryd.ntmps12
      go_wp2
      go_ret2
      exact ⟨rfl, rfl⟩
    · have t1 : decide (wrap64 (a - b) < a) = true := by rw [wrap_over_up (by omega) (by omega)]; simp; omega
      have t2 : decide (0 < b) = false := by simp; omega
      clear h ha1 ha2 hb1 hb2
      go_enter Tryd.func12, Tryd.ntmps12
      go_wp2
      go_ret2
      exact ⟨rfl, rfl⟩

set_option maxHeartbeats 400000 in
theorem neg_calls (a : Int) (w : World) (ha : -9223372036854775808 ≤ a ∧ a ≤ 9223372036854775807) :
    Calls Tryd.prog 16 #[.int .i64 a] w fun e w' => e = .returned (.tuple #[.int .i64 (tn (-a)), .int .i64 (te (-a))]) ∧ w = w' := by
  obtain ⟨ha1, ha2⟩ := ha
  by_cases h : a = -9223372036854775808
  · rw [tn_no (by omega), te_no (by omega)]
    have t : (a == -9223372036854775808) = true := by simpa using h
    clear h ha1 ha2
    go_enter Tryd.func16, Tryd.ntmps16
    go_wp2
    go_ret2
    exact ⟨rfl, rfl⟩
  · rw [tn_yes (by omega) (by omega), te_yes (by omega) (by omega)]
    have t : (a == -9223372036854775808) = false := by simpa using h
    have b1 : -9223372036854775808 ≤ -a := by omega
    have b2 : -a ≤ 9223372036854775807 := by omega
    clear h
    go_enter Tryd.func16, Tryd.ntmps16
    go_wp2
    go_ret2
    exact ⟨rfl, rfl⟩

set_option maxHeartbeats 400000 in
theorem mul_calls (a b : Int) (w : World) (ha : -9223372036854775808 ≤ a ∧ a ≤ 9223372036854775807) (hb : -9223372036854775808 ≤ b ∧ b ≤ 9223372036854775807) :
    Calls Tryd.prog 14 #[.int .i64 a, .int .i64 b] w fun e w' => e = .returned (.tuple #[.int .i64 (tn (a * b)), .int .i64 (te (a * b))]) ∧ w = w' := by
  by_cases h0 : b = 0
  · subst h0
    rw [Int.mul_zero, tn_yes (by omega) (by omega), te_yes (by omega) (by omega)]
    clear ha hb
    go_enter Tryd.func14, Tryd.ntmps14
    go_wp2
    go_ret2
    exact ⟨rfl, rfl⟩
  by_cases h1 : b = -1
  · have t : (b == 0) = false := by simpa using h0
    have t1 : (b == -1) = true := by simpa using h1
    have e : a * b = -a := by rw [h1]; omega
    rw [e]
    clear h0 h1 e hb
    go_enter Tryd.func14, Tryd.ntmps14
    go_wp2_with (go_at_call 16; refine (neg_calls a _ ha).mono ?_; rintro e w' ⟨rfl, rfl⟩)
    go_ret2
    exact ⟨rfl, rfl⟩
  have t : (b == 0) = false := by simpa using h0
  have t1 : (b == -1) = false := by simpa using h1
  by_cases h : -9223372036854775808 ≤ a * b ∧ a * b ≤ 9223372036854775807
  · have ed := tdiv_back (a := a) h0
    obtain ⟨b1, b2⟩ := h
    rw [tn_yes b1 b2, te_yes b1 b2]
    have t2 : ((a * b).tdiv b != a) = false := by simpa using ed
    have r1 : -9223372036854775808 ≤ (a * b).tdiv b := by rw [ed]; exact ha.1
    have r2 : (a * b).tdiv b ≤ 9223372036854775807 := by rw [ed]; exact ha.2
    obtain ⟨ha1, ha2⟩ := ha
    clear ed h1 hb
    go_enter Tryd.func14, Tryd.ntmps14
    go_wp2
    go_ret2
    exact ⟨rfl, rfl⟩
  · have ed := mul_over (a := a) h0 h1 hb h
    rw [tn_no h, te_no h]
    obtain ⟨k, hk, hl, hu⟩ := wrap_mul (a * b)
    clear hk
    obtain ⟨r1, r2⟩ := tdiv_fits h0 h1 ⟨hl, hu⟩
    have t2 : ((wrap64 (a * b)).tdiv b != a) = true := by simpa using ed
    clear ed h1 ha hb h
    go_enter Tryd.func14, Tryd.ntmps14
    go_wp2
    go_ret2
    exact ⟨rfl, rfl⟩
/-! ### the reference's -/
set_option maxHeartbeats 400000 in
theorem refAdd_calls (a b : Int) (w : World) (ha : -9223372036854775808 ≤ a ∧ a ≤ 9223372036854775807) (hb : -9223372036854775808 ≤ b ∧ b ≤ 9223372036854775807) :
    Calls Tryd.prog 10 #[.int .i64 a, .int .i64 b] w fun e w' => e = .returned (.tuple #[.int .i64 (tn (a + b)), .bool (tb (a + b))]) ∧ w = w' := by
  obtain ⟨ha1, ha2⟩ := ha
  obtain ⟨hb1, hb2⟩ := hb
  by_cases h : -9223372036854775808 ≤ a + b ∧ a + b ≤ 9223372036854775807
  · obtain ⟨h1, h2⟩ := h
    rw [tn_yes h1 h2, tb_yes h1 h2]
    by_cases hp : 0 < b
    · have t1 : decide (0 < b) = true := by simp; omega
      have t2 : decide (b < 0) = false := by simp; omega
      have t3 : decide (9223372036854775807 - b < a) = false := by simp; omega
      go_enter Tryd.func10, Tryd.ntmps10
      go_wp2
      go_ret2
      exact ⟨rfl, rfl⟩
    · by_cases hq : b < 0
      · have t1 : decide (0 < b) = false := by simp; omega
        have t2 : decide (b < 0) = true := by simp; omega
        have t3 : decide (a < -9223372036854775808 - b) = false := by simp; omega
        go_enter Tryd.func10, Tryd.ntmps10
        go_wp2
        go_ret2
        exact ⟨rfl, rfl⟩
      · have t1 : decide (0 < b) = false := by simp; omega
        have t2 : decide (b < 0) = false := by simp; omega
        go_enter Tryd.func10, Tryd.ntmps10
        go_wp2
        go_ret2
        exact ⟨rfl, rfl⟩
  · rw [tn_no h, tb_no h]
    by_cases hp : 0 < b
    · have t1 : decide (0 < b) = true := by simp; omega
      have t2 : decide (b < 0) = false := by simp; omega
      have t3 : decide (9223372036854775807 - b < a) = true := by simp; omega
      go_enter Tryd.func10, Tryd.ntmps10
      go_wp2
      go_ret2
      exact ⟨rfl, rfl⟩
    · have t1 : decide (0 < b) = false := by simp; omega
      have t2 : decide (b < 0) = true := by simp; omega
      have t3 : decide (a < -9223372036854775808 - b) = true := by simp; omega
      go_enter Tryd.func10, Tryd.ntmps10
      go_wp2
      go_ret2
      exact ⟨rfl, rfl⟩

set_option maxHeartbeats 400000 in
theorem refSub_calls (a b : Int) (w : World) (ha : -9223372036854775808 ≤ a ∧ a ≤ 9223372036854775807) (hb : -9223372036854775808 ≤ b ∧ b ≤ 9223372036854775807) :
    Calls Tryd.prog 13 #[.int .i64 a, .int .i64 b] w fun e w' => e = .returned (.tuple #[.int .i64 (tn (a - b)), .bool (tb (a - b))]) ∧ w = w' := by
  obtain ⟨ha1, ha2⟩ := ha
  obtain ⟨hb1, hb2⟩ := hb
  by_cases h : -9223372036854775808 ≤ a - b ∧ a - b ≤ 9223372036854775807
  · obtain ⟨h1, h2⟩ := h
    rw [tn_yes h1 h2, tb_yes h1 h2]
    by_cases hp : 0 < b
    · have t1 : decide (0 < b) = true := by simp; omega
      have t2 : decide (b < 0) = false := by simp; omega
      have t3 : decide (a < -9223372036854775808 + b) = false := by simp; omega
      go_enter Tryd.func13, Tryd.ntmps13
      go_wp2
      go_ret2
      exact ⟨rfl, rfl⟩
    · by_cases hq : b < 0
      · have t1 : decide (0 < b) = false := by simp; omega
        have t2 : decide (b < 0) = true := by simp; omega
        have t3 : decide (9223372036854775807 + b < a) = false := by simp; omega
        go_enter Tryd.func13, Tryd.ntmps13
        go_wp2
        go_ret2
        exact ⟨rfl, rfl⟩
      · have t1 : decide (0 < b) = false := by simp; omega
        have t2 : decide (b < 0) = false := by simp; omega
        go_enter Tryd.func13, Tryd.ntmps13
        go_wp2
        go_ret2
        exact ⟨rfl, rfl⟩
  · rw [tn_no h, tb_no h]
    by_cases hp : 0 < b
    · have t1 : decide (0 < b) = true := by simp; omega
      have t2 : decide (b < 0) = false := by simp; omega
      have t3 : decide (a < -9223372036854775808 + b) = true := by simp; omega
      go_enter Tryd.func13, Tryd.ntmps13
      go_wp2
      go_ret2
      exact ⟨rfl, rfl⟩
    · have t1 : decide (0 < b) = false := by simp; omega
      have t2 : decide (b < 0) = true := by simp; omega
      have t3 : decide (9223372036854775807 + b < a) = true := by simp; omega
      go_enter Tryd.func13, Tryd.ntmps13
      go_wp2
      go_ret2
      exact ⟨rfl, rfl⟩
theorem refSub0_calls (a : Int) (w : World) (ha : -9223372036854775808 ≤ a ∧ a ≤ 9223372036854775807) :
    Calls Tryd.prog 13 #[.int .i64 0, .int .i64 a] w fun e w' => e = .returned (.tuple #[.int .i64 (tn (-a)), .bool (tb (-a))]) ∧ w = w' := by
  have h := refSub_calls 0 a w ⟨by omega, by omega⟩ ha
  rwa [Int.zero_sub] at h

set_option maxHeartbeats 1000000 in
theorem refMul_calls (a b : Int) (w : World) (ha : -9223372036854775808 ≤ a ∧ a ≤ 9223372036854775807) (hb : -9223372036854775808 ≤ b ∧ b ≤ 9223372036854775807) :
    Calls Tryd.prog 15 #[.int .i64 a, .int .i64 b] w fun e w' => e = .returned (.tuple #[.int .i64 (tn (a * b)), .bool (tb (a * b))]) ∧ w = w' := by
  by_cases a0 : a = 0
  · subst a0
    rw [Int.zero_mul, tn_yes (by omega) (by omega), tb_yes (by omega) (by omega)]
    clear ha hb
    go_enter Tryd.func15, Tryd.ntmps15
    go_wp2
    go_ret2
    exact ⟨rfl, rfl⟩
  have ta0 : (a == 0) = false := by simpa using a0
  by_cases b0 : b = 0
  · subst b0
    rw [Int.mul_zero, tn_yes (by omega) (by omega), tb_yes (by omega) (by omega)]
    clear ha hb a0
    go_enter Tryd.func15, Tryd.ntmps15
    go_wp2
    go_ret2
    exact ⟨rfl, rfl⟩
  have tb0 : (b == 0) = false := by simpa using b0
  by_cases a1 : a = -1
  · subst a1
    rw [show (-1 : Int) * b = -b by omega]
    clear ha a0 b0 ta0
    go_enter Tryd.func15, Tryd.ntmps15
    go_wp2_with (go_at_call 13; refine (refSub0_calls b _ hb).mono ?_; rintro e w' ⟨rfl, rfl⟩)
    go_ret2
    exact ⟨rfl, rfl⟩
  have ta1 : (a == -1) = false := by simpa using a1
  by_cases b1 : b = -1
  · subst b1
    rw [show a * (-1 : Int) = -a by omega]
    clear hb a0 b0 tb0 a1
    go_enter Tryd.func15, Tryd.ntmps15
    go_wp2_with (go_at_call 13; refine (refSub0_calls a _ ha).mono ?_; rintro e w' ⟨rfl, rfl⟩)
    go_ret2
    exact ⟨rfl, rfl⟩
  have tb1 : (b == -1) = false := by simpa using b1
  rcases (show (0 < a ∧ 0 < b) ∨ (0 < a ∧ b < 0) ∨ (a < 0 ∧ 0 < b) ∨ (a < 0 ∧ b < 0) by omega) with ⟨sa, sb⟩ | ⟨sa, sb⟩ | ⟨sa, sb⟩ | ⟨sa, sb⟩
  · -- 0 < a, 0 < b
    have hq := pos_pos sa sb
    obtain ⟨r1, r2⟩ := tdiv_fits (p := 9223372036854775807) b0 b1 ⟨by omega, by omega⟩
    have s1 : decide (0 < a) = true := by simp; omega
    have s2 : decide (a < 0) = false := by simp; omega
    have s3 : decide (0 < b) = true := by simp; omega
    have s4 : decide (b < 0) = false := by simp; omega
    by_cases h : -9223372036854775808 ≤ a * b ∧ a * b ≤ 9223372036854775807
    · have t : decide ((9223372036854775807 : Int).tdiv b < a) = false := by rw [decide_eq_false_iff_not, hq]; exact fun x => x h
      rw [tn_yes h.1 h.2, tb_yes h.1 h.2]
      obtain ⟨p1, p2⟩ := h
      clear hq a0 b0 a1 b1 ha hb
      go_enter Tryd.func15, Tryd.ntmps15
      go_wp2
      go_ret2
      exact ⟨rfl, rfl⟩
    · have t : decide ((9223372036854775807 : Int).tdiv b < a) = true := by rw [decide_eq_true_iff, hq]; exact h
      rw [tn_no h, tb_no h]
      clear hq a0 b0 a1 b1 ha hb h
      go_enter Tryd.func15, Tryd.ntmps15
      go_wp2
      go_ret2
      exact ⟨rfl, rfl⟩
  · -- 0 < a, b < 0
    have hq := pos_neg sa sb
    obtain ⟨r1, r2⟩ := least_fits a0 a1
    have s1 : decide (0 < a) = true := by simp; omega
    have s2 : decide (a < 0) = false := by simp; omega
    have s3 : decide (0 < b) = false := by simp; omega
    have s4 : decide (b < 0) = true := by simp; omega
    by_cases h : -9223372036854775808 ≤ a * b ∧ a * b ≤ 9223372036854775807
    · have t : decide (b < -(9223372036854775808 : Int).tdiv a) = false := by rw [decide_eq_false_iff_not, hq]; exact fun x => x h
      rw [tn_yes h.1 h.2, tb_yes h.1 h.2]
      obtain ⟨p1, p2⟩ := h
      clear hq a0 b0 a1 b1 ha hb
      go_enter Tryd.func15, Tryd.ntmps15
      go_wp2
      go_ret2
      exact ⟨rfl, rfl⟩
    · have t : decide (b < -(9223372036854775808 : Int).tdiv a) = true := by rw [decide_eq_true_iff, hq]; exact h
      rw [tn_no h, tb_no h]
      clear hq a0 b0 a1 b1 ha hb h
      go_enter Tryd.func15, Tryd.ntmps15
      go_wp2
      go_ret2
      exact ⟨rfl, rfl⟩
  · -- a < 0, 0 < b
    have hq := neg_pos sa sb
    obtain ⟨r1, r2⟩ := least_fits b0 b1
    have s1 : decide (0 < a) = false := by simp; omega
    have s2 : decide (a < 0) = true := by simp; omega
    have s3 : decide (0 < b) = true := by simp; omega
    have s4 : decide (b < 0) = false := by simp; omega
    by_cases h : -9223372036854775808 ≤ a * b ∧ a * b ≤ 9223372036854775807
    · have t : decide (a < -(9223372036854775808 : Int).tdiv b) = false := by rw [decide_eq_false_iff_not, hq]; exact fun x => x h
      rw [tn_yes h.1 h.2, tb_yes h.1 h.2]
      obtain ⟨p1, p2⟩ := h
      clear hq a0 b0 a1 b1 ha hb
      go_enter Tryd.func15, Tryd.ntmps15
      go_wp2
      go_ret2
      exact ⟨rfl, rfl⟩
    · have t : decide (a < -(9223372036854775808 : Int).tdiv b) = true := by rw [decide_eq_true_iff, hq]; exact h
      rw [tn_no h, tb_no h]
      clear hq a0 b0 a1 b1 ha hb h
      go_enter Tryd.func15, Tryd.ntmps15
      go_wp2
      go_ret2
      exact ⟨rfl, rfl⟩
  · -- a < 0, b < 0
    have hq := neg_neg sa sb
    obtain ⟨r1, r2⟩ := tdiv_fits (p := 9223372036854775807) b0 b1 ⟨by omega, by omega⟩
    have s1 : decide (0 < a) = false := by simp; omega
    have s2 : decide (a < 0) = true := by simp; omega
    have s3 : decide (0 < b) = false := by simp; omega
    have s4 : decide (b < 0) = true := by simp; omega
    by_cases h : -9223372036854775808 ≤ a * b ∧ a * b ≤ 9223372036854775807
    · have t : decide (a < (9223372036854775807 : Int).tdiv b) = false := by rw [decide_eq_false_iff_not, hq]; exact fun x => x h
      rw [tn_yes h.1 h.2, tb_yes h.1 h.2]
      obtain ⟨p1, p2⟩ := h
      clear hq a0 b0 a1 b1 ha hb
      go_enter Tryd.func15, Tryd.ntmps15
      go_wp2
      go_ret2
      exact ⟨rfl, rfl⟩
    · have t : decide (a < (9223372036854775807 : Int).tdiv b) = true := by rw [decide_eq_true_iff, hq]; exact h
      rw [tn_no h, tb_no h]
      clear hq a0 b0 a1 b1 ha hb h
      go_enter Tryd.func15, Tryd.ntmps15
      go_wp2
      go_ret2
      exact ⟨rfl, rfl⟩

/-! ### the law's own helpers -/
set_option maxHeartbeats 400000 in
theorem tells_calls (n : Int) (w : World) :
    Calls Tryd.prog 11 #[.int .i64 (tn n), .int .i64 (te n), .int .i64 (tn n), .bool (tb n)] w fun e w' => e = .returned (.bool true) ∧ w = w' := by
  by_cases h : -9223372036854775808 ≤ n ∧ n ≤ 9223372036854775807
  · rw [tn_yes h.1 h.2, te_yes h.1 h.2, tb_yes h.1 h.2]
    clear h
    go_enter Tryd.func11, Tryd.ntmps11
    go_wp2
    go_ret
    exact ⟨rfl, rfl⟩
  · rw [tn_no h, te_no h, tb_no h]
    clear h
    go_enter Tryd.func11, Tryd.ntmps11
    go_wp2
    go_ret
    exact ⟨rfl, rfl⟩

end Go.Proofs.YtjomnmpabchikaaDoor
