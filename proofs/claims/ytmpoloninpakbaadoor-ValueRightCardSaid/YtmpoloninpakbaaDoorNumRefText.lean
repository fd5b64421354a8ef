/- What the reference's Text does with any int64: the number's numeral. -/
import Derived.Test.YtmpoloninpakbaaDoorNumForm
import Derived.Test.YtmpoloninpakbaaDoorBase
import Derived.Test.YtmpoloninpakbaaDoorNumMath
import Derived.RegionTactic
import Derived.Deep.QuietTactic
import Derived.BigQuiet
import Derived.IntWalk
import Derived.Lib.ItoaLen
namespace Go.Proofs.YtmpoloninpakbaaDoor
open Go.RowKit

theorem itoa_small (k : Nat) (h : k < 10) : Lib.itoa (k : Int) = [UInt8.ofNat (48 + k)] := by
  rw [Lib.itoa_nonneg, Lib.decDigits_one h]
theorem itoa_big (u : Nat) (h : ¬ u < 10) : Lib.itoa (u : Int) = Lib.itoa ((u / 10 : Nat) : Int) ++ [UInt8.ofNat (48 + u % 10)] := by
  rw [Lib.itoa_nonneg, Lib.itoa_nonneg, dec_big h]
theorem itoa_negSmall (k : Nat) (h1 : 1 ≤ k) (h : k < 10) : Lib.itoa (-(k : Int)) = [45, UInt8.ofNat (48 + k)] := by
  rw [Lib.itoa_neg k h1, Lib.decDigits_one h]
theorem itoa_negBig (u : Nat) (h : ¬ u < 10) : Lib.itoa (-(u : Int)) = Lib.itoa (-((u / 10 : Nat) : Int)) ++ [UInt8.ofNat (48 + u % 10)] := by
  rw [Lib.itoa_neg u (by omega), Lib.itoa_neg (u / 10) (by omega), dec_big h]; rfl
theorem digit_at (k : Nat) (h : k < 10) : (⟨#[48, 49, 50, 51, 52, 53, 54, 55, 56, 57]⟩ : ByteArray).extract k (k + 1) = ⟨#[UInt8.ofNat (48 + k)]⟩ := by
  rcases (show k = 0 ∨ k = 1 ∨ k = 2 ∨ k = 3 ∨ k = 4 ∨ k = 5 ∨ k = 6 ∨ k = 7 ∨ k = 8 ∨ k = 9 by omega) with h | h | h | h | h | h | h | h | h | h <;> subst h <;> decide +kernel

set_option maxHeartbeats 400000 in
theorem refTextSmall (k : Nat) (h : k < 10) (w : World) :
    Calls Tryd.prog 28 #[.int .i64 k] w fun e w' => e = .returned (.string ⟨(Lib.itoa k).toArray⟩) ∧ ∃ n, w' = w.drewN n := by
  rw [itoa_small k h]
  have HD := Lib.hid (digit_at k h)
  have t1 : decide ((0 : Int) ≤ (k : Int)) = true := by simp
  have t2 : decide ((k : Int) < 10) = true := by simp; omega
  go_enter Tryd.func28, Tryd.ntmps28
  go_wp2_with fail
  go_ret
  exact ⟨by rw [HD.out]; rfl, 0, rfl⟩

/-- The digit at k, cut out of the ten. -/
theorem slice_digit (k : Nat) (h : k < 10) (w : World) :
    (Instr.slice 9 (.string ⟨#[48, 49, 50, 51, 52, 53, 54, 55, 56, 57]⟩) (some (.int .i64 (k : Int))) (some (.int .i64 ((k : Int) + 1))) none).run Tryd.prog w = .ok (.string ⟨#[UInt8.ofNat (48 + k)]⟩) w := by
  rw [run_slice_string w 9 _ .i64 .i64 (k : Int) ((k : Int) + 1) Tryd.underlying9 (by omega) (by omega) (by show (k : Int) + 1 ≤ 10; omega)]
  rw [show ((k : Int) + 1).toNat = k + 1 by omega, Int.toNat_natCast, digit_at k h]

set_option maxHeartbeats 400000 in
theorem refTextNeg (k : Nat) (h1 : 1 ≤ k) (h : k < 10) (w : World) :
    Calls Tryd.prog 28 #[.int .i64 (-(k : Int))] w fun e w' => e = .returned (.string ⟨(Lib.itoa (-(k : Int))).toArray⟩) ∧ ∃ n, w' = w.drewN n := by
  rw [itoa_negSmall k h1 h]
  have HD := Lib.hid (digit_at k h)
  have t1 : decide ((0 : Int) ≤ -(k : Int)) = false := by simp; omega
  have t2 : decide ((10 : Int) ≤ -(k : Int)) = false := by simp; omega
  have t3 : decide ((-10 : Int) < -(k : Int)) = true := by simp; omega
  go_enter Tryd.func28, Tryd.ntmps28
  go_wp2_with fail
  go_ret
  refine ⟨ret_str ?_, 0, rfl⟩
  rw [HD.out]
  rfl


theorem append_snoc (l : List UInt8) (c : UInt8) : (⟨l.toArray⟩ : ByteArray) ++ ⟨#[c]⟩ = ⟨(l ++ [c]).toArray⟩ := by
  exact ByteArray.mk_append_mk l [c]

set_option maxHeartbeats 400000 in
theorem refTextBig (x : Int) (l : List UInt8) (q : Int) (r : Nat) (w : World) (hl : l.length ≤ 21) (hr10 : r < 10) (hx : 10 ≤ x) (hx2 : x ≤ 9223372036854775807)
    (eq : x.tdiv 10 = q) (er : x.tmod 10 = (r : Int))
    (ih : ∀ w, Calls Tryd.prog 28 #[.int .i64 q] w fun e w' => e = .returned (.string ⟨l.toArray⟩) ∧ ∃ n, w' = w.drewN n) :
    Calls Tryd.prog 28 #[.int .i64 x] w fun e w' => e = .returned (.string ⟨(l ++ [UInt8.ofNat (48 + r)]).toArray⟩) ∧ ∃ n, w' = w.drewN n := by
  have HA := Lib.hid (append_snoc l (UInt8.ofNat (48 + r)))
  have hsl := slice_digit r hr10
  obtain ⟨a, ha⟩ : ∃ a : ByteArray, a = ⟨l.toArray⟩ := ⟨_, rfl⟩
  obtain ⟨b, hb⟩ : ∃ b : ByteArray, b = ⟨#[UInt8.ofNat (48 + r)]⟩ := ⟨_, rfl⟩
  have hsz : a.size + b.size ≤ 9223372036854775807 := by rw [ha, hb]; show l.toArray.size + 1 ≤ _; rw [List.size_toArray]; omega
  rw [← ha] at ih HA
  rw [← hb] at hsl HA
  have HI := Lib.hid ih
  have t1 : decide ((0 : Int) ≤ x) = true := by simp; omega
  have t2 : decide (x < (10 : Int)) = false := by simp; omega
  have t3 : decide ((10 : Int) ≤ x) = true := by simp; omega
  have hq1 : -9223372036854775808 ≤ q ∧ q ≤ 9223372036854775807 := by
    rw [← eq, Int.tdiv_eq_ediv_of_nonneg (by omega)]; omega
  have e1 : IntKind.i64.wrap (x.tdiv 10) = q := by rw [eq]; exact IntWalk.i64_in _ hq1
  have e3 : IntKind.i64.wrap ((r : Int) + 1) = (r : Int) + 1 := IntWalk.i64_in _ (by omega)
  have hcat : ∀ w, (Op.stringOp .add a b).run Tryd.prog w = .ok (.string (a ++ b)) w := fun w => run_string_add_sum w a b hsz
  clear ha hb ih hq1 eq hx hx2 hl hr10 hsz
  go_enter Tryd.func28, Tryd.ntmps28
  go_wp2_with fail
  go_quiet ((go_at_call 28; exact Calls.quiet_of (HI.out _)))
  go_wp2_with fail
  go_ret
  exact ⟨ret_str HA.out, _, rfl⟩

set_option maxHeartbeats 400000 in
theorem refTextNegBig (x : Int) (l : List UInt8) (q : Int) (r : Nat) (w : World) (hl : l.length ≤ 21) (hr10 : r < 10) (hx : x ≤ -10) (hx2 : -9223372036854775808 ≤ x)
    (eq : x.tdiv 10 = q) (hq1 : -9223372036854775808 ≤ q ∧ q ≤ 9223372036854775807) (er : x.tmod 10 = -(r : Int))
    (ih : ∀ w, Calls Tryd.prog 28 #[.int .i64 q] w fun e w' => e = .returned (.string ⟨l.toArray⟩) ∧ ∃ n, w' = w.drewN n) :
    Calls Tryd.prog 28 #[.int .i64 x] w fun e w' => e = .returned (.string ⟨(l ++ [UInt8.ofNat (48 + r)]).toArray⟩) ∧ ∃ n, w' = w.drewN n := by
  have HA := Lib.hid (append_snoc l (UInt8.ofNat (48 + r)))
  have hsl := slice_digit r hr10
  obtain ⟨a, ha⟩ : ∃ a : ByteArray, a = ⟨l.toArray⟩ := ⟨_, rfl⟩
  obtain ⟨b, hb⟩ : ∃ b : ByteArray, b = ⟨#[UInt8.ofNat (48 + r)]⟩ := ⟨_, rfl⟩
  have hsz : a.size + b.size ≤ 9223372036854775807 := by rw [ha, hb]; show l.toArray.size + 1 ≤ _; rw [List.size_toArray]; omega
  rw [← ha] at ih HA
  rw [← hb] at hsl HA
  have HI := Lib.hid ih
  have t1 : decide ((0 : Int) ≤ x) = false := by simp; omega
  have t3 : decide ((10 : Int) ≤ x) = false := by simp; omega
  have t4 : decide ((-10 : Int) < x) = false := by simp; omega
  have e1 : IntKind.i64.wrap (x.tdiv 10) = q := by rw [eq]; exact IntWalk.i64_in _ hq1
  have e3 : IntKind.i64.wrap ((r : Int) + 1) = (r : Int) + 1 := IntWalk.i64_in _ (by omega)
  have hcat : ∀ w, (Op.stringOp .add a b).run Tryd.prog w = .ok (.string (a ++ b)) w := fun w => run_string_add_sum w a b hsz
  clear ha hb ih hq1 eq hl hsz hx hx2
  go_enter Tryd.func28, Tryd.ntmps28
  go_wp2_with fail
  go_quiet ((go_at_call 28; exact Calls.quiet_of (HI.out _)))
  go_wp2_with fail
  go_ret
  exact ⟨ret_str HA.out, _, rfl⟩

theorem refText_calls (k : Nat) : ∀ (x : Int) (w : World), x.natAbs ≤ k → -9223372036854775808 ≤ x → x ≤ 9223372036854775807 →
    Calls Tryd.prog 28 #[.int .i64 x] w fun e w' => e = .returned (.string ⟨(Lib.itoa x).toArray⟩) ∧ ∃ n, w' = w.drewN n := by
  induction k with
  | zero =>
    intro x w hk h1 h2
    obtain rfl : x = ((0 : Nat) : Int) := by omega
    exact refTextSmall 0 (by omega) w
  | succ k ih =>
    intro x w hk h1 h2
    by_cases hs : 0 ≤ x
    · obtain ⟨u, rfl⟩ := Int.eq_ofNat_of_zero_le hs
      by_cases h10 : u < 10
      · exact refTextSmall u h10 w
      · rw [itoa_big u h10]
        exact refTextBig (u : Int) _ ((u / 10 : Nat) : Int) (u % 10) w (Lib.itoa_length_le _ (by omega) (by omega)) (by omega) (by omega) h2
          (by rw [Int.tdiv_eq_ediv_of_nonneg (by omega)]; omega) (by rw [Int.tmod_eq_emod_of_nonneg (by omega)]; omega)
          (fun w => ih _ w (by omega) (by omega) (by omega))
    · obtain ⟨u, hu⟩ := Int.eq_ofNat_of_zero_le (show 0 ≤ -x by omega)
      obtain rfl : x = -(u : Int) := by omega
      by_cases h10 : u < 10
      · exact refTextNeg u (by omega) h10 w
      · rw [itoa_negBig u h10]
        exact refTextNegBig (-(u : Int)) _ (-((u / 10 : Nat) : Int)) (u % 10) w (Lib.itoa_length_le _ (by omega) (by omega)) (by omega) (by omega) h1
          (by rw [Int.neg_tdiv, Int.tdiv_eq_ediv_of_nonneg (by omega)]; omega) ⟨by omega, by omega⟩ (by rw [Int.neg_tmod, Int.tmod_eq_emod_of_nonneg (by omega)]; omega)
          (fun w => ih _ w (by omega) (by omega) (by omega))
end Go.Proofs.YtmpoloninpakbaaDoor
