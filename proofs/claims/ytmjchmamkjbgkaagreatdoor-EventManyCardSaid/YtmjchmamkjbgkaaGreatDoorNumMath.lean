/- Plain facts on the numbers of chapter 1: a whole number that an int64 holds is told as it is, any other by 0 and error 6. No program stands in this text. -/
import Derived.WalkKit
namespace Go.Proofs.YtmjchmamkjbgkaaGreatDoor
open Go.RowKit

/-- The number that is told: itself, or 0 where it goes over. -/
def tn (n : Int) : Int := if -9223372036854775808 ≤ n ∧ n ≤ 9223372036854775807 then n else 0
/-- The error that is told: 0, or 6 where it goes over. -/
def te (n : Int) : Int := if -9223372036854775808 ≤ n ∧ n ≤ 9223372036854775807 then 0 else 6
/-- Does it fit? -/
def tb (n : Int) : Bool := decide (-9223372036854775808 ≤ n ∧ n ≤ 9223372036854775807)

theorem tn_yes {n : Int} (h1 : -9223372036854775808 ≤ n) (h2 : n ≤ 9223372036854775807) : tn n = n := if_pos ⟨h1, h2⟩
theorem te_yes {n : Int} (h1 : -9223372036854775808 ≤ n) (h2 : n ≤ 9223372036854775807) : te n = 0 := if_pos ⟨h1, h2⟩
theorem tb_yes {n : Int} (h1 : -9223372036854775808 ≤ n) (h2 : n ≤ 9223372036854775807) : tb n = true := decide_eq_true ⟨h1, h2⟩
theorem tn_no {n : Int} (h : ¬ (-9223372036854775808 ≤ n ∧ n ≤ 9223372036854775807)) : tn n = 0 := if_neg h
theorem te_no {n : Int} (h : ¬ (-9223372036854775808 ≤ n ∧ n ≤ 9223372036854775807)) : te n = 6 := if_neg h
theorem tb_no {n : Int} (h : ¬ (-9223372036854775808 ≤ n ∧ n ≤ 9223372036854775807)) : tb n = false := decide_eq_false h
theorem tn_bounds (n : Int) : -9223372036854775808 ≤ tn n ∧ tn n ≤ 9223372036854775807 := by
  by_cases h : -9223372036854775808 ≤ n ∧ n ≤ 9223372036854775807
  · rw [tn_yes h.1 h.2]; exact h
  · rw [tn_no h]; omega
theorem wrap_over_up {n : Int} (h1 : 9223372036854775807 < n) (h2 : n ≤ 18446744073709551616) : wrap64 n = n - 18446744073709551616 := by
  unfold wrap64; omega
theorem wrap_over_down {n : Int} (h1 : n < -9223372036854775808) (h2 : -18446744073709551616 ≤ n) : wrap64 n = n + 18446744073709551616 := by
  unfold wrap64; omega

/-! ### products and quotients -/
theorem wrap_mul (n : Int) : ∃ k : Int, wrap64 n = n - k * 18446744073709551616 ∧ -9223372036854775808 ≤ wrap64 n ∧ wrap64 n ≤ 9223372036854775807 := by
  refine ⟨(n + 9223372036854775808) / 18446744073709551616, ?_, ?_, ?_⟩ <;> unfold wrap64 <;> omega
theorem wrap_in {n : Int} (h1 : -9223372036854775808 ≤ n) (h2 : n ≤ 9223372036854775807) : wrap64 n = n := by
  unfold wrap64; omega
theorem tdiv_fits {p b : Int} (h0 : b ≠ 0) (h1 : b ≠ -1) (hp : -9223372036854775808 ≤ p ∧ p ≤ 9223372036854775807) :
    -9223372036854775808 ≤ p.tdiv b ∧ p.tdiv b ≤ 9223372036854775807 := by
  have hn : (p.tdiv b).natAbs = p.natAbs / b.natAbs := Int.natAbs_tdiv p b
  by_cases hb : b = 1
  · subst hb; simpa using hp
  · have h2 : 2 ≤ b.natAbs := by omega
    have hd : p.natAbs / b.natAbs ≤ p.natAbs / 2 := Nat.div_le_div_left h2 (by omega)
    omega
theorem least_fits {b : Int} (h0 : b ≠ 0) (h1 : b ≠ -1) : -9223372036854775808 ≤ -(9223372036854775808 : Int).tdiv b ∧ -(9223372036854775808 : Int).tdiv b ≤ 9223372036854775807 := by
  have h := tdiv_fits (p := -9223372036854775808) h0 h1 ⟨by omega, by omega⟩
  rwa [show (-9223372036854775808 : Int) = -(9223372036854775808 : Int) from rfl, Int.neg_tdiv] at h
theorem tdiv_back {a b : Int} (h0 : b ≠ 0) : (a * b).tdiv b = a := Int.mul_tdiv_cancel a h0
theorem mul_over {a b : Int} (h0 : b ≠ 0) (h1 : b ≠ -1) (hb : -9223372036854775808 ≤ b ∧ b ≤ 9223372036854775807)
    (h : ¬ (-9223372036854775808 ≤ a * b ∧ a * b ≤ 9223372036854775807)) : ¬ (wrap64 (a * b)).tdiv b = a := by
  intro he
  obtain ⟨k, hk, hl, hu⟩ := wrap_mul (a * b)
  have hm := Int.mul_tdiv_add_tmod (wrap64 (a * b)) b
  rw [he, Int.mul_comm b a] at hm
  have ht : ((wrap64 (a * b)).tmod b).natAbs = (wrap64 (a * b)).natAbs % b.natAbs := Int.natAbs_tmod _ _
  have hlt : (wrap64 (a * b)).natAbs % b.natAbs < b.natAbs := Nat.mod_lt _ (by omega)
  omega
theorem pos_pos {a b : Int} (ha : 0 < a) (hb : 0 < b) : (9223372036854775807 : Int).tdiv b < a ↔ ¬ (-9223372036854775808 ≤ a * b ∧ a * b ≤ 9223372036854775807) := by
  rw [Int.tdiv_eq_ediv_of_nonneg (by omega)]
  have h := Int.le_ediv_iff_mul_le (a := a) (b := 9223372036854775807) hb
  have hp := Int.mul_pos ha hb
  omega
theorem pos_neg {a b : Int} (ha : 0 < a) (hb : b < 0) : b < -(9223372036854775808 : Int).tdiv a ↔ ¬ (-9223372036854775808 ≤ a * b ∧ a * b ≤ 9223372036854775807) := by
  rw [Int.tdiv_eq_ediv_of_nonneg (by omega)]
  have h := Int.le_ediv_iff_mul_le (a := -b) (b := 9223372036854775808) ha
  have e2 : -b * a = -(a * b) := by rw [Int.neg_mul, Int.mul_comm]
  have hp := Int.mul_pos ha (show 0 < -b by omega)
  rw [Int.mul_neg] at hp
  rw [e2] at h
  omega
theorem neg_pos {a b : Int} (ha : a < 0) (hb : 0 < b) : a < -(9223372036854775808 : Int).tdiv b ↔ ¬ (-9223372036854775808 ≤ a * b ∧ a * b ≤ 9223372036854775807) := by
  rw [Int.mul_comm]; exact pos_neg hb ha
theorem neg_neg {a b : Int} (ha : a < 0) (hb : b < 0) : a < (9223372036854775807 : Int).tdiv b ↔ ¬ (-9223372036854775808 ≤ a * b ∧ a * b ≤ 9223372036854775807) := by
  have h := pos_pos (show 0 < -a by omega) (show 0 < -b by omega)
  rw [Int.tdiv_neg, Int.neg_mul_neg] at h
  rw [← h]; omega

/-! ### quotients as they are told -/
def dn (a b : Int) : Int := if b = 0 then 0 else tn (a.tdiv b)
def de (a b : Int) : Int := if b = 0 then 7 else te (a.tdiv b)
def mn (a b : Int) : Int := if b = 0 then 0 else a.tmod b
def me (b : Int) : Int := if b = 0 then 7 else 0
theorem tdiv_m1 (a : Int) : a.tdiv (-1) = -a := by rw [Int.tdiv_neg, Int.tdiv_one]
theorem tmod_m1 (a : Int) : a.tmod (-1) = 0 := by rw [Int.tmod_neg, Int.tmod_one]
theorem tmod_fits {a b : Int} (ha : -9223372036854775808 ≤ a ∧ a ≤ 9223372036854775807) :
    -9223372036854775808 ≤ a.tmod b ∧ a.tmod b ≤ 9223372036854775807 := by
  have hn : (a.tmod b).natAbs = a.natAbs % b.natAbs := Int.natAbs_tmod a b
  have hm : a.natAbs % b.natAbs ≤ a.natAbs := Nat.mod_le _ _
  have hs : a ≤ 0 → a.tmod b ≤ 0 := fun h => by
    have h2 := Int.tmod_nonneg b (show 0 ≤ -a by omega)
    rw [Int.neg_tmod] at h2
    omega
  omega
theorem dn_zero (a : Int) : dn a 0 = 0 := if_pos rfl
theorem de_zero (a : Int) : de a 0 = 7 := if_pos rfl
theorem mn_zero (a : Int) : mn a 0 = 0 := if_pos rfl
theorem me_zero : me 0 = 7 := if_pos rfl
theorem dn_ne {a b : Int} (h : b ≠ 0) : dn a b = tn (a.tdiv b) := if_neg h
theorem de_ne {a b : Int} (h : b ≠ 0) : de a b = te (a.tdiv b) := if_neg h
theorem mn_ne {a b : Int} (h : b ≠ 0) : mn a b = a.tmod b := if_neg h
theorem me_ne {b : Int} (h : b ≠ 0) : me b = 0 := if_neg h
theorem te_not7 (n : Int) : te n ≠ 7 := by
  unfold te; split <;> omega
end Go.Proofs.YtmjchmamkjbgkaaGreatDoor
