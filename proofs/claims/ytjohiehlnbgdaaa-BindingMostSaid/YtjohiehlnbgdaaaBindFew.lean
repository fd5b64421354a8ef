/- The laws' own few: up to 12 bindings that may be. -/
import Derived.Test.YtjohiehlnbgdaaaBindSmall
import Derived.Test.YtjohiehlnbgdaaaSlotList
namespace Go.Proofs.Ytjohiehlnbgdaaa
open Go.RowKit
set_option linter.unusedVariables false

def fewL (LL : List (List Sd)) : Bool := decide (LL.length ≤ 12) && LL.all smallL
theorem few_all {LL : List (List Sd)} (h : fewL LL = true) : LL.length ≤ 12 ∧ ∀ L ∈ LL, smallL L = true := by
  simp only [fewL, Bool.and_eq_true, decide_eq_true_eq, List.all_eq_true] at h
  exact h
theorem few_step {LL : List (List Sd)} {n : Nat} (h : n < LL.length) (H : LL.all smallL = (LL.drop n).all smallL) : LL.all smallL = (smallL (LL.getD n []) && (LL.drop (n + 1)).all smallL) := by
  rw [H, dropL_at LL n h, List.all_cons]

set_option maxHeartbeats 1000000 in
theorem few_calls (a : Option Addr) (len cap : Nat) (LL : List (List Sd)) (vs : List Value) (w : World) (hl : LIn w a len LL vs) :
    Calls Try.prog 13 #[.slice a len cap] w fun e w' => e = .returned (.bool (fewL LL)) ∧ Below w.heap.size w w' := by
  have H := Lib.hid hl
  have HL := Lib.hid hl.leng
  have hsm := hl.small
  have HC := Lib.hid (fun (x : Option Addr) (cx : Nat) (X : List Sd) w1 (hx : SIn w1 x X.length X) => small_calls x X.length cx X w1 hx)
  clear hl
  by_cases h8 : 12 < len
  · have t0 : decide ((12 : Int) < (len : Int)) = true := decide_eq_true (by omega)
    have HX : Hid (fewL LL = false) := Lib.hid (by rw [fewL, HL.out, decide_eq_false (by omega)]; rfl)
    go_enter Try.func13, Try.ntmps13
    go_wp2_with fail
    go_ret
    exact ⟨by rw [HX.out]; rfl, Below.refl _ _⟩
  have t0 : decide ((12 : Int) < (len : Int)) = false := decide_eq_false (by omega)
  have HZ : Hid (fewL LL = LL.all smallL) := Lib.hid (by rw [fewL, HL.out, decide_eq_true (by omega)]; rfl)
  go_enter Try.func13, Try.ntmps13
  go_wp2_with fail
  go_loopw [3] (fun i wr => ∃ (n : Nat), n ≤ len ∧ i = .int .i64 n ∧ Hid (LL.all smallL = (LL.drop n).all smallL) ∧ Hid (Below w.heap.size w wr)) (fun i _ => len - (intOf i).toNat)
  case atStart => exact ⟨0, Nat.zero_le _, rfl, Lib.hid rfl, Lib.hid (Below.refl _ _)⟩
  case round =>
    obtain ⟨n, hn, rfl, HX, HB⟩ := hrel
    by_cases h : n < len
    case neg =>
      obtain rfl : n = len := by omega
      have HE : Hid (fewL LL = true) := Lib.hid (by rw [HZ.out, HX.out, List.drop_eq_nil_iff.2 (by rw [HL.out]; exact Nat.le_refl _)]; rfl)
      go_wp2_with fail
      go_ret
      exact ⟨by rw [HE.out]; rfl, HB.out⟩
    case pos =>
      obtain ⟨g, off, xa, xc, rfl, hc, hx⟩ := H.out.at' HB.out h
      have HS := Lib.hid (few_step (n := n) (by rw [HL.out]; exact h) HX.out)
      generalize LL.getD n [] = X at hc hx HS
      have H1 := Lib.hid (HC.out xa xc X _ hx)
      clear hx
      cases hsx : smallL X
      · have HE : Hid (fewL LL = false) := Lib.hid (by rw [HZ.out, HS.out, hsx]; rfl)
        rw [hsx] at H1
        clear hsx
        go_wp2_with fail
        refine H1.out.mono ?_
        rintro e w1 ⟨rfl, k1⟩
        have HB1 := Lib.hid (HB.out.trans (k1.mono HB.out.size))
        clear k1
        go_wp2_with fail
        go_ret
        exact ⟨by rw [HE.out]; rfl, HB1.out⟩
      · have HE : Hid (LL.all smallL = (LL.drop (n + 1)).all smallL) := Lib.hid (by rw [HS.out, hsx]; rfl)
        rw [hsx] at H1
        clear hsx
        go_wp2_with fail
        refine H1.out.mono ?_
        rintro e w1 ⟨rfl, k1⟩
        have HB1 := Lib.hid (HB.out.trans (k1.mono HB.out.size))
        clear k1
        go_wp2_with fail
        go_roundw
        case rel => exact ⟨n + 1, by omega, by go_num, HE, HB1⟩
        case measure => simp [intOf]; omega
end Go.Proofs.Ytjohiehlnbgdaaa
