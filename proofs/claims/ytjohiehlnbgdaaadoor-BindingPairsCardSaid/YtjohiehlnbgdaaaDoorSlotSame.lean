/- What slices.Equal and binding.Same do with any two lists of slots. -/
import Derived.Test.YtjohiehlnbgdaaaDoorSlotGet
namespace Go.Proofs.YtjohiehlnbgdaaaDoor
open Go.RowKit
set_option linter.unusedVariables false

set_option maxHeartbeats 1000000 in
theorem equal_calls (a : Option Addr) (len cap : Nat) (L : List Sd) (a' : Option Addr) (len' cap' : Nat) (M : List Sd) (w : World) (hs : SIn w a len L) (hs' : SIn w a' len' M) :
    Calls Tryd.prog 30 #[.slice a len cap, .slice a' len' cap'] w fun e w' => e = .returned (.bool (decide (L = M))) ∧ Below w.heap.size w w' := by
  have H := Lib.hid hs
  have H' := Lib.hid hs'
  have HL := Lib.hid hs.leng
  have HL' := Lib.hid hs'.leng
  have hsm := hs.small
  have hsm' := hs'.small
  clear hs hs'
  by_cases hll : len = len'
  case neg =>
    have t0 : ((len : Int) != (len' : Int)) = true := by rw [bne_iff_ne]; omega
    have HX : Hid (decide (L = M) = false) := Lib.hid (decide_eq_false (fun e => hll (by rw [← HL.out, ← HL'.out, e])))
    go_enter Tryd.func30, Tryd.ntmps30
    go_wp2_with fail
    go_ret
    exact ⟨by rw [HX.out]; rfl, Below.refl _ _⟩
  subst hll
  have t0 : ((len : Int) != (len : Int)) = false := by simp
  go_enter Tryd.func30, Tryd.ntmps30
  go_wp2_with fail
  go_loopw [13] (fun i wr => ∃ (n : Nat), n ≤ len ∧ i = .int .i64 n ∧ Hid (L.take n = M.take n) ∧ Hid (Below w.heap.size w wr)) (fun i _ => len - (intOf i).toNat)
  case atStart => exact ⟨0, Nat.zero_le _, rfl, Lib.hid rfl, Lib.hid (Below.refl _ _)⟩
  case round =>
    obtain ⟨n, hn, rfl, HT, HB⟩ := hrel
    by_cases h : n < len
    case neg =>
      obtain rfl : n = len := by omega
      have HX : Hid (decide (L = M) = true) := Lib.hid (decide_eq_true (by have := HT.out; rwa [List.take_of_length_le (by rw [HL.out]; exact Nat.le_refl _), List.take_of_length_le (by rw [HL'.out]; exact Nat.le_refl _)] at this))
      go_wp2_with fail
      go_ret
      exact ⟨by rw [HX.out]; rfl, HB.out⟩
    case pos =>
      obtain ⟨g, off, rfl, hg, hc⟩ := H.out.at' HB.out h
      obtain ⟨g', off', rfl, hg', hc'⟩ := H'.out.at' HB.out h
      have HE := Lib.hid (same_take (n := n) (by rw [HL.out]; exact h) (by rw [HL'.out]; exact h) HT.out)
      have HN := Lib.hid (neq_at (L := L) (M := M) (n := n))
      generalize L.getD n default = z at hc HE HN
      generalize M.getD n default = y at hc' HE HN
      obtain ⟨c0, c1, c2, c3, c4⟩ := hc
      obtain ⟨d0, d1, d2, d3, d4⟩ := hc'
      have q1 := eqInS z y
      have q2 := guardS
      by_cases hz : z = y
      · have HX := Lib.hid (HE.out hz)
        rw [decide_eq_true hz] at q1
        clear hz
        go_wp2_with fail
        go_quiet (fail)
        go_wp2_with fail
        go_roundw
        case rel => exact ⟨n + 1, by omega, by go_num, HX, Lib.hid (below_drewN _ HB.out)⟩
        case measure => simp [intOf]; omega
      · have HX : Hid (decide (L = M) = false) := Lib.hid (decide_eq_false (HN.out hz))
        rw [decide_eq_false hz] at q1
        clear hz
        go_wp2_with fail
        go_quiet (fail)
        go_wp2_with fail
        go_ret
        exact ⟨by rw [HX.out]; rfl, below_drewN _ HB.out⟩

set_option maxHeartbeats 400000 in
theorem bSame_calls (a : Option Addr) (len cap : Nat) (L : List Sd) (a' : Option Addr) (len' cap' : Nat) (M : List Sd) (w : World) (hs : SIn w a len L) (hs' : SIn w a' len' M) :
    Calls Tryd.prog 12 #[.slice a len cap, .slice a' len' cap'] w fun e w' => e = .returned (.bool (decide (L = M))) ∧ Below w.heap.size w w' := by
  have HC := Lib.hid (equal_calls a len cap L a' len' cap' M w hs hs')
  clear hs hs'
  generalize decide (L = M) = r at HC
  go_enter Tryd.func12, Tryd.ntmps12
  go_wp2_with fail
  refine HC.out.mono ?_
  rintro e w1 ⟨rfl, k1⟩
  go_wp2_with fail
  go_ret
  exact ⟨rfl, k1⟩
end Go.Proofs.YtjohiehlnbgdaaaDoor
