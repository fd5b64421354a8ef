/- The walk of the law NumDivides: with any two int64 it answers true. -/
import Derived.Test.YtjomnmpabchikaaDoorNumText
namespace Go.Proofs.YtjomnmpabchikaaDoor.numDivides
open Go.RowKit

set_option maxHeartbeats 1000000 in
theorem walk (a b : Int) (w : World) (ha : -9223372036854775808 ≤ a ∧ a ≤ 9223372036854775807) (hb : -9223372036854775808 ≤ b ∧ b ≤ 9223372036854775807) (htab : Tab w) :
    Calls Tryd.prog 4 #[.int .i64 a, .int .i64 b] w fun e w' => e = .returned (.bool true) ∧ Below w.heap.size w w' := by
  have c1 := refDiv_calls a b w ha hb
  have c2 := fun w => div_calls a b w ha hb
  have c3 := fun w => mod_calls a b w ha hb
  have H := Lib.hid htab
  clear htab ha hb
  by_cases h0 : b = 0
  · subst h0
    rw [dn_zero, de_zero, mn_zero] at c1
    rw [dn_zero, de_zero] at c2
    rw [mn_zero, me_zero] at c3
    have H1 := Lib.hid c1
    have H2 := Lib.hid c2
    have H3 := Lib.hid c3
    clear c1 c2 c3
    go_enter Tryd.func4, Tryd.ntmps4
    go_wp2_with (first
      | (go_at_call 18; refine H1.out.mono ?_; rintro e w' ⟨rfl, n, rfl⟩)
      | (go_at_call 19; refine (H2.out _).mono ?_; rintro e w' ⟨rfl, rfl⟩)
      | (go_at_call 20; refine (H3.out _).mono ?_; rintro e w' ⟨rfl, rfl⟩)
      | (go_at_call 17; refine (awake_calls _ (tab_drewN _ H.out)).mono ?_; rintro e w' ⟨rfl, hbel⟩))
    go_ret
    exact ⟨rfl, below_from_drewN hbel⟩
  · rw [me_ne h0] at c3
    have t7 : (de a b == 7) = false := by rw [de_ne h0]; simpa using te_not7 _
    have H1 := Lib.hid c1
    have H2 := Lib.hid c2
    have H3 := Lib.hid c3
    clear c1 c2 c3 h0
    go_enter Tryd.func4, Tryd.ntmps4
    go_wp2_with (first
      | (go_at_call 18; refine H1.out.mono ?_; rintro e w' ⟨rfl, n, rfl⟩)
      | (go_at_call 19; refine (H2.out _).mono ?_; rintro e w' ⟨rfl, rfl⟩)
      | (go_at_call 20; refine (H3.out _).mono ?_; rintro e w' ⟨rfl, rfl⟩)
      | (go_at_call 17; refine (awake_calls _ (tab_drewN _ H.out)).mono ?_; rintro e w' ⟨rfl, hbel⟩))
    go_ret
    exact ⟨rfl, below_from_drewN hbel⟩
end Go.Proofs.YtjomnmpabchikaaDoor.numDivides
