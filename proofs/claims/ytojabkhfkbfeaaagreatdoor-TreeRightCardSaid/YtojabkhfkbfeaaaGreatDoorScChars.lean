/- What package schema says of bytes: isDigit, isLetter. -/
import Derived.Test.YtojabkhfkbfeaaaGreatDoorScMath
namespace Go.Proofs.YtojabkhfkbfeaaaGreatDoor
open Go.RowKit
set_option linter.unusedVariables false

set_option maxHeartbeats 400000 in
theorem scDigit_calls (c : UInt8) (w : World) :
    Calls Tryz.prog 129 #[.int .u8 c.toNat] w fun e w' => e = .returned (.bool (digitB c)) ∧ w = w' := by
  have HV : Hid (digitB c = (decide (48 ≤ c.toNat) && decide (c.toNat ≤ 57))) := Lib.hid rfl
  cases h1 : decide (48 ≤ c.toNat)
  all_goals cases h2 : decide (c.toNat ≤ 57)
  all_goals
    have t1 : decide ((48 : Int) ≤ (c.toNat : Int)) = _ := byteB c 48 _ h1
    have t2 : decide ((c.toNat : Int) ≤ (57 : Int)) = _ := byteT c 57 _ h2
    rw [h1, h2] at HV
    clear h1 h2
    go_enter Tryz.func129, Tryz.ntmps129
    go_wp2_with fail
    go_ret
    exact ⟨by rw [HV.out]; rfl, rfl⟩

set_option maxHeartbeats 1000000 in
theorem scLetter_calls (c : UInt8) (w : World) :
    Calls Tryz.prog 130 #[.int .u8 c.toNat] w fun e w' => e = .returned (.bool (letterB c)) ∧ w = w' := by
  have HV : Hid (letterB c = ((decide (65 ≤ c.toNat) && decide (c.toNat ≤ 90)) || (decide (97 ≤ c.toNat) && decide (c.toNat ≤ 122)))) := Lib.hid rfl
  cases h1 : decide (65 ≤ c.toNat)
  all_goals cases h2 : decide (c.toNat ≤ 90)
  all_goals cases h3 : decide (97 ≤ c.toNat)
  all_goals cases h4 : decide (c.toNat ≤ 122)
  all_goals
    have t1 : decide ((65 : Int) ≤ (c.toNat : Int)) = _ := byteB c 65 _ h1
    have t2 : decide ((c.toNat : Int) ≤ (90 : Int)) = _ := byteT c 90 _ h2
    have t3 : decide ((97 : Int) ≤ (c.toNat : Int)) = _ := byteB c 97 _ h3
    have t4 : decide ((c.toNat : Int) ≤ (122 : Int)) = _ := byteT c 122 _ h4
    rw [h1, h2, h3, h4] at HV
    clear h1 h2 h3 h4
    go_enter Tryz.func130, Tryz.ntmps130
    go_wp2_with fail
    go_ret
    exact ⟨by rw [HV.out]; rfl, rfl⟩
end Go.Proofs.YtojabkhfkbfeaaaGreatDoor
