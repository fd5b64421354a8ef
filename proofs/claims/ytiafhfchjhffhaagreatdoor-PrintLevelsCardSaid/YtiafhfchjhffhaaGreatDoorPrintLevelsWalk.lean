/- The walk of the law PrintLevels. -/
import Derived.Test.YtiafhfchjhffhaaGreatDoorPrAwake
namespace Go.Proofs.YtiafhfchjhffhaaGreatDoor.printLevels
open Go.RowKit
set_option linter.unusedVariables false

theorem lvl_out (op : Int) (h : op < 0 ∨ 18 ≤ op) : lvL op = 0 := if_neg (by omega)
set_option maxHeartbeats 8000000 in
set_option maxRecDepth 100000 in
theorem walk (op : Int) (w : World) (hT : LexT w) (het : ErrT w) (hL : Laid w) (hK : Toks w) :
    Calls Tryz.prog 6 #[.int .i64 op] w fun e w' => e = .returned (.bool true) ∧ Below w.heap.size w w' := by
  have HAw := Lib.hid (fun w1 (hb : Below w.heap.size w w1) => prAwake_calls w1 (hT.below hb) (het.below hb) (hL.below hb) (hK.below hb))
  have hB0 := Below.refl w.heap.size w
  have HB1 := Lib.hid (hB0.alloc (Nat.le_refl _) (.cells #[.int .i64 0, .int .i64 8, .int .i64 0, .int .i64 0, .int .i64 3, .int .i64 7, .int .i64 2, .int .i64 1, .int .i64 5, .int .i64 5, .int .i64 6, .int .i64 6, .int .i64 6, .int .i64 4, .int .i64 4, .int .i64 4, .int .i64 4, .int .i64 8] 3))
  have HLv := Lib.hid (fun w => level_calls op w)
  clear hT het hL hK
  by_cases hr : 0 ≤ op ∧ op < 18
  · have hc : op = 0 ∨ op = 1 ∨ op = 2 ∨ op = 3 ∨ op = 4 ∨ op = 5 ∨ op = 6 ∨ op = 7 ∨ op = 8 ∨ op = 9 ∨ op = 10 ∨ op = 11 ∨ op = 12 ∨ op = 13 ∨ op = 14 ∨ op = 15 ∨ op = 16 ∨ op = 17 := by omega
    clear hr hB0
    rcases hc with rfl | rfl | rfl | rfl | rfl | rfl | rfl | rfl | rfl | rfl | rfl | rfl | rfl | rfl | rfl | rfl | rfl | rfl
    all_goals
      go_enter Tryz.func6, Tryz.ntmps6
      go_wp2_with fail
      refine (HLv.out _).mono ?_
      rintro e w' ⟨rfl, rfl⟩
      have HX := Lib.hid (HAw.out _ HB1.out)
      go_wp2_with fail
      refine HX.out.mono ?_
      rintro e w2 ⟨rfl, k1⟩
      have HB2 := Lib.hid (HB1.out.trans (k1.mono HB1.out.size))
      clear k1
      go_wp2_with fail
      go_ret
      exact ⟨by rfl, HB2.out⟩
  · rw [lvl_out op (by omega)] at HLv
    by_cases h0 : 0 ≤ op
    · have t1 : decide ((0 : Int) ≤ op) = true := decide_eq_true h0
      have t2 : decide (op < (18 : Int)) = false := decide_eq_false (by omega)
      clear hr h0 hB0
      go_enter Tryz.func6, Tryz.ntmps6
      go_wp2_with fail
      refine (HLv.out _).mono ?_
      rintro e w' ⟨rfl, rfl⟩
      have HX := Lib.hid (HAw.out _ HB1.out)
      go_wp2_with fail
      refine HX.out.mono ?_
      rintro e w2 ⟨rfl, k1⟩
      have HB2 := Lib.hid (HB1.out.trans (k1.mono HB1.out.size))
      clear k1
      go_wp2_with fail
      go_ret
      exact ⟨by rfl, HB2.out⟩
    · have t1 : decide ((0 : Int) ≤ op) = false := decide_eq_false h0
      clear hr h0 hB0
      go_enter Tryz.func6, Tryz.ntmps6
      go_wp2_with fail
      refine (HLv.out _).mono ?_
      rintro e w' ⟨rfl, rfl⟩
      have HX := Lib.hid (HAw.out _ HB1.out)
      go_wp2_with fail
      refine HX.out.mono ?_
      rintro e w2 ⟨rfl, k1⟩
      have HB2 := Lib.hid (HB1.out.trans (k1.mono HB1.out.size))
      clear k1
      go_wp2_with fail
      go_ret
      exact ⟨by rfl, HB2.out⟩
end Go.Proofs.YtiafhfchjhffhaaGreatDoor.printLevels
