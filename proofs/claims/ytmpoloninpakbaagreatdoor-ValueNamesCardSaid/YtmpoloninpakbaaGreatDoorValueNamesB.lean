/- Ways through the law ValueNames: another kind that is too high. -/
import Derived.Test.YtmpoloninpakbaaGreatDoorValueNamesBase
namespace Go.Proofs.YtmpoloninpakbaaGreatDoor.valueNames
open Go.RowKit
set_option linter.unusedVariables false

set_option maxHeartbeats 2000000 in
set_option maxRecDepth 100000 in
theorem farHa (k : Int) (n : ByteArray) (o b : Int) (w : World) (hT : ∀ w1, Calls Tryz.prog 10 #[.int .i64 o, .int .i64 k, .int .i64 b] w1 fun e w' => e = .returned (.int .i64 0) ∧ w1 = w') (hAw : Aw w) (HNE : (nameV k).toList.isEmpty = false) (t1 : decide (o < 4) = false) (t2 : decide ((16 : Int) < o) = false) (t3 : decide (b < 1) = false) (t4 : decide ((3 : Int) < b) = true) (u4 : (o != 4) = true) :
    Calls Tryz.prog 4 #[.int .i64 k, .string n, .int .i64 o, .int .i64 b] w fun e w' => e = .returned (.bool true) ∧ Below w.heap.size w w' := by
  have HKW := Lib.hid (kindWay k)
  have HNW := Lib.hid (nameWay n)
  have H1 := Lib.hid (fun w1 => vName_calls k w1)
  have H2 := Lib.hid (fun w1 => vKind_calls n w1)
  have H3 := Lib.hid (fun w1 => vBool_calls (decide (0 < b)) w1)
  have H4 := Lib.hid hT
  have HAw := Lib.hid hAw
  generalize nameV k = N at HKW H1 HNE
  generalize kindV n = K at HNW H2
  have q1 := fun w => eqIn 3 0 ⟨#[]⟩ (decide (0 < b)) 3 0 ⟨#[]⟩ (decide (0 < b)) w
  rw [(eqB_iff _ _ _ _ _ _ _ _).2 ⟨rfl, rfl, rfl, rfl⟩] at q1
  have q2 := guardV
  clear hT hAw
  go_enter Tryz.func4, Tryz.ntmps4
  go_upto_if 17 with fail
  go_cut [9] from 16 (fun s9 wx => s9 = .string N ∧ wx = w)
  case first =>
    rcases HKW.out with ⟨v1, hN⟩ | ⟨v1, v2, hN⟩ | ⟨v1, v2, v3, hN⟩ | ⟨v1, v2, v3, hN⟩
    all_goals (have HN := Lib.hid hN)
    all_goals (clear hN)
    all_goals (try simp only [v1])
    all_goals (go_wp2_with fail)
    all_goals go_meet
    all_goals first | (refine ⟨?_, rfl⟩; (rw [HN.out]); done) | exact absurd (u1.symm.trans v1) (by decide)
  case rest =>
  obtain ⟨rfl, rfl⟩ := hcut
  go_upto_if 23 with fail
  go_cut [10] from 16 (fun s10 wx => s10 = .int .i64 K ∧ wx = wc)
  case first =>
    rcases HNW.out with ⟨v1, hN⟩ | ⟨v1, v2, hN⟩ | ⟨v1, v2, v3, hN⟩ | ⟨v1, v2, v3, hN⟩
    all_goals (have HN := Lib.hid hN)
    all_goals (clear hN)
    all_goals (try simp only [v1])
    all_goals (go_wp2_with fail)
    all_goals go_meet
    all_goals exact ⟨by rw [HN.out], rfl⟩
  case rest =>
  obtain ⟨rfl, rfl⟩ := hcut
  go_wp2_with fail
  refine (H1.out _).mono ?_
  rintro e w1 ⟨rfl, rfl⟩
  go_wp2_with fail
  refine (H2.out _).mono ?_
  rintro e w1 ⟨rfl, rfl⟩
  go_wp2_with fail
  refine (H3.out _).mono ?_
  rintro e w1 ⟨rfl, k1⟩
  have HK1 := Lib.hid k1
  clear k1
  go_wp2_with fail
  refine (H4.out _).mono ?_
  rintro e w2 ⟨rfl, rfl⟩
  go_wp2_with fail
  have HK2 := Lib.hid ((HK1.out.alloc HK1.out.size (.cells #[.int .i64 k, .int .i64 0, .string ⟨#[]⟩, .bool false] 23)).alloc (by have := HK1.out.size; simp; omega) (.cells #[.int .i64 b, .int .i64 0, .string ⟨#[]⟩, .bool false] 23))
  refine (HAw.out _ HK2.out).mono ?_
  rintro e wz ⟨rfl, kk⟩
  go_wp2_with fail
  go_ret
  exact ⟨rfl, HK2.out.trans (kk.mono HK2.out.size)⟩

set_option maxHeartbeats 2000000 in
set_option maxRecDepth 100000 in
theorem farHb (k : Int) (n : ByteArray) (o b : Int) (w : World) (hT : ∀ w1, Calls Tryz.prog 10 #[.int .i64 o, .int .i64 k, .int .i64 b] w1 fun e w' => e = .returned (.int .i64 0) ∧ w1 = w') (hAw : Aw w) (HNE : (nameV k).toList.isEmpty = false) (t1 : decide (o < 4) = false) (t2 : decide ((16 : Int) < o) = false) (t3 : decide (b < 1) = false) (t4 : decide ((3 : Int) < b) = true) (u4 : (o != 4) = false) (u3 : (k != 3) = true) :
    Calls Tryz.prog 4 #[.int .i64 k, .string n, .int .i64 o, .int .i64 b] w fun e w' => e = .returned (.bool true) ∧ Below w.heap.size w w' := by
  have HKW := Lib.hid (kindWay k)
  have HNW := Lib.hid (nameWay n)
  have H1 := Lib.hid (fun w1 => vName_calls k w1)
  have H2 := Lib.hid (fun w1 => vKind_calls n w1)
  have H3 := Lib.hid (fun w1 => vBool_calls (decide (0 < b)) w1)
  have H4 := Lib.hid hT
  have HAw := Lib.hid hAw
  generalize nameV k = N at HKW H1 HNE
  generalize kindV n = K at HNW H2
  have q1 := fun w => eqIn 3 0 ⟨#[]⟩ (decide (0 < b)) 3 0 ⟨#[]⟩ (decide (0 < b)) w
  rw [(eqB_iff _ _ _ _ _ _ _ _).2 ⟨rfl, rfl, rfl, rfl⟩] at q1
  have q2 := guardV
  clear hT hAw
  go_enter Tryz.func4, Tryz.ntmps4
  go_upto_if 17 with fail
  go_cut [9] from 16 (fun s9 wx => s9 = .string N ∧ wx = w)
  case first =>
    rcases HKW.out with ⟨v1, hN⟩ | ⟨v1, v2, hN⟩ | ⟨v1, v2, v3, hN⟩ | ⟨v1, v2, v3, hN⟩
    all_goals (have HN := Lib.hid hN)
    all_goals (clear hN)
    all_goals (try simp only [v1])
    all_goals (go_wp2_with fail)
    all_goals go_meet
    all_goals first | (refine ⟨?_, rfl⟩; (rw [HN.out]); done) | exact absurd (u1.symm.trans v1) (by decide)
  case rest =>
  obtain ⟨rfl, rfl⟩ := hcut
  go_upto_if 23 with fail
  go_cut [10] from 16 (fun s10 wx => s10 = .int .i64 K ∧ wx = wc)
  case first =>
    rcases HNW.out with ⟨v1, hN⟩ | ⟨v1, v2, hN⟩ | ⟨v1, v2, v3, hN⟩ | ⟨v1, v2, v3, hN⟩
    all_goals (have HN := Lib.hid hN)
    all_goals (clear hN)
    all_goals (try simp only [v1])
    all_goals (go_wp2_with fail)
    all_goals go_meet
    all_goals exact ⟨by rw [HN.out], rfl⟩
  case rest =>
  obtain ⟨rfl, rfl⟩ := hcut
  go_wp2_with fail
  refine (H1.out _).mono ?_
  rintro e w1 ⟨rfl, rfl⟩
  go_wp2_with fail
  refine (H2.out _).mono ?_
  rintro e w1 ⟨rfl, rfl⟩
  go_wp2_with fail
  refine (H3.out _).mono ?_
  rintro e w1 ⟨rfl, k1⟩
  have HK1 := Lib.hid k1
  clear k1
  go_wp2_with fail
  refine (H4.out _).mono ?_
  rintro e w2 ⟨rfl, rfl⟩
  go_wp2_with fail
  have HK2 := Lib.hid ((HK1.out.alloc HK1.out.size (.cells #[.int .i64 k, .int .i64 0, .string ⟨#[]⟩, .bool false] 23)).alloc (by have := HK1.out.size; simp; omega) (.cells #[.int .i64 b, .int .i64 0, .string ⟨#[]⟩, .bool false] 23))
  refine (HAw.out _ HK2.out).mono ?_
  rintro e wz ⟨rfl, kk⟩
  go_wp2_with fail
  go_ret
  exact ⟨rfl, HK2.out.trans (kk.mono HK2.out.size)⟩

set_option maxHeartbeats 2000000 in
set_option maxRecDepth 100000 in
theorem farHc (k : Int) (n : ByteArray) (o b : Int) (w : World) (hT : ∀ w1, Calls Tryz.prog 10 #[.int .i64 o, .int .i64 k, .int .i64 b] w1 fun e w' => e = .returned (.int .i64 3) ∧ w1 = w') (hAw : Aw w) (HNE : (nameV k).toList.isEmpty = false) (t1 : decide (o < 4) = false) (t2 : decide ((16 : Int) < o) = false) (t3 : decide (b < 1) = false) (t4 : decide ((3 : Int) < b) = true) (u4 : (o != 4) = false) (u3 : (k != 3) = false) :
    Calls Tryz.prog 4 #[.int .i64 k, .string n, .int .i64 o, .int .i64 b] w fun e w' => e = .returned (.bool true) ∧ Below w.heap.size w w' := by
  have HKW := Lib.hid (kindWay k)
  have HNW := Lib.hid (nameWay n)
  have H1 := Lib.hid (fun w1 => vName_calls k w1)
  have H2 := Lib.hid (fun w1 => vKind_calls n w1)
  have H3 := Lib.hid (fun w1 => vBool_calls (decide (0 < b)) w1)
  have H4 := Lib.hid hT
  have HAw := Lib.hid hAw
  generalize nameV k = N at HKW H1 HNE
  generalize kindV n = K at HNW H2
  have q1 := fun w => eqIn 3 0 ⟨#[]⟩ (decide (0 < b)) 3 0 ⟨#[]⟩ (decide (0 < b)) w
  rw [(eqB_iff _ _ _ _ _ _ _ _).2 ⟨rfl, rfl, rfl, rfl⟩] at q1
  have q2 := guardV
  clear hT hAw
  go_enter Tryz.func4, Tryz.ntmps4
  go_upto_if 17 with fail
  go_cut [9] from 16 (fun s9 wx => s9 = .string N ∧ wx = w)
  case first =>
    rcases HKW.out with ⟨v1, hN⟩ | ⟨v1, v2, hN⟩ | ⟨v1, v2, v3, hN⟩ | ⟨v1, v2, v3, hN⟩
    all_goals (have HN := Lib.hid hN)
    all_goals (clear hN)
    all_goals (try simp only [v1])
    all_goals (go_wp2_with fail)
    all_goals go_meet
    all_goals first | (refine ⟨?_, rfl⟩; (rw [HN.out]); done) | exact absurd (u1.symm.trans v1) (by decide)
  case rest =>
  obtain ⟨rfl, rfl⟩ := hcut
  go_upto_if 23 with fail
  go_cut [10] from 16 (fun s10 wx => s10 = .int .i64 K ∧ wx = wc)
  case first =>
    rcases HNW.out with ⟨v1, hN⟩ | ⟨v1, v2, hN⟩ | ⟨v1, v2, v3, hN⟩ | ⟨v1, v2, v3, hN⟩
    all_goals (have HN := Lib.hid hN)
    all_goals (clear hN)
    all_goals (try simp only [v1])
    all_goals (go_wp2_with fail)
    all_goals go_meet
    all_goals exact ⟨by rw [HN.out], rfl⟩
  case rest =>
  obtain ⟨rfl, rfl⟩ := hcut
  go_wp2_with fail
  refine (H1.out _).mono ?_
  rintro e w1 ⟨rfl, rfl⟩
  go_wp2_with fail
  refine (H2.out _).mono ?_
  rintro e w1 ⟨rfl, rfl⟩
  go_wp2_with fail
  refine (H3.out _).mono ?_
  rintro e w1 ⟨rfl, k1⟩
  have HK1 := Lib.hid k1
  clear k1
  go_wp2_with fail
  refine (H4.out _).mono ?_
  rintro e w2 ⟨rfl, rfl⟩
  go_wp2_with fail
  have HK2 := Lib.hid ((HK1.out.alloc HK1.out.size (.cells #[.int .i64 k, .int .i64 0, .string ⟨#[]⟩, .bool false] 23)).alloc (by have := HK1.out.size; simp; omega) (.cells #[.int .i64 b, .int .i64 0, .string ⟨#[]⟩, .bool false] 23))
  refine (HAw.out _ HK2.out).mono ?_
  rintro e wz ⟨rfl, kk⟩
  go_wp2_with fail
  go_ret
  exact ⟨rfl, HK2.out.trans (kk.mono HK2.out.size)⟩

set_option maxHeartbeats 2000000 in
set_option maxRecDepth 100000 in
theorem farHd (k : Int) (n : ByteArray) (o b : Int) (w : World) (hT : ∀ w1, Calls Tryz.prog 10 #[.int .i64 o, .int .i64 k, .int .i64 b] w1 fun e w' => e = .returned (.int .i64 1) ∧ w1 = w') (hAw : Aw w) (HNE : (nameV k).toList.isEmpty = false) (t1 : decide (o < 4) = false) (t2 : decide ((16 : Int) < o) = false) (t3 : decide (b < 1) = false) (t4 : decide ((3 : Int) < b) = true) (u4 : (o != 4) = true) (u5 : (o == 5) = true) (u1 : (k == 1) = true) :
    Calls Tryz.prog 4 #[.int .i64 k, .string n, .int .i64 o, .int .i64 b] w fun e w' => e = .returned (.bool true) ∧ Below w.heap.size w w' := by
  have HKW := Lib.hid (kindWay k)
  have HNW := Lib.hid (nameWay n)
  have H1 := Lib.hid (fun w1 => vName_calls k w1)
  have H2 := Lib.hid (fun w1 => vKind_calls n w1)
  have H3 := Lib.hid (fun w1 => vBool_calls (decide (0 < b)) w1)
  have H4 := Lib.hid hT
  have HAw := Lib.hid hAw
  generalize nameV k = N at HKW H1 HNE
  generalize kindV n = K at HNW H2
  have q1 := fun w => eqIn 3 0 ⟨#[]⟩ (decide (0 < b)) 3 0 ⟨#[]⟩ (decide (0 < b)) w
  rw [(eqB_iff _ _ _ _ _ _ _ _).2 ⟨rfl, rfl, rfl, rfl⟩] at q1
  have q2 := guardV
  clear hT hAw
  go_enter Tryz.func4, Tryz.ntmps4
  go_upto_if 17 with fail
  go_cut [9] from 16 (fun s9 wx => s9 = .string N ∧ wx = w)
  case first =>
    rcases HKW.out with ⟨v1, hN⟩ | ⟨v1, v2, hN⟩ | ⟨v1, v2, v3, hN⟩ | ⟨v1, v2, v3, hN⟩
    all_goals (have HN := Lib.hid hN)
    all_goals (clear hN)
    all_goals (try simp only [v1])
    all_goals (go_wp2_with fail)
    all_goals go_meet
    all_goals first | (refine ⟨?_, rfl⟩; (rw [HN.out]); done) | exact absurd (u1.symm.trans v1) (by decide)
  case rest =>
  obtain ⟨rfl, rfl⟩ := hcut
  go_upto_if 23 with fail
  go_cut [10] from 16 (fun s10 wx => s10 = .int .i64 K ∧ wx = wc)
  case first =>
    rcases HNW.out with ⟨v1, hN⟩ | ⟨v1, v2, hN⟩ | ⟨v1, v2, v3, hN⟩ | ⟨v1, v2, v3, hN⟩
    all_goals (have HN := Lib.hid hN)
    all_goals (clear hN)
    all_goals (try simp only [v1])
    all_goals (go_wp2_with fail)
    all_goals go_meet
    all_goals exact ⟨by rw [HN.out], rfl⟩
  case rest =>
  obtain ⟨rfl, rfl⟩ := hcut
  go_wp2_with fail
  refine (H1.out _).mono ?_
  rintro e w1 ⟨rfl, rfl⟩
  go_wp2_with fail
  refine (H2.out _).mono ?_
  rintro e w1 ⟨rfl, rfl⟩
  go_wp2_with fail
  refine (H3.out _).mono ?_
  rintro e w1 ⟨rfl, k1⟩
  have HK1 := Lib.hid k1
  clear k1
  go_wp2_with fail
  refine (H4.out _).mono ?_
  rintro e w2 ⟨rfl, rfl⟩
  go_wp2_with fail
  have HK2 := Lib.hid ((HK1.out.alloc HK1.out.size (.cells #[.int .i64 k, .int .i64 0, .string ⟨#[]⟩, .bool false] 23)).alloc (by have := HK1.out.size; simp; omega) (.cells #[.int .i64 b, .int .i64 0, .string ⟨#[]⟩, .bool false] 23))
  refine (HAw.out _ HK2.out).mono ?_
  rintro e wz ⟨rfl, kk⟩
  go_wp2_with fail
  go_ret
  exact ⟨rfl, HK2.out.trans (kk.mono HK2.out.size)⟩

end Go.Proofs.YtmpoloninpakbaaGreatDoor.valueNames
