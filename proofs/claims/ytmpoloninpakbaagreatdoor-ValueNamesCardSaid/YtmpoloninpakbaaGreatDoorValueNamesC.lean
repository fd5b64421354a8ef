/- Ways through the law ValueNames: two kinds. -/
import Derived.Test.YtmpoloninpakbaaGreatDoorValueNamesBase
namespace Go.Proofs.YtmpoloninpakbaaGreatDoor.valueNames
open Go.RowKit
set_option linter.unusedVariables false

set_option maxHeartbeats 2000000 in
set_option maxRecDepth 100000 in
theorem near8 (k : Int) (n : ByteArray) (o b : Int) (w : World) (qk qi : Int) (qs : ByteArray) (qb : Bool) (qe ty : Int)  (hT : ∀ w1, Calls Tryz.prog 10 #[.int .i64 o, .int .i64 k, .int .i64 b] w1 fun e w' => e = .returned (.int .i64 ty) ∧ w1 = w') (hAw : Aw w) (HNE : (nameV k).toList.isEmpty = false) (hro : ∀ w1, Calls Tryz.prog 9 #[.int .i64 o, .agg #[.int .i64 k, .int .i64 0, .string ⟨#[]⟩, .bool false], .agg #[.int .i64 b, .int .i64 0, .string ⟨#[]⟩, .bool false]] w1 fun e w' => e = .returned (.tuple #[.agg #[.int .i64 qk, .int .i64 qi, .string qs, .bool qb], .int .i64 qe]) ∧ Below w1.heap.size w1 w') (t1 : decide (o < 4) = false) (t2 : decide ((16 : Int) < o) = false) (t3 : decide (b < 1) = false) (t4 : decide ((3 : Int) < b) = false) (v8 : (qe == 8) = true) (v0 : (ty == 0) = true) (v1 : (qe != 0) = true) :
    Calls Tryz.prog 4 #[.int .i64 k, .string n, .int .i64 o, .int .i64 b] w fun e w' => e = .returned (.bool true) ∧ Below w.heap.size w w' := by
  have H5 := Lib.hid hro
  clear hro
  have HKW := Lib.hid (kindWay k)
  have HNW := Lib.hid (nameWay n)
  have H1 := Lib.hid (fun w1 => vName_calls k w1)
  have H2 := Lib.hid (fun w1 => vKind_calls n w1)
  have H3 := Lib.hid (fun w1 => vBool_calls (decide (0 < b)) w1)
  have H4 := Lib.hid hT
  have HAw := Lib.hid hAw
  generalize nameV k = N at HKW H1 HNE
  generalize kindV n = K at HNW H2
  have q1 := fun w => eqIn 3 0 ⟨#[]⟩ (decide (0 < b)) 3 0 ⟨#[]⟩ (decide (0 < b)) w
  rw [(eqB_iff _ _ _ _ _ _ _ _).2 ⟨rfl, rfl, rfl, rfl⟩] at q1
  have q2 := guardV
  clear hT hAw
  go_enter Tryz.func4, Tryz.ntmps4
  go_upto_if 17 with fail
  go_cut [9] from 16 (fun s9 wx => s9 = .string N ∧ wx = w)
  case first =>
    rcases HKW.out with ⟨v1, hN⟩ | ⟨v1, v2, hN⟩ | ⟨v1, v2, v3, hN⟩ | ⟨v1, v2, v3, hN⟩
    all_goals (have HN := Lib.hid hN)
    all_goals (clear hN)
    all_goals (try simp only [v1])
    all_goals (go_wp2_with fail)
    all_goals go_meet
    all_goals first | (refine ⟨?_, rfl⟩; (rw [HN.out]); done) | exact absurd (u1.symm.trans v1) (by decide)
  case rest =>
  obtain ⟨rfl, rfl⟩ := hcut
  go_upto_if 23 with fail
  go_cut [10] from 16 (fun s10 wx => s10 = .int .i64 K ∧ wx = wc)
  case first =>
    rcases HNW.out with ⟨v1, hN⟩ | ⟨v1, v2, hN⟩ | ⟨v1, v2, v3, hN⟩ | ⟨v1, v2, v3, hN⟩
    all_goals (have HN := Lib.hid hN)
    all_goals (clear hN)
    all_goals (try simp only [v1])
    all_goals (go_wp2_with fail)
    all_goals go_meet
    all_goals exact ⟨by rw [HN.out], rfl⟩
  case rest =>
  obtain ⟨rfl, rfl⟩ := hcut
  go_wp2_with fail
  refine (H1.out _).mono ?_
  rintro e w1 ⟨rfl, rfl⟩
  go_wp2_with fail
  refine (H2.out _).mono ?_
  rintro e w1 ⟨rfl, rfl⟩
  go_wp2_with fail
  refine (H3.out _).mono ?_
  rintro e w1 ⟨rfl, k1⟩
  have HK1 := Lib.hid k1
  clear k1
  go_wp2_with fail
  refine (H4.out _).mono ?_
  rintro e w2 ⟨rfl, rfl⟩
  go_wp2_with fail
  refine (H5.out _).mono ?_
  rintro e w3 ⟨rfl, kk⟩
  have HK2 := (HK1.out.alloc HK1.out.size (.cells #[.int .i64 k, .int .i64 0, .string ⟨#[]⟩, .bool false] 23)).alloc (by have := HK1.out.size; simp; omega) (.cells #[.int .i64 b, .int .i64 0, .string ⟨#[]⟩, .bool false] 23)
  have HK3 := Lib.hid ((HK2.trans (kk.mono HK2.size)).alloc (HK2.trans (kk.mono HK2.size)).size (.cells #[.int .i64 qk, .int .i64 qi, .string qs, .bool qb] 23))
  clear kk HK2
  go_wp2_with fail
  refine (HAw.out _ HK3.out).mono ?_
  rintro e wz ⟨rfl, kk⟩
  go_wp2_with fail
  go_ret
  exact ⟨rfl, HK3.out.trans (kk.mono HK3.out.size)⟩

set_option maxHeartbeats 2000000 in
set_option maxRecDepth 100000 in
theorem nearE (k : Int) (n : ByteArray) (o b : Int) (w : World) (qk qi : Int) (qs : ByteArray) (qb : Bool) (qe ty : Int)  (hT : ∀ w1, Calls Tryz.prog 10 #[.int .i64 o, .int .i64 k, .int .i64 b] w1 fun e w' => e = .returned (.int .i64 ty) ∧ w1 = w') (hAw : Aw w) (HNE : (nameV k).toList.isEmpty = false) (hro : ∀ w1, Calls Tryz.prog 9 #[.int .i64 o, .agg #[.int .i64 k, .int .i64 0, .string ⟨#[]⟩, .bool false], .agg #[.int .i64 b, .int .i64 0, .string ⟨#[]⟩, .bool false]] w1 fun e w' => e = .returned (.tuple #[.agg #[.int .i64 qk, .int .i64 qi, .string qs, .bool qb], .int .i64 qe]) ∧ Below w1.heap.size w1 w') (t1 : decide (o < 4) = false) (t2 : decide ((16 : Int) < o) = false) (t3 : decide (b < 1) = false) (t4 : decide ((3 : Int) < b) = false) (v8 : (qe == 8) = false) (v0 : (ty == 0) = false) (v1 : (qe != 0) = true) :
    Calls Tryz.prog 4 #[.int .i64 k, .string n, .int .i64 o, .int .i64 b] w fun e w' => e = .returned (.bool true) ∧ Below w.heap.size w w' := by
  have H5 := Lib.hid hro
  clear hro
  have HKW := Lib.hid (kindWay k)
  have HNW := Lib.hid (nameWay n)
  have H1 := Lib.hid (fun w1 => vName_calls k w1)
  have H2 := Lib.hid (fun w1 => vKind_calls n w1)
  have H3 := Lib.hid (fun w1 => vBool_calls (decide (0 < b)) w1)
  have H4 := Lib.hid hT
  have HAw := Lib.hid hAw
  generalize nameV k = N at HKW H1 HNE
  generalize kindV n = K at HNW H2
  have q1 := fun w => eqIn 3 0 ⟨#[]⟩ (decide (0 < b)) 3 0 ⟨#[]⟩ (decide (0 < b)) w
  rw [(eqB_iff _ _ _ _ _ _ _ _).2 ⟨rfl, rfl, rfl, rfl⟩] at q1
  have q2 := guardV
  clear hT hAw
  go_enter Tryz.func4, Tryz.ntmps4
  go_upto_if 17 with fail
  go_cut [9] from 16 (fun s9 wx => s9 = .string N ∧ wx = w)
  case first =>
    rcases HKW.out with ⟨v1, hN⟩ | ⟨v1, v2, hN⟩ | ⟨v1, v2, v3, hN⟩ | ⟨v1, v2, v3, hN⟩
    all_goals (have HN := Lib.hid hN)
    all_goals (clear hN)
    all_goals (try simp only [v1])
    all_goals (go_wp2_with fail)
    all_goals go_meet
    all_goals first | (refine ⟨?_, rfl⟩; (rw [HN.out]); done) | exact absurd (u1.symm.trans v1) (by decide)
  case rest =>
  obtain ⟨rfl, rfl⟩ := hcut
  go_upto_if 23 with fail
  go_cut [10] from 16 (fun s10 wx => s10 = .int .i64 K ∧ wx = wc)
  case first =>
    rcases HNW.out with ⟨v1, hN⟩ | ⟨v1, v2, hN⟩ | ⟨v1, v2, v3, hN⟩ | ⟨v1, v2, v3, hN⟩
    all_goals (have HN := Lib.hid hN)
    all_goals (clear hN)
    all_goals (try simp only [v1])
    all_goals (go_wp2_with fail)
    all_goals go_meet
    all_goals exact ⟨by rw [HN.out], rfl⟩
  case rest =>
  obtain ⟨rfl, rfl⟩ := hcut
  go_wp2_with fail
  refine (H1.out _).mono ?_
  rintro e w1 ⟨rfl, rfl⟩
  go_wp2_with fail
  refine (H2.out _).mono ?_
  rintro e w1 ⟨rfl, rfl⟩
  go_wp2_with fail
  refine (H3.out _).mono ?_
  rintro e w1 ⟨rfl, k1⟩
  have HK1 := Lib.hid k1
  clear k1
  go_wp2_with fail
  refine (H4.out _).mono ?_
  rintro e w2 ⟨rfl, rfl⟩
  go_wp2_with fail
  refine (H5.out _).mono ?_
  rintro e w3 ⟨rfl, kk⟩
  have HK2 := (HK1.out.alloc HK1.out.size (.cells #[.int .i64 k, .int .i64 0, .string ⟨#[]⟩, .bool false] 23)).alloc (by have := HK1.out.size; simp; omega) (.cells #[.int .i64 b, .int .i64 0, .string ⟨#[]⟩, .bool false] 23)
  have HK3 := Lib.hid ((HK2.trans (kk.mono HK2.size)).alloc (HK2.trans (kk.mono HK2.size)).size (.cells #[.int .i64 qk, .int .i64 qi, .string qs, .bool qb] 23))
  clear kk HK2
  go_wp2_with fail
  refine (HAw.out _ HK3.out).mono ?_
  rintro e wz ⟨rfl, kk⟩
  go_wp2_with fail
  go_ret
  exact ⟨rfl, HK3.out.trans (kk.mono HK3.out.size)⟩

set_option maxHeartbeats 2000000 in
set_option maxRecDepth 100000 in
theorem nearK (k : Int) (n : ByteArray) (o b : Int) (w : World) (qk qi : Int) (qs : ByteArray) (qb : Bool) (qe ty : Int)  (hT : ∀ w1, Calls Tryz.prog 10 #[.int .i64 o, .int .i64 k, .int .i64 b] w1 fun e w' => e = .returned (.int .i64 ty) ∧ w1 = w') (hAw : Aw w) (HNE : (nameV k).toList.isEmpty = false) (hro : ∀ w1, Calls Tryz.prog 9 #[.int .i64 o, .agg #[.int .i64 k, .int .i64 0, .string ⟨#[]⟩, .bool false], .agg #[.int .i64 b, .int .i64 0, .string ⟨#[]⟩, .bool false]] w1 fun e w' => e = .returned (.tuple #[.agg #[.int .i64 qk, .int .i64 qi, .string qs, .bool qb], .int .i64 qe]) ∧ Below w1.heap.size w1 w') (t1 : decide (o < 4) = false) (t2 : decide ((16 : Int) < o) = false) (t3 : decide (b < 1) = false) (t4 : decide ((3 : Int) < b) = false) (v8 : (qe == 8) = false) (v0 : (ty == 0) = false) (v1 : (qe != 0) = false) (v2 : (qk == ty) = true) :
    Calls Tryz.prog 4 #[.int .i64 k, .string n, .int .i64 o, .int .i64 b] w fun e w' => e = .returned (.bool true) ∧ Below w.heap.size w w' := by
  have H5 := Lib.hid hro
  clear hro
  have HKW := Lib.hid (kindWay k)
  have HNW := Lib.hid (nameWay n)
  have H1 := Lib.hid (fun w1 => vName_calls k w1)
  have H2 := Lib.hid (fun w1 => vKind_calls n w1)
  have H3 := Lib.hid (fun w1 => vBool_calls (decide (0 < b)) w1)
  have H4 := Lib.hid hT
  have HAw := Lib.hid hAw
  generalize nameV k = N at HKW H1 HNE
  generalize kindV n = K at HNW H2
  have q1 := fun w => eqIn 3 0 ⟨#[]⟩ (decide (0 < b)) 3 0 ⟨#[]⟩ (decide (0 < b)) w
  rw [(eqB_iff _ _ _ _ _ _ _ _).2 ⟨rfl, rfl, rfl, rfl⟩] at q1
  have q2 := guardV
  clear hT hAw
  go_enter Tryz.func4, Tryz.ntmps4
  go_upto_if 17 with fail
  go_cut [9] from 16 (fun s9 wx => s9 = .string N ∧ wx = w)
  case first =>
    rcases HKW.out with ⟨v1, hN⟩ | ⟨v1, v2, hN⟩ | ⟨v1, v2, v3, hN⟩ | ⟨v1, v2, v3, hN⟩
    all_goals (have HN := Lib.hid hN)
    all_goals (clear hN)
    all_goals (try simp only [v1])
    all_goals (go_wp2_with fail)
    all_goals go_meet
    all_goals first | (refine ⟨?_, rfl⟩; (rw [HN.out]); done) | exact absurd (u1.symm.trans v1) (by decide)
  case rest =>
  obtain ⟨rfl, rfl⟩ := hcut
  go_upto_if 23 with fail
  go_cut [10] from 16 (fun s10 wx => s10 = .int .i64 K ∧ wx = wc)
  case first =>
    rcases HNW.out with ⟨v1, hN⟩ | ⟨v1, v2, hN⟩ | ⟨v1, v2, v3, hN⟩ | ⟨v1, v2, v3, hN⟩
    all_goals (have HN := Lib.hid hN)
    all_goals (clear hN)
    all_goals (try simp only [v1])
    all_goals (go_wp2_with fail)
    all_goals go_meet
    all_goals exact ⟨by rw [HN.out], rfl⟩
  case rest =>
  obtain ⟨rfl, rfl⟩ := hcut
  go_wp2_with fail
  refine (H1.out _).mono ?_
  rintro e w1 ⟨rfl, rfl⟩
  go_wp2_with fail
  refine (H2.out _).mono ?_
  rintro e w1 ⟨rfl, rfl⟩
  go_wp2_with fail
  refine (H3.out _).mono ?_
  rintro e w1 ⟨rfl, k1⟩
  have HK1 := Lib.hid k1
  clear k1
  go_wp2_with fail
  refine (H4.out _).mono ?_
  rintro e w2 ⟨rfl, rfl⟩
  go_wp2_with fail
  refine (H5.out _).mono ?_
  rintro e w3 ⟨rfl, kk⟩
  have HK2 := (HK1.out.alloc HK1.out.size (.cells #[.int .i64 k, .int .i64 0, .string ⟨#[]⟩, .bool false] 23)).alloc (by have := HK1.out.size; simp; omega) (.cells #[.int .i64 b, .int .i64 0, .string ⟨#[]⟩, .bool false] 23)
  have HK3 := Lib.hid ((HK2.trans (kk.mono HK2.size)).alloc (HK2.trans (kk.mono HK2.size)).size (.cells #[.int .i64 qk, .int .i64 qi, .string qs, .bool qb] 23))
  clear kk HK2
  go_wp2_with fail
  refine (HAw.out _ HK3.out).mono ?_
  rintro e wz ⟨rfl, kk⟩
  go_wp2_with fail
  go_ret
  exact ⟨rfl, HK3.out.trans (kk.mono HK3.out.size)⟩
end Go.Proofs.YtmpoloninpakbaaGreatDoor.valueNames
