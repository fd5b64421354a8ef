/- The walk of the law ValueRight: with any value it answers true. -/
import Derived.Test.YtmpoloninpakbaaDoorValAwake
import Derived.Test.YtmpoloninpakbaaDoorValRefText
namespace Go.Proofs.YtmpoloninpakbaaDoor.valueRight
open Go.RowKit
set_option linter.unusedVariables false

theorem text_len {k i : Int} {s : ByteArray} {b : Bool} (hi : -9223372036854775808 ≤ i ∧ i ≤ 9223372036854775807) (h : rightB k i s b = true) : (valText k i s b).length ≤ 20000 := by
  rcases right_kind h with rfl | rfl | rfl
  · rw [valText1 h]
    have := Lib.itoa_length_le i hi.1 hi.2
    omega
  · rw [valText2 h, quote_len]
    have h1 := (body_len s.data.toList).2
    have h2 := right2_size h
    rw [ba_size] at h2
    omega
  · rw [valText3 h]
    cases b <;> simp [tru, fls]

set_option maxHeartbeats 2000000 in
set_option maxRecDepth 100000 in
theorem walk (k i : Int) (s : ByteArray) (b : Bool) (w : World) (hi : -9223372036854775808 ≤ i ∧ i ≤ 9223372036854775807) (hs : s.size ≤ maxLen) (hL : Laid w) :
    Calls Tryd.prog 3 #[.agg #[.int .i64 k, .int .i64 i, .string s, .bool b]] w fun e w' => e = .returned (.bool true) ∧ Below w.heap.size w w' := by
  unfold maxLen at hs
  have HK0 := Lib.hid ((Below.refl w.heap.size w).alloc (Nat.le_refl _) (.cells #[.int .i64 k, .int .i64 i, .string s, .bool b] 23))
  have HB0 := Lib.hid (Boxed.new k i s b w 23)
  have HS0 : Hid (w.heap.size < (w.alloc (.cells #[.int .i64 k, .int .i64 i, .string s, .bool b] 23)).heap.size) := Lib.hid (by simp)
  have HL := Lib.hid (fun w1 (hb : Below w.heap.size w w1) => hL.below hb)
  have HAw := Lib.hid (fun w1 (hb : Below w.heap.size w w1) => awake_calls w1 (hL.below hb))
  have h1 := fun w1 => few_calls k i s b w1 (by omega)
  by_cases h5 : 5000 < s.size
  · rw [show decide ((s.size : Int) ≤ 5000) = false by simp; omega] at h1
    have H1 := Lib.hid h1
    clear h1 h5 hL
    go_enter Tryd.func3, Tryd.ntmps3
    go_wp2_with fail
    refine (H1.out _).mono ?_
    rintro e w1 ⟨rfl, k0⟩
    have HK1 := Lib.hid (HK0.out.trans (k0.mono HK0.out.size))
    have HB1 := Lib.hid (HB0.out.below k0 HS0.out)
    have HS1 : Hid (w.heap.size < w1.heap.size) := Lib.hid (Nat.lt_of_lt_of_le HS0.out k0.size)
    clear k0
    obtain ⟨c0, c1, c2, c3⟩ := HB1.out
    go_wp2_with fail
    refine (HAw.out _ HK1.out).mono ?_
    rintro e w2 ⟨rfl, k0⟩
    have HK2 := Lib.hid (HK1.out.trans (k0.mono HK1.out.size))
    have HB2 := Lib.hid (HB1.out.below k0 HS1.out)
    have HS2 : Hid (w.heap.size < w2.heap.size) := Lib.hid (Nat.lt_of_lt_of_le HS1.out k0.size)
    clear k0 c0 c1 c2 c3
    obtain ⟨c0, c1, c2, c3⟩ := HB2.out
    go_wp2_with fail
    go_ret
    exact ⟨rfl, HK2.out⟩
  rw [show decide ((s.size : Int) ≤ 5000) = true by simp; omega] at h1
  have H1 := Lib.hid h1
  have h2 := fun w1 => refVRight_calls k i s b w1 (by omega)
  have h3 := fun w1 => vRight_calls k i s b w1 (by omega)
  have h4 := fun w1 (h : Laid w1) => vText_calls k i s b w1 hi (by omega) h
  cases hr : rightB k i s b
  · rw [hr] at h2 h3
    rw [valText_no hr] at h4
    have H2 := Lib.hid h2
    have H3 := Lib.hid h3
    have H4 := Lib.hid h4
    clear h1 h2 h3 h4 h5 hr hL
    go_enter Tryd.func3, Tryd.ntmps3
    go_wp2_with fail
    refine (H1.out _).mono ?_
    rintro e w1 ⟨rfl, k0⟩
    have HK1 := Lib.hid (HK0.out.trans (k0.mono HK0.out.size))
    have HB1 := Lib.hid (HB0.out.below k0 HS0.out)
    have HS1 : Hid (w.heap.size < w1.heap.size) := Lib.hid (Nat.lt_of_lt_of_le HS0.out k0.size)
    clear k0
    obtain ⟨c0, c1, c2, c3⟩ := HB1.out
    go_wp2_with fail
    refine (H2.out _).mono ?_
    rintro e w2 ⟨rfl, k0⟩
    have HK2 := Lib.hid (HK1.out.trans (k0.mono HK1.out.size))
    have HB2 := Lib.hid (HB1.out.below k0 HS1.out)
    have HS2 : Hid (w.heap.size < w2.heap.size) := Lib.hid (Nat.lt_of_lt_of_le HS1.out k0.size)
    clear k0 c0 c1 c2 c3
    obtain ⟨c0, c1, c2, c3⟩ := HB2.out
    go_wp2_with fail
    refine (H3.out _).mono ?_
    rintro e w3 ⟨rfl, k0⟩
    have HK3 := Lib.hid (HK2.out.trans (k0.mono HK2.out.size))
    have HB3 := Lib.hid (HB2.out.below k0 HS2.out)
    have HS3 : Hid (w.heap.size < w3.heap.size) := Lib.hid (Nat.lt_of_lt_of_le HS2.out k0.size)
    clear k0 c0 c1 c2 c3
    obtain ⟨c0, c1, c2, c3⟩ := HB3.out
    go_wp2_with fail
    refine (H4.out _ (HL.out _ HK3.out)).mono ?_
    rintro e w4 ⟨rfl, k0⟩
    have HK4 := Lib.hid (HK3.out.trans (k0.mono HK3.out.size))
    have HB4 := Lib.hid (HB3.out.below k0 HS3.out)
    have HS4 : Hid (w.heap.size < w4.heap.size) := Lib.hid (Nat.lt_of_lt_of_le HS3.out k0.size)
    clear k0 c0 c1 c2 c3
    obtain ⟨c0, c1, c2, c3⟩ := HB4.out
    go_wp2_with fail
    refine (HAw.out _ HK4.out).mono ?_
    rintro e w5 ⟨rfl, k0⟩
    have HK5 := Lib.hid (HK4.out.trans (k0.mono HK4.out.size))
    have HB5 := Lib.hid (HB4.out.below k0 HS4.out)
    have HS5 : Hid (w.heap.size < w5.heap.size) := Lib.hid (Nat.lt_of_lt_of_le HS4.out k0.size)
    clear k0 c0 c1 c2 c3
    obtain ⟨c0, c1, c2, c3⟩ := HB5.out
    go_wp2_with fail
    go_ret
    exact ⟨rfl, HK5.out⟩
  · rw [hr] at h2 h3
    have hlen := text_len hi hr
    have hp := parsed_text k i s b hi hr
    obtain ⟨T, hT⟩ : ∃ T : ByteArray, T = ⟨(valText k i s b).toArray⟩ := ⟨_, rfl⟩
    have hTl : T.data.toList = valText k i s b := by rw [hT]
    have h6 := fun w1 (h : Laid w1) => vParse_calls T w1 (by rw [ba_size, hTl]; omega) h
    have h7 := fun w1 => refVText_calls k i s b w1 hi hr
    rw [hTl, hp, show (⟨k, i, s.data.toList, b, 0⟩ : PVal).val = .tuple #[.agg #[.int .i64 k, .int .i64 i, .string s, .bool b], .int .i64 0] from rfl] at h6
    rw [← hT] at h4 h7
    have H2 := Lib.hid h2
    have H3 := Lib.hid h3
    have H4 := Lib.hid h4
    have H6 := Lib.hid h6
    have H7 := Lib.hid h7
    have q1 := fun w => eqIn k i s b k i s b w
    rw [(eqB_iff _ _ _ _ _ _ _ _).2 ⟨rfl, rfl, rfl, rfl⟩] at q1
    have q2 := guardV
    clear h1 h2 h3 h4 h5 h6 h7 hr hL hlen hp hT hTl
    go_enter Tryd.func3, Tryd.ntmps3
    go_wp2_with fail
    refine (H1.out _).mono ?_
    rintro e w1 ⟨rfl, k0⟩
    have HK1 := Lib.hid (HK0.out.trans (k0.mono HK0.out.size))
    have HB1 := Lib.hid (HB0.out.below k0 HS0.out)
    have HS1 : Hid (w.heap.size < w1.heap.size) := Lib.hid (Nat.lt_of_lt_of_le HS0.out k0.size)
    clear k0
    obtain ⟨c0, c1, c2, c3⟩ := HB1.out
    go_wp2_with fail
    refine (H2.out _).mono ?_
    rintro e w2 ⟨rfl, k0⟩
    have HK2 := Lib.hid (HK1.out.trans (k0.mono HK1.out.size))
    have HB2 := Lib.hid (HB1.out.below k0 HS1.out)
    have HS2 : Hid (w.heap.size < w2.heap.size) := Lib.hid (Nat.lt_of_lt_of_le HS1.out k0.size)
    clear k0 c0 c1 c2 c3
    obtain ⟨c0, c1, c2, c3⟩ := HB2.out
    go_wp2_with fail
    refine (H3.out _).mono ?_
    rintro e w3 ⟨rfl, k0⟩
    have HK3 := Lib.hid (HK2.out.trans (k0.mono HK2.out.size))
    have HB3 := Lib.hid (HB2.out.below k0 HS2.out)
    have HS3 : Hid (w.heap.size < w3.heap.size) := Lib.hid (Nat.lt_of_lt_of_le HS2.out k0.size)
    clear k0 c0 c1 c2 c3
    obtain ⟨c0, c1, c2, c3⟩ := HB3.out
    go_wp2_with fail
    refine (H4.out _ (HL.out _ HK3.out)).mono ?_
    rintro e w4 ⟨rfl, k0⟩
    have HK4 := Lib.hid (HK3.out.trans (k0.mono HK3.out.size))
    have HB4 := Lib.hid (HB3.out.below k0 HS3.out)
    have HS4 : Hid (w.heap.size < w4.heap.size) := Lib.hid (Nat.lt_of_lt_of_le HS3.out k0.size)
    clear k0 c0 c1 c2 c3
    obtain ⟨c0, c1, c2, c3⟩ := HB4.out
    go_wp2_with fail
    refine (H6.out _ (HL.out _ HK4.out)).mono ?_
    rintro e w5 ⟨rfl, k0⟩
    have HK5 := Lib.hid (HK4.out.trans (k0.mono HK4.out.size))
    have HB5 := Lib.hid (HB4.out.below k0 HS4.out)
    have HS5 : Hid (w.heap.size < w5.heap.size) := Lib.hid (Nat.lt_of_lt_of_le HS4.out k0.size)
    clear k0 c0 c1 c2 c3
    obtain ⟨c0, c1, c2, c3⟩ := HB5.out
    have HB5' := Lib.hid (Boxed.new k i s b w5 23)
    have HK5' := Lib.hid (HK5.out.alloc HK5.out.size (.cells #[.int .i64 k, .int .i64 i, .string s, .bool b] 23))
    have HS5' : Hid (w5.heap.size < (w5.alloc (.cells #[.int .i64 k, .int .i64 i, .string s, .bool b] 23)).heap.size) := Lib.hid (by simp)
    have HBx := Lib.hid (HB5.out.below ((Below.refl w5.heap.size w5).alloc (Nat.le_refl _) (.cells #[.int .i64 k, .int .i64 i, .string s, .bool b] 23)) HS5.out)
    have hlt := HS5.out
    have HSx : Hid (w.heap.size < (w5.alloc (.cells #[.int .i64 k, .int .i64 i, .string s, .bool b] 23)).heap.size) := Lib.hid (Nat.lt_trans HS5.out HS5'.out)
    go_wp2_with fail
    refine (H7.out _).mono ?_
    rintro e w6 ⟨rfl, k6⟩
    have HK6 := Lib.hid (HK5'.out.trans (k6.mono HK5'.out.size))
    clear c0 c1 c2 c3
    obtain ⟨c0, c1, c2, c3⟩ := HBx.out.below k6 HSx.out
    obtain ⟨d0, d1, d2, d3⟩ := HB5'.out.below k6 HS5'.out
    clear k6
    go_wp2_with fail
    refine (HAw.out _ HK6.out).mono ?_
    rintro e w7 ⟨rfl, k7⟩
    go_wp2_with fail
    go_ret
    exact ⟨rfl, HK6.out.trans (k7.mono HK6.out.size)⟩
end Go.Proofs.YtmpoloninpakbaaDoor.valueRight
