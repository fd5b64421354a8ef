/- The walk of the law ValueParses: with any text it answers true. -/
import Derived.Test.YtmpoloninpakbaaDoorValAwake
import Derived.Test.YtmpoloninpakbaaDoorValRefParse
namespace Go.Proofs.YtmpoloninpakbaaDoor.valueParses
open Go.RowKit
set_option linter.unusedVariables false

theorem right_size {k i : Int} {s : ByteArray} {b : Bool} (h : rightB k i s b = true) : s.size ≤ 4096 := by
  rcases right_kind h with rfl | rfl | rfl
  · simp only [rightB] at h
    simp at h
    rw [ba_size, ← tl_data, h.1]
    simp
  · exact right2_size h
  · simp only [rightB] at h
    simp at h
    rw [ba_size, ← tl_data, h.2]
    simp

set_option maxHeartbeats 2000000 in
set_option maxRecDepth 100000 in
theorem walkShort (s : ByteArray) (w : World) (hs : s.size ≤ 20000) (hL : Laid w) :
    Calls Tryd.prog 4 #[.string s] w fun e w' => e = .returned (.bool true) ∧ Below w.heap.size w w' := by
  have HL := Lib.hid (fun w1 (hb : Below w.heap.size w w1) => hL.below hb)
  have HAw := Lib.hid (fun w1 (hb : Below w.heap.size w w1) => awake_calls w1 (hL.below hb))
  have h1 := vParse_calls s w (by omega) hL
  have h2 := fun w1 => refVParse_calls s w1 (by omega)
  have hback := fun h => parsed_back (l := s.data.toList) h
  generalize parsedV s.data.toList = pv at h1 h2 hback
  obtain ⟨k, i, S, b, q⟩ := pv
  obtain ⟨T, hT⟩ : ∃ T : ByteArray, T = ⟨S.toArray⟩ := ⟨_, rfl⟩
  simp only [PVal.val, ← hT] at h1 h2 hback
  have H1 := Lib.hid h1
  have H2 := Lib.hid h2
  have q1 := fun w => eqIn k i T b k i T b w
  rw [(eqB_iff _ _ _ _ _ _ _ _).2 ⟨rfl, rfl, rfl, rfl⟩] at q1
  have q2 := guardV
  have t0 : decide ((20000 : Int) < (s.size : Int)) = false := by simp; omega
  by_cases hq : q = 0
  · obtain ⟨hr, htx, hi⟩ := hback hq
    have h3 := fun w1 (h : Laid w1) => vText_calls k i T b w1 hi (by have := right_size hr; omega) h
    rw [htx, back_ba] at h3
    have H3 := Lib.hid h3
    subst hq
    clear h1 h2 h3 hback hr htx hi hT hL
    go_enter Tryd.func4, Tryd.ntmps4
    go_wp2_with fail
    refine H1.out.mono ?_
    rintro e w1 ⟨rfl, k1⟩
    have HK1 := Lib.hid k1
    have HK1' := Lib.hid (k1.alloc k1.size (.cells #[.int .i64 k, .int .i64 i, .string T, .bool b] 23))
    have HB1 := Lib.hid (Boxed.new k i T b w1 23)
    have HS1 : Hid (w1.heap.size < (w1.alloc (.cells #[.int .i64 k, .int .i64 i, .string T, .bool b] 23)).heap.size) := Lib.hid (by simp)
    clear k1
    go_wp2_with fail
    refine (H2.out _).mono ?_
    rintro e w2 ⟨rfl, k2⟩
    have HK2 := Lib.hid (HK1'.out.trans (k2.mono HK1'.out.size))
    have HB2 := Lib.hid (HB1.out.below k2 HS1.out)
    have hlt : w1.heap.size < w2.heap.size := Nat.lt_of_lt_of_le HS1.out k2.size
    have HK2' := Lib.hid (HK2.out.alloc HK2.out.size (.cells #[.int .i64 k, .int .i64 i, .string T, .bool b] 23))
    obtain ⟨c0, c1, c2, c3⟩ := HB2.out
    clear k2
    go_wp2_with fail
    refine (H3.out _ (HL.out _ HK2'.out)).mono ?_
    rintro e w3 ⟨rfl, k3⟩
    have HK3 := Lib.hid (HK2'.out.trans (k3.mono HK2'.out.size))
    clear k3
    go_wp2_with fail
    refine (HAw.out _ HK3.out).mono ?_
    rintro e w4 ⟨rfl, k4⟩
    go_wp2_with fail
    go_ret
    exact ⟨rfl, HK3.out.trans (k4.mono HK3.out.size)⟩
  · have t1 : (q != 0) = true := by simpa using hq
    clear h1 h2 hback hT hL hq
    go_enter Tryd.func4, Tryd.ntmps4
    go_wp2_with fail
    refine H1.out.mono ?_
    rintro e w1 ⟨rfl, k1⟩
    have HK1 := Lib.hid k1
    have HK1' := Lib.hid (k1.alloc k1.size (.cells #[.int .i64 k, .int .i64 i, .string T, .bool b] 23))
    have HB1 := Lib.hid (Boxed.new k i T b w1 23)
    have HS1 : Hid (w1.heap.size < (w1.alloc (.cells #[.int .i64 k, .int .i64 i, .string T, .bool b] 23)).heap.size) := Lib.hid (by simp)
    clear k1
    go_wp2_with fail
    refine (H2.out _).mono ?_
    rintro e w2 ⟨rfl, k2⟩
    have HK2 := Lib.hid (HK1'.out.trans (k2.mono HK1'.out.size))
    have HB2 := Lib.hid (HB1.out.below k2 HS1.out)
    have hlt : w1.heap.size < w2.heap.size := Nat.lt_of_lt_of_le HS1.out k2.size
    have HK2' := Lib.hid (HK2.out.alloc HK2.out.size (.cells #[.int .i64 k, .int .i64 i, .string T, .bool b] 23))
    obtain ⟨c0, c1, c2, c3⟩ := HB2.out
    clear k2
    go_wp2_with fail
    refine (HAw.out _ HK2'.out).mono ?_
    rintro e w4 ⟨rfl, k4⟩
    go_wp2_with fail
    go_ret
    exact ⟨rfl, HK2'.out.trans (k4.mono HK2'.out.size)⟩

set_option maxHeartbeats 1000000 in
theorem walk (s : ByteArray) (w : World) (hs : s.size ≤ maxLen) (hL : Laid w) :
    Calls Tryd.prog 4 #[.string s] w fun e w' => e = .returned (.bool true) ∧ Below w.heap.size w w' := by
  unfold maxLen at hs
  by_cases h : 20000 < s.size
  · have t0 : decide ((20000 : Int) < (s.size : Int)) = true := by simp; omega
    have H1 := Lib.hid (awake_calls w hL)
    clear hL h
    go_enter Tryd.func4, Tryd.ntmps4
    go_wp2_with fail
    refine H1.out.mono ?_
    rintro e w1 ⟨rfl, hb⟩
    go_wp2_with fail
    go_ret
    exact ⟨rfl, hb⟩
  · exact walkShort s w (by omega) hL
end Go.Proofs.YtmpoloninpakbaaDoor.valueParses
