/- What value.Text does with any value. -/
import Derived.Test.YtmpoloninpakbaaDoorValData
import Derived.Test.YtmpoloninpakbaaDoorValRight
namespace Go.Proofs.YtmpoloninpakbaaDoor
open Go.RowKit
set_option linter.unusedVariables false

theorem valText_no {k i : Int} {s : ByteArray} {b : Bool} (h : rightB k i s b = false) : valText k i s b = [] := by
  unfold valText; rw [if_neg (by rw [h]; simp)]
theorem valText1 {i : Int} {s : ByteArray} {b : Bool} (h : rightB 1 i s b = true) : valText 1 i s b = Lib.itoa i := by
  unfold valText; rw [if_pos h, if_pos rfl]
theorem valText2 {i : Int} {s : ByteArray} {b : Bool} (h : rightB 2 i s b = true) : valText 2 i s b = quoteL s.data.toList := by
  unfold valText; rw [if_pos h, if_neg (by decide), if_pos rfl]
theorem valText3 {i : Int} {s : ByteArray} {b : Bool} (h : rightB 3 i s b = true) : valText 3 i s b = if b = true then tru else fls := by
  unfold valText; rw [if_pos h, if_neg (by decide), if_neg (by decide)]
theorem right_kind {k i : Int} {s : ByteArray} {b : Bool} (h : rightB k i s b = true) : k = 1 ∨ k = 2 ∨ k = 3 := by
  unfold rightB at h
  by_cases h1 : k = 1
  · exact .inl h1
  · rw [if_neg h1] at h
    by_cases h2 : k = 2
    · exact .inr (.inl h2)
    · rw [if_neg h2] at h
      simp only [Bool.and_eq_true, beq_iff_eq] at h
      exact .inr (.inr h.1.1)
theorem right2_size {i : Int} {s : ByteArray} {b : Bool} (h : rightB 2 i s b = true) : s.size ≤ 4096 := by
  simp only [rightB] at h
  simp at h
  omega

theorem right_size {k i : Int} {s : ByteArray} {b : Bool} (h : rightB k i s b = true) : s.size ≤ 4096 := by
  rcases right_kind h with rfl | rfl | rfl
  · simp only [rightB] at h
    simp at h
    rw [ba_size, ← tl_data, h.1]
    simp
  · exact right2_size h
  · simp only [rightB] at h
    simp at h
    rw [ba_size, ← tl_data, h.2]
    simp

set_option maxHeartbeats 1000000 in
theorem vText_calls (k i : Int) (s : ByteArray) (b : Bool) (w : World) (hi : -9223372036854775808 ≤ i ∧ i ≤ 9223372036854775807) (hs : s.size ≤ 9223372036854775807) (hL : Laid w) :
    Calls Tryd.prog 11 #[.agg #[.int .i64 k, .int .i64 i, .string s, .bool b]] w fun e w' => e = .returned (.string ⟨(valText k i s b).toArray⟩) ∧ Below w.heap.size w w' := by
  have HA := (Below.refl w.heap.size w).alloc (Nat.le_refl _) (.cells #[.int .i64 k, .int .i64 i, .string s, .bool b] 23)
  have hL1 := hL.below HA
  have HR := fun w1 => vRight_calls k i s b w1 hs
  have HB := Lib.hid (Boxed.new k i s b w 23)
  cases hr : rightB k i s b
  · rw [valText_no hr]
    rw [hr] at HR
    have HR := Lib.hid HR
    have HA := Lib.hid HA
    clear hr hL hL1
    go_enter Tryd.func11, Tryd.ntmps11
    go_wp2_with fail
    refine (HR.out _).mono ?_
    rintro e w1 ⟨rfl, k1⟩
    go_wp2_with fail
    go_ret
    exact ⟨rfl, HA.out.trans (k1.mono (by simp))⟩
  · rw [hr] at HR
    have HR := Lib.hid HR
    have HL := Lib.hid (fun w1 (hb : Below (w.alloc (.cells #[.int .i64 k, .int .i64 i, .string s, .bool b] 23)).heap.size _ w1) => hL1.below hb)
    have HA := Lib.hid HA
    rcases right_kind hr with rfl | rfl | rfl
    · rw [valText1 hr]
      have HT := Lib.hid (fun w1 (h : Tab w1) => text_calls i w1 hi h)
      clear hr hL hL1
      go_enter Tryd.func11, Tryd.ntmps11
      go_wp2_with fail
      refine (HR.out _).mono ?_
      rintro e w1 ⟨rfl, k1⟩
      obtain ⟨c0, c1, c2, c3⟩ := HB.out.below k1 (by simp)
      have k2 := HA.out.trans (k1.mono (by simp))
      have hT := (HL.out _ k1).1.1
      have HK := Lib.hid k2
      have HX := Lib.hid hT
      clear k1 k2 hT
      go_wp2_with fail
      refine (HT.out _ HX.out).mono ?_
      rintro e w2 ⟨rfl, k3⟩
      go_wp2_with fail
      go_ret
      exact ⟨rfl, HK.out.trans (k3.mono HK.out.size)⟩
    · rw [valText2 hr]
      have HT := Lib.hid (fun w1 (h : Esc w1) => quote_calls s w1 (by have := right2_size hr; omega) h)
      clear hr hL hL1
      go_enter Tryd.func11, Tryd.ntmps11
      go_wp2_with fail
      refine (HR.out _).mono ?_
      rintro e w1 ⟨rfl, k1⟩
      obtain ⟨c0, c1, c2, c3⟩ := HB.out.below k1 (by simp)
      have k2 := HA.out.trans (k1.mono (by simp))
      have hT := (HL.out _ k1).2
      have HK := Lib.hid k2
      have HX := Lib.hid hT
      clear k1 k2 hT
      go_wp2_with fail
      refine (HT.out _ HX.out).mono ?_
      rintro e w2 ⟨rfl, k3⟩
      go_wp2_with fail
      go_ret
      exact ⟨rfl, HK.out.trans (k3.mono HK.out.size)⟩
    · rw [valText3 hr]
      clear hr hL hL1
      cases b
      all_goals
        go_enter Tryd.func11, Tryd.ntmps11
        go_wp2_with fail
        refine (HR.out _).mono ?_
        rintro e w1 ⟨rfl, k1⟩
        obtain ⟨c0, c1, c2, c3⟩ := HB.out.below k1 (by simp)
        have k2 := HA.out.trans (k1.mono (by simp))
        have HK := Lib.hid k2
        clear k1 k2
        go_wp2_with fail
        go_ret
        exact ⟨rfl, HK.out⟩
end Go.Proofs.YtmpoloninpakbaaDoor
