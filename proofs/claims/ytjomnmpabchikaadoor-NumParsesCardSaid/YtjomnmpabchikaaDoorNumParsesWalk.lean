/- The walk of the law NumParses: with any text it answers true. -/
import Derived.Test.YtjomnmpabchikaaDoorNumParse
import Derived.Test.YtjomnmpabchikaaDoorNumRefNumber
namespace Go.Proofs.YtjomnmpabchikaaDoor.numParses
open Go.RowKit

theorem pe_zero {l : List UInt8} (h : pe l = 0) : Lib.itoa (pn l) = l ∧ -9223372036854775808 ≤ pn l ∧ pn l ≤ 9223372036854775807 := by
  unfold pe at h
  by_cases hf : formB l = true
  · rw [if_pos hf] at h
    by_cases hb : tb (vl l) = true
    · have hr : -9223372036854775808 ≤ vl l ∧ vl l ≤ 9223372036854775807 := by simpa [tb] using hb
      have e : pn l = vl l := by unfold pn; rw [if_pos hf, tn_yes hr.1 hr.2]
      rw [e, form_itoa hf]
      exact ⟨rfl, hr⟩
    · rw [if_neg hb] at h; omega
  · rw [if_neg hf] at h; omega

set_option maxHeartbeats 1000000 in
theorem walkLong (s : ByteArray) (w : World) (hl : 100 < s.size) (hm : s.size ≤ 9223372036854775807) (htab : Tab w) :
    Calls Tryd.prog 8 #[.string s] w fun e w' => e = .returned (.bool true) ∧ Below w.heap.size w w' := by
  have H := Lib.hid htab
  clear htab
  go_enter Tryd.func8, Tryd.ntmps8
  go_wp2_with (go_at_call 17; refine (awake_calls _ H.out).mono ?_; rintro e w' ⟨rfl, hbel⟩)
  go_ret
  exact ⟨rfl, hbel⟩

set_option maxHeartbeats 1000000 in
theorem walkShort (s : ByteArray) (w : World) (a : Addr) (hs : s.size ≤ 100) (htab : Tab w) (hv : ErrR w a) :
    Calls Tryd.prog 8 #[.string s] w fun e w' => e = .returned (.bool true) ∧ Below w.heap.size w w' := by
  have H1 := Lib.hid (parse_calls s a w (by omega) hv)
  have H2 := Lib.hid (fun w1 => refNumber_calls s w1 (by omega))
  have H4 := Lib.hid (fun w1 (hb : Below w.heap.size w w1) => awake_calls w1 (tab_below htab hb))
  by_cases hz : pe s.data.toList = 0
  · obtain ⟨hit, hp1, hp2⟩ := pe_zero hz
    have H3 := Lib.hid (fun w1 (hb : Below w.heap.size w w1) => text_calls (pn s.data.toList) w1 ⟨hp1, hp2⟩ (tab_below htab hb))
    rw [hit, Lib.mk_data] at H3
    rw [hz] at H1 H2
    obtain ⟨p, hp⟩ : ∃ p, p = pn s.data.toList := ⟨_, rfl⟩
    rw [← hp] at H1 H2 H3
    clear hz hit hp1 hp2 hp htab hv
    go_enter Tryd.func8, Tryd.ntmps8
    go_wp2_with fail
    refine H1.out.mono ?_
    rintro e w1 ⟨rfl, hb1⟩
    go_wp2_with fail
    refine (H2.out _).mono ?_
    rintro e w2 ⟨rfl, rfl⟩
    go_wp2_with fail
    refine (H3.out _ hb1).mono ?_
    rintro e w3 ⟨rfl, hb2⟩
    have hb3 : Below w.heap.size w w3 := hb1.trans (hb2.mono hb1.size)
    clear hb1 hb2
    go_wp2_with fail
    refine (H4.out _ hb3).mono ?_
    rintro e w4 ⟨rfl, hb5⟩
    have hb6 : Below w.heap.size w w4 := hb3.trans (hb5.mono hb3.size)
    clear hb3 hb5
    go_wp2_with fail
    go_ret
    exact ⟨rfl, hb6⟩
  · obtain ⟨p, hp⟩ : ∃ p, p = pn s.data.toList := ⟨_, rfl⟩
    obtain ⟨q, hq⟩ : ∃ q, q = pe s.data.toList := ⟨_, rfl⟩
    rw [← hp, ← hq] at H1 H2
    rw [← hq] at hz
    have tq : (q != 0) = true := by simpa using hz
    have tq2 : (q == 0) = false := by simpa using hz
    clear hz hp hq htab hv
    go_enter Tryd.func8, Tryd.ntmps8
    go_wp2_with fail
    refine H1.out.mono ?_
    rintro e w1 ⟨rfl, hb1⟩
    go_wp2_with fail
    refine (H2.out _).mono ?_
    rintro e w2 ⟨rfl, rfl⟩
    go_wp2_with fail
    refine (H4.out _ hb1).mono ?_
    rintro e w4 ⟨rfl, hb5⟩
    have hb6 : Below w.heap.size w w4 := hb1.trans (hb5.mono hb1.size)
    clear hb1 hb5
    go_wp2_with fail
    go_ret
    exact ⟨rfl, hb6⟩

theorem walk (s : ByteArray) (w : World) (hm : s.size ≤ maxLen) (hl : Tab w ∧ ∃ a, ErrR w a) :
    Calls Tryd.prog 8 #[.string s] w fun e w' => e = .returned (.bool true) ∧ Below w.heap.size w w' := by
  obtain ⟨htab, a, hv⟩ := hl
  unfold maxLen at hm
  by_cases h : 100 < s.size
  · exact walkLong s w h (by omega) htab
  · exact walkShort s w a (by omega) htab hv
end Go.Proofs.YtjomnmpabchikaaDoor.numParses
