/- What num.Parse does with any text: its number, or the error that the document asks for; by the library's contract of strconv.ParseInt. -/
import Derived.Test.YtmjchmamkjbgkaaGreatDoorNumHasForm
import Derived.Test.YtmjchmamkjbgkaaGreatDoorNumText
import Derived.Test.YtmjchmamkjbgkaaGreatDoorErrIs
import Derived.Lib.AtoiErrMem
import Derived.WalkSmall
import Derived.LaidLaws
namespace Go.Proofs.YtmjchmamkjbgkaaGreatDoor
open Go.RowKit

/-- strconv.ErrRange holds a pointer to an errorString. -/
abbrev ErrR (w : World) (a : Addr) : Prop := w.var? Tryz.prog "strconv.ErrRange" = some #[.iface 238 (.pointer (some a))]
theorem gErr : Tryz.prog.globalNamed "strconv.ErrRange" = some 1 := by kernel_rfl
theorem gErrType : (Tryz.prog.globals[1]?).map (·.type) = some 73 := by kernel_rfl
theorem errCell {w : World} {a : Addr} (h : ErrR w a) : w.cell? ⟨1, 0, none⟩ = some (.iface 238 (.pointer (some a))) := by
  have := World.var?_cell gErr h 0
  simpa using this
theorem errR_below {w w' : World} {a : Addr} (h : ErrR w a) (hb : Below w.heap.size w w') : ErrR w' a := var?_below hb gErr (var_lt gErr h) h
theorem tab_below {w w' : World} (h : Tab w) (hb : Below w.heap.size w w') : Tab w' := var?_below hb gPow (var_lt gPow h) h

set_option maxHeartbeats 400000 in
theorem parse_calls (s : ByteArray) (a : Addr) (w : World) (hs : s.size ≤ 281474976710656) (hv : ErrR w a) :
    Calls Tryz.prog 94 #[.string s] w fun e w' => e = .returned (.tuple #[.int .i64 (pn s.data.toList), .int .i64 (pe s.data.toList)]) ∧ Below w.heap.size w w' := by
  have h1 := hasForm_calls s w (by omega)
  by_cases hf : formB s.data.toList = true
  · rw [hf] at h1
    have H1 := Lib.hid h1
    have hp := parse_form hf
    unfold pn pe
    rw [if_pos hf, if_pos hf]
    clear h1
    by_cases hb : tb (vl s.data.toList) = true
    · rw [if_pos hb] at hp
      rw [if_pos hb]
      have en : tn (vl s.data.toList) = vl s.data.toList := by
        have : -9223372036854775808 ≤ vl s.data.toList ∧ vl s.data.toList ≤ 9223372036854775807 := by simpa [tb] using hb
        exact tn_yes this.1 this.2
      rw [en]
      obtain ⟨v, hev⟩ : ∃ v, v = vl s.data.toList := ⟨_, rfl⟩
      rw [← hev] at hp ⊢
      have H2 := Lib.hid (Tryz.strconv_ParseInt_10_at64_ok s (by omega) v hp w)
      have HV := Lib.hid hv
      clear hp hev en hb hf hs hv
      go_enter Tryz.func94, Tryz.ntmps94
      go_wp2_with (go_at_call 112; refine H1.out.mono ?_; rintro e w' ⟨rfl, rfl⟩)
      go_wp2_with fail
      refine H2.out.mono ?_
      rintro e w1 ⟨rfl, hw1⟩
      have hb1 : Below w.heap.size w w1 := by
        rcases hw1 with rfl | ⟨t, rfl⟩
        · exact Below.refl _ _
        · exact Lib.bytesWorld_below _ _ _
      have hc := errCell (errR_below HV.out hb1)
      clear hw1
      go_wp2_with (go_at_call 93; refine (is_nil a _).mono ?_; rintro e w' ⟨rfl, rfl⟩)
      go_ret2
      exact ⟨rfl, hb1⟩
    · rw [if_neg hb] at hp
      rw [if_neg hb]
      have en : tn (vl s.data.toList) = 0 := by
        have : ¬ (-9223372036854775808 ≤ vl s.data.toList ∧ vl s.data.toList ≤ 9223372036854775807) := by simpa [tb] using hb
        exact tn_no this
      rw [en]
      have H2 := Lib.hid (Tryz.strconv_ParseInt_10_at64_range_var s hs hp _ _ w hv)
      have HV := Lib.hid hv
      clear hp en hb hf hs hv
      go_enter Tryz.func94, Tryz.ntmps94
      go_wp2_with (go_at_call 112; refine H1.out.mono ?_; rintro e w' ⟨rfl, rfl⟩)
      go_wp2_with fail
      refine H2.out.mono ?_
      rintro e w1 ⟨N, rfl, hN, hblk, hb1⟩
      have hc := errCell (errR_below HV.out hb1)
      have hc2 : w1.cell? ⟨N, 2, none⟩ = some (.iface 238 (.pointer (some a))) := by simp [World.cell?, hblk]
      have HC2 := Lib.hid hc2
      clear hblk hN hc2
      go_wp2_with (go_at_call 93; refine (is_num_same N a _ HC2.out).mono ?_; rintro e w' ⟨rfl, rfl⟩)
      go_ret2
      exact ⟨rfl, hb1⟩
  · have hf2 : formB s.data.toList = false := by simpa using hf
    rw [hf2] at h1
    have H1 := Lib.hid h1
    unfold pn pe
    rw [if_neg hf, if_neg hf]
    clear h1 hf hf2 hv hs
    go_enter Tryz.func94, Tryz.ntmps94
    go_wp2_with (go_at_call 112; refine H1.out.mono ?_; rintro e w' ⟨rfl, rfl⟩)
    go_ret2
    exact ⟨rfl, Below.refl _ _⟩

end Go.Proofs.YtmjchmamkjbgkaaGreatDoor
