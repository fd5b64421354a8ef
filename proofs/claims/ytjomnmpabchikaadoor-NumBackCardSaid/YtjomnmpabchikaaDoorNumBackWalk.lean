/- The walk of the law NumBack: with any int64 it answers true. -/
import Derived.Test.YtjomnmpabchikaaDoorNumParse
import Derived.Test.YtjomnmpabchikaaDoorNumRefText
namespace Go.Proofs.YtjomnmpabchikaaDoor.numBack
open Go.RowKit

theorem pn_itoa (n : Int) (h : -9223372036854775808 ≤ n ∧ n ≤ 9223372036854775807) : pn (Lib.itoa n) = n := by
  unfold pn; rw [if_pos (itoa_form n).1, (itoa_form n).2, tn_yes h.1 h.2]
theorem pe_itoa (n : Int) (h : -9223372036854775808 ≤ n ∧ n ≤ 9223372036854775807) : pe (Lib.itoa n) = 0 := by
  unfold pe; rw [if_pos (itoa_form n).1, (itoa_form n).2, tb_yes h.1 h.2, if_pos rfl]

theorem parseBack_calls (n : Int) (a : Addr) (w : World) (h : -9223372036854775808 ≤ n ∧ n ≤ 9223372036854775807) (hv : ErrR w a) :
    Calls Tryd.prog 24 #[.string ⟨(Lib.itoa n).toArray⟩] w fun e w' => e = .returned (.tuple #[.int .i64 n, .int .i64 0]) ∧ Below w.heap.size w w' := by
  have c := parse_calls ⟨(Lib.itoa n).toArray⟩ a w (by
    have := Lib.itoa_length_le n h.1 h.2
    show (Lib.itoa n).toArray.size ≤ _
    rw [List.size_toArray]; omega) hv
  rw [show (⟨(Lib.itoa n).toArray⟩ : ByteArray).data.toList = Lib.itoa n from rfl, pn_itoa n h, pe_itoa n h] at c
  exact c

set_option maxHeartbeats 1000000 in
theorem walk (n : Int) (w : World) (h : -9223372036854775808 ≤ n ∧ n ≤ 9223372036854775807) (hl : Tab w ∧ ∃ a, ErrR w a) :
    Calls Tryd.prog 7 #[.int .i64 n] w fun e w' => e = .returned (.bool true) ∧ Below w.heap.size w w' := by
  obtain ⟨htab, a, hv⟩ := hl
  have H1 := Lib.hid (text_calls n w h htab)
  have H2 := Lib.hid (fun w1 (hb : Below w.heap.size w w1) => parseBack_calls n a w1 h (errR_below hv hb))
  have H3 := Lib.hid (fun w1 => refText_calls n.natAbs n w1 (Nat.le_refl _) h.1 h.2)
  have H4 := Lib.hid (fun w1 (hb : Below w.heap.size w w1) => awake_calls w1 (tab_below htab hb))
  obtain ⟨S, hS⟩ : ∃ S : ByteArray, S = ⟨(Lib.itoa n).toArray⟩ := ⟨_, rfl⟩
  rw [← hS] at H1 H2 H3
  clear hS htab hv h
  go_enter Tryd.func7, Tryd.ntmps7
  go_wp2_with fail
  refine H1.out.mono ?_
  rintro e w1 ⟨rfl, hb1⟩
  go_wp2_with fail
  refine (H2.out _ hb1).mono ?_
  rintro e w2 ⟨rfl, hb2⟩
  have hb3 : Below w.heap.size w w2 := hb1.trans (hb2.mono hb1.size)
  clear hb1 hb2
  go_wp2_with fail
  refine (H3.out _).mono ?_
  rintro e w3 ⟨rfl, k, rfl⟩
  have hb4 : Below w.heap.size w (w2.drewN k) := below_drewN hb3 k
  go_wp2_with fail
  refine (H4.out _ hb4).mono ?_
  rintro e w4 ⟨rfl, hb5⟩
  have hb6 : Below w.heap.size w w4 := hb4.trans (hb5.mono hb4.size)
  clear hb3 hb4 hb5
  go_wp2_with fail
  go_ret
  exact ⟨rfl, hb6⟩
end Go.Proofs.YtjomnmpabchikaaDoor.numBack
