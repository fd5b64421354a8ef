/- The walk of the law QuoteBack: with any two texts it answers true. -/
import Derived.Test.YtlkdimbmlklboaaDoorQuoteCut
import Derived.Test.YtlkdimbmlklboaaDoorQuoteLaid
namespace Go.Proofs.YtlkdimbmlklboaaDoor.quoteBack
open Go.RowKit

theorem ba_back (s : ByteArray) : (⟨s.data.toList.toArray⟩ : ByteArray) = s := rfl
theorem told_quote (l m : List UInt8) : CutTold (quoteL l ++ m) l (quoteL l).length true := .inl ⟨rfl, rfl, m, rfl⟩

theorem cutBack_calls (s a : ByteArray) (m : List UInt8) (w : World) (ha : a.data.toList = quoteL s.data.toList ++ m) (hs : a.size ≤ 4294967296) (hE : Esc w) :
    Calls Tryd.prog 8 #[.string a] w fun e w' => e = .returned (.tuple #[.string s, .int .i64 (quoteL s.data.toList).length, .bool true]) ∧ Below w.heap.size w w' := by
  refine (cut_calls a w hs hE).mono ?_
  rintro e w' ⟨t, n, ok, h, rfl, hb⟩
  rw [ha] at h
  obtain ⟨rfl, rfl, rfl⟩ := h.same (told_quote _ m)
  exact ⟨by rw [ba_back], hb⟩

theorem unquoteBack_calls (s a : ByteArray) (w : World) (ha : a.data.toList = quoteL s.data.toList) (hs : a.size ≤ 4294967296) (hE : Esc w) :
    Calls Tryd.prog 9 #[.string a] w fun e w' => e = .returned (.tuple #[.string s, .bool true]) ∧ Below w.heap.size w w' := by
  refine (unquote_calls a w hs hE).mono ?_
  rintro e w' ⟨t, n, ok, h, he, hb⟩
  rw [ha] at h he
  have h' : CutTold (quoteL s.data.toList ++ []) t n ok := by rw [List.append_nil]; exact h
  obtain ⟨rfl, rfl, rfl⟩ := h'.same (told_quote _ [])
  rcases he with ⟨_, _, he⟩ | ⟨hn, _⟩
  · exact ⟨by rw [he, ba_back], hb⟩
  · exact absurd ⟨rfl, rfl⟩ hn

set_option maxHeartbeats 1000000 in
theorem walk (s more : ByteArray) (w : World) (hs : s.size ≤ maxLen) (hm : more.size ≤ maxLen) (hE : Esc w) :
    Calls Tryd.prog 3 #[.string s, .string more] w fun e w' => e = .returned (.bool true) ∧ Below w.heap.size w w' := by
  unfold maxLen at hs hm
  by_cases h300 : 300 < s.size
  · have t1 : decide ((300 : Int) < (s.size : Int)) = true := by simp; omega
    have H1 := Lib.hid (awake_calls w hE)
    clear hE
    go_enter Tryd.func3, Tryd.ntmps3
    go_wp2_with fail
    refine H1.out.mono ?_
    rintro e w1 ⟨rfl, hb⟩
    go_wp2_with fail
    go_ret
    exact ⟨rfl, hb⟩
  have t1 : decide ((300 : Int) < (s.size : Int)) = false := by simp; omega
  by_cases m300 : 300 < more.size
  · have t2 : decide ((300 : Int) < (more.size : Int)) = true := by simp; omega
    have H1 := Lib.hid (awake_calls w hE)
    clear hE
    go_enter Tryd.func3, Tryd.ntmps3
    go_wp2_with fail
    refine H1.out.mono ?_
    rintro e w1 ⟨rfl, hb⟩
    go_wp2_with fail
    go_ret
    exact ⟨rfl, hb⟩
  have t2 : decide ((300 : Int) < (more.size : Int)) = false := by simp; omega
  have hg := var_lt gEsc hE
  have h1 := quote_calls s w (by omega) hE
  have h4 := fun w1 => refQuote_calls s w1 (by omega)
  have H5 := Lib.hid (fun w1 (hb : Below w.heap.size w w1) => awake_calls w1 (esc_below hE hg hb))
  obtain ⟨Q, hQ⟩ : ∃ Q : ByteArray, Q = ⟨(quoteL s.data.toList).toArray⟩ := ⟨_, rfl⟩
  have hQl : Q.data.toList = quoteL s.data.toList := by rw [hQ]
  have hQs : Q.size ≤ 1202 := by
    rw [ba_size, hQl, quote_len]
    have := (body_len s.data.toList).2
    have : s.data.toList.length ≤ 300 := by rw [← ba_size]; omega
    omega
  have hc1 : ∀ w, (Op.stringOp .add Q more).run Tryd.prog w = .ok (.string (Q ++ more)) w := fun w => run_string_add_sum w Q more (by omega)
  obtain ⟨a, ha⟩ : ∃ a : ByteArray, a = Q ++ more := ⟨_, rfl⟩
  have hal : a.data.toList = quoteL s.data.toList ++ more.data.toList := by rw [ha, cat_list, hQl]
  have has : a.size ≤ 4294967296 := by
    rw [ba_size, hal, List.length_append, ← ba_size, ← hQl, ← ba_size]; omega
  rw [← ha] at hc1
  have h2 := fun w1 (hb : Below w.heap.size w w1) => cutBack_calls s a more.data.toList w1 hal has (esc_below hE hg hb)
  have h3 := fun w1 (hb : Below w.heap.size w w1) => unquoteBack_calls s Q w1 hQl (by omega) (esc_below hE hg hb)
  rw [← hQ] at h1 h4
  rw [show (quoteL s.data.toList).length = Q.size by rw [← hQl, ← ba_size]] at h2
  have H1 := Lib.hid h1
  have H2 := Lib.hid h2
  have H3 := Lib.hid h3
  have H4 := Lib.hid h4
  clear h1 h2 h3 h4 hE hg hQ hQl ha hal has
  go_enter Tryd.func3, Tryd.ntmps3
  go_wp2_with fail
  refine H1.out.mono ?_
  rintro e w1 ⟨rfl, k1⟩
  go_wp2_with fail
  refine (H2.out _ k1).mono ?_
  rintro e w2 ⟨rfl, k2⟩
  have k3 := k1.trans (k2.mono k1.size)
  clear k1 k2
  go_wp2_with fail
  refine (H3.out _ k3).mono ?_
  rintro e w3 ⟨rfl, k4⟩
  have k5 := k3.trans (k4.mono k3.size)
  clear k3 k4
  go_wp2_with fail
  refine (H4.out _).mono ?_
  rintro e w4 ⟨rfl, k6⟩
  have k7 := k5.trans (k6.mono k5.size)
  clear k5 k6
  go_wp2_with fail
  refine (H5.out _ k7).mono ?_
  rintro e w5 ⟨rfl, k8⟩
  have k9 := k7.trans (k8.mono k7.size)
  clear k7 k8
  go_wp2_with fail
  go_ret
  exact ⟨rfl, k9⟩
end Go.Proofs.YtlkdimbmlklboaaDoor.quoteBack
