/- The walk of the law QuoteCuts: with any text it answers true. -/
import Derived.Test.YtlkdimbmlklboaaDoorQuoteRefC
import Derived.Test.YtlkdimbmlklboaaDoorQuoteLaid
import Derived.Deep.RegionHeld3
import Derived.StillTailTactics
namespace Go.Proofs.YtlkdimbmlklboaaDoor.quoteCuts
open Go.RowKit

theorem cutTold_calls (s : ByteArray) (t : List UInt8) (n : Nat) (ok : Bool) (w : World) (h : CutTold s.data.toList t n ok) (hs : s.size ≤ 4294967296) (hE : Esc w) :
    Calls Tryd.prog 8 #[.string s] w fun e w' => e = .returned (.tuple #[.string ⟨t.toArray⟩, .int .i64 n, .bool ok]) ∧ Below w.heap.size w w' := by
  refine (cut_calls s w hs hE).mono ?_
  rintro e w' ⟨t', n', ok', h', rfl, hb⟩
  obtain ⟨rfl, rfl, rfl⟩ := h'.same h
  exact ⟨rfl, hb⟩
theorem refTold_calls (s : ByteArray) (t : List UInt8) (n : Nat) (ok : Bool) (w : World) (h : CutTold s.data.toList t n ok) (hs : s.size ≤ 4294967296) :
    Calls Tryd.prog 11 #[.string s] w fun e w' => e = .returned (.tuple #[.string ⟨t.toArray⟩, .int .i64 n]) ∧ Below w.heap.size w w' := by
  refine (refCut_calls s w hs).mono ?_
  rintro e w' ⟨t', n', ok', h', rfl, hb⟩
  obtain ⟨rfl, rfl, rfl⟩ := h'.same h
  exact ⟨rfl, hb⟩
theorem unqYes_calls (s : ByteArray) (t : List UInt8) (n : Nat) (w : World) (h : CutTold s.data.toList t n true) (hn : n = s.size) (hs : s.size ≤ 4294967296) (hE : Esc w) :
    Calls Tryd.prog 9 #[.string s] w fun e w' => e = .returned (.tuple #[.string ⟨t.toArray⟩, .bool true]) ∧ Below w.heap.size w w' := by
  refine (unquote_calls s w hs hE).mono ?_
  rintro e w' ⟨t', n', ok', h', he, hb⟩
  obtain ⟨rfl, rfl, rfl⟩ := h'.same h
  rcases he with ⟨_, _, he⟩ | ⟨hno, _⟩
  · exact ⟨he, hb⟩
  · exact absurd ⟨rfl, by rw [hn, ba_size]⟩ hno
theorem unqNo_calls (s : ByteArray) (t : List UInt8) (n : Nat) (ok : Bool) (w : World) (h : CutTold s.data.toList t n ok) (hn : ¬ (ok = true ∧ n = s.size)) (hs : s.size ≤ 4294967296) (hE : Esc w) :
    Calls Tryd.prog 9 #[.string s] w fun e w' => e = .returned (.tuple #[.string ⟨#[]⟩, .bool false]) ∧ Below w.heap.size w w' := by
  refine (unquote_calls s w hs hE).mono ?_
  rintro e w' ⟨t', n', ok', h', he, hb⟩
  obtain ⟨rfl, rfl, rfl⟩ := h'.same h
  rcases he with ⟨h1, h2, _⟩ | ⟨_, he⟩
  · exact absurd ⟨h1, by rw [h2, ba_size]⟩ hn
  · exact ⟨he, hb⟩

set_option maxHeartbeats 1000000 in
theorem walk (s : ByteArray) (w : World) (hs : s.size ≤ maxLen) (hE : Esc w) :
    Calls Tryd.prog 4 #[.string s] w fun e w' => e = .returned (.bool true) ∧ Below w.heap.size w w' := by
  unfold maxLen at hs
  by_cases h300 : 300 < s.size
  · have t1 : decide ((300 : Int) < (s.size : Int)) = true := by simp; omega
    have H1 := Lib.hid (awake_calls w hE)
    clear hE
    go_enter Tryd.func4, Tryd.ntmps4
    go_wp2_with fail
    refine H1.out.mono ?_
    rintro e w1 ⟨rfl, hb⟩
    go_wp2_with fail
    go_ret
    exact ⟨rfl, hb⟩
  have t1 : decide ((300 : Int) < (s.size : Int)) = false := by simp; omega
  have hg := var_lt gEsc hE
  have H5 := Lib.hid (fun w1 (hb : Below w.heap.size w w1) => awake_calls w1 (esc_below hE hg hb))
  by_cases hyes : ∃ t y, s.data.toList = quoteL t ++ y
  case neg =>
    have hno : ∀ u y, s.data.toList ≠ quoteL u ++ y := fun u y e => hyes ⟨u, y, e⟩
    have htold : CutTold s.data.toList [] 0 false := .inr ⟨rfl, rfl, rfl, hno⟩
    have H1 := Lib.hid (cutTold_calls s [] 0 false w htold (by omega) hE)
    have H2 := Lib.hid (fun w1 => refTold_calls s [] 0 false w1 htold (by omega))
    have H3 := Lib.hid (fun w1 (hb : Below w.heap.size w w1) => unqNo_calls s [] 0 false w1 htold (fun h => by cases h.1) (by omega) (esc_below hE hg hb))
    clear hE hg hyes hno htold
    go_enter Tryd.func4, Tryd.ntmps4
    go_wp2_with fail
    refine H1.out.mono ?_
    rintro e w1 ⟨rfl, k1⟩
    go_wp2_with fail
    refine (H2.out _).mono ?_
    rintro e w2 ⟨rfl, k2⟩
    have k3 := k1.trans (k2.mono k1.size)
    clear k1 k2
    go_wp2_with fail
    refine (H3.out _ k3).mono ?_
    rintro e w3 ⟨rfl, k4⟩
    have k5 := k3.trans (k4.mono k3.size)
    clear k3 k4
    go_wp2_with fail
    refine wp_region_any (by kernel_rfl) ?_
    change wpAny _ _ _ _ _ _ _ (World.drew _)
    refine wpAny_take (i := 0) (v := .bool false) rfl (by kernel_rfl) (by kernel_rfl) (by kernel_rfl) (fun _ _ _ h => h) (Or.inl ⟨by kernel_rfl, fun w => by kernel_rfl⟩) ?_
    refine wpAny_take (i := 1) (v := .bool true) rfl (by kernel_rfl) (by kernel_rfl) (by kernel_rfl) (fun _ _ _ h => h) (Or.inl ⟨by kernel_rfl, fun w => by kernel_rfl⟩) ?_
    refine wpAny_take (i := 2) (v := .bool true) rfl (by kernel_rfl) (by kernel_rfl) (by kernel_rfl) (fun _ _ _ h => h) (Or.inl ⟨by kernel_rfl, fun w => by kernel_rfl⟩) ?_
    refine wpAny_take (i := 3) (v := undef) rfl (by kernel_rfl) (by kernel_rfl) (by kernel_rfl) (fun _ _ _ h => h) (Or.inr ⟨by kernel_rfl, rfl⟩) ?_
    refine wpAny_take (i := 4) (v := undef) rfl (by kernel_rfl) (by kernel_rfl) (by kernel_rfl) (fun _ _ _ h => h) (Or.inr ⟨by kernel_rfl, rfl⟩) ?_
    refine wpAny_take (i := 5) (v := undef) rfl (by kernel_rfl) (by kernel_rfl) (by kernel_rfl) (fun _ _ _ h => h) (Or.inr ⟨by kernel_rfl, rfl⟩) ?_
    refine wpAny_take (i := 6) (v := undef) rfl (by kernel_rfl) (by kernel_rfl) (by kernel_rfl) (fun _ _ _ h => h) (Or.inr ⟨by kernel_rfl, rfl⟩) ?_
    refine wpAny_take (i := 7) (v := undef) rfl (by kernel_rfl) (by kernel_rfl) (by kernel_rfl) (fun _ _ _ h => h) (Or.inr ⟨by kernel_rfl, rfl⟩) ?_
    refine wpAny_take (i := 8) (v := undef) rfl (by kernel_rfl) (by kernel_rfl) (by kernel_rfl) (fun _ _ _ h => h) (Or.inr ⟨by kernel_rfl, rfl⟩) ?_
    refine wpAny_take (i := 9) (v := .bool true) rfl (by kernel_rfl) (by kernel_rfl) (by kernel_rfl) (fun _ _ _ h => h) (Or.inl ⟨by kernel_rfl, fun w => by kernel_rfl⟩) ?_
    refine wpAny_take (i := 10) (v := .bool true) rfl (by kernel_rfl) (by kernel_rfl) (by kernel_rfl) (fun _ _ _ h => h) (Or.inl ⟨by kernel_rfl, fun w => by kernel_rfl⟩) ?_
    refine wpAny_ready (rs := [11]) (by kernel_rfl) (by simp) ?_
    refine AllReady.cons rfl (fun K hK => ?_) AllReady.nil
    rw [if_pos (by kernel_rfl)]
    go_simp
    refine (H5.out _ k5.drew).mono ?_
    rintro e w5 ⟨rfl, k8⟩
    refine hK _ _ ?_
    clear hK K
    refine wpAny_take (i := 12) (v := .bool true) rfl (by kernel_rfl) (by kernel_rfl) (by kernel_rfl) (fun _ _ _ h => h) (Or.inl ⟨by kernel_rfl, fun w => by kernel_rfl⟩) ?_
    refine wpAny_take (i := 13) (v := .bool true) rfl (by kernel_rfl) (by kernel_rfl) (by kernel_rfl) (fun _ _ _ h => h) (Or.inl ⟨by kernel_rfl, fun w => by kernel_rfl⟩) ?_
    refine wpAny_done (by kernel_rfl) ?_ _
    go_simp
    go_wp2_with fail
    go_ret
    exact ⟨rfl, k5.drew.trans (k8.mono k5.drew.size)⟩
  case pos =>
    obtain ⟨t, y, hty⟩ := hyes
    have htold : CutTold s.data.toList t (quoteL t).length true := .inl ⟨rfl, rfl, y, hty⟩
    have hts : t.length ≤ 300 := by
      have h1 := congrArg List.length hty
      rw [← ba_size, List.length_append, quote_len] at h1
      have := (body_len t).1
      omega
    obtain ⟨T, hT⟩ : ∃ T : ByteArray, T = ⟨t.toArray⟩ := ⟨_, rfl⟩
    have hTl : T.data.toList = t := by rw [hT]
    have h6 := fun w1 => refQuote_calls T w1 (by rw [ba_size, hTl]; omega)
    rw [hTl] at h6
    obtain ⟨n, hn⟩ : ∃ n, n = (quoteL t).length := ⟨_, rfl⟩
    have hns : n ≤ s.size := by
      have h1 := congrArg List.length hty
      rw [← ba_size, List.length_append] at h1
      omega
    have hn2 : 0 < n := by rw [hn, quote_len]; omega
    rw [← hn] at htold
    obtain ⟨Q, hQ⟩ : ∃ Q : ByteArray, Q = ⟨(quoteL t).toArray⟩ := ⟨_, rfl⟩
    have hQl : Q.data.toList = quoteL t := by rw [hQ]
    have hQs : Q.size = n := by rw [ba_size, hQl, hn]
    have hh := (head_yes s Q ⟨y, by rw [hQl]; exact hty⟩).2
    rw [hQs] at hh
    have h1 := cutTold_calls s t n true w htold (by omega) hE
    have h2 := fun w1 => refTold_calls s t n true w1 htold (by omega)
    rw [← hT] at h1 h2
    rw [← hQ] at h6
    have H1 := Lib.hid h1
    have H2 := Lib.hid h2
    have H6 := Lib.hid h6
    have t2 : decide ((0 : Int) < (n : Int)) = true := by simp; omega
    have hh' : (Q.toList == (s.extract 0 n).toList) = true := by rw [beq_iff_eq] at hh ⊢; exact hh.symm
    by_cases hfull : n = s.size
    · have h3 := fun w1 (hb : Below w.heap.size w w1) => unqYes_calls s t n w1 htold hfull (by omega) (esc_below hE hg hb)
      rw [← hT] at h3
      have H3 := Lib.hid h3
      have t3 : ((n : Int) == (s.size : Int)) = true := by rw [hfull]; simp
      clear h1 h2 h3 h6 hE hg htold hty hT hTl hn hQ hQl hQs hh hfull
      go_enter Tryd.func4, Tryd.ntmps4
      go_wp2_with fail
      refine H1.out.mono ?_
      rintro e w1 ⟨rfl, k1⟩
      go_wp2_with fail
      refine (H2.out _).mono ?_
      rintro e w2 ⟨rfl, k2⟩
      have k3 := k1.trans (k2.mono k1.size)
      clear k1 k2
      go_wp2_with fail
      refine (H3.out _ k3).mono ?_
      rintro e w3 ⟨rfl, k4⟩
      have k5 := k3.trans (k4.mono k3.size)
      clear k3 k4
      go_wp2_with fail
      go_region_held3 (fun _ => True) (trivial) (first
        | (go_at_call 10; refine (H6.out _).mono ?_; rintro e w4 ⟨rfl, k6⟩; have k7 := k5.drew.trans (k6.mono k5.drew.size))
        | (go_at_call 6; refine (H5.out _ k7).mono ?_; rintro e w5 ⟨rfl, k8⟩))
      go_wp2_with fail
      go_ret
      exact ⟨rfl, k7.trans (k8.mono k7.size)⟩
    · have H3 := Lib.hid (fun w1 (hb : Below w.heap.size w w1) => unqNo_calls s t n true w1 htold (fun h => hfull h.2) (by omega) (esc_below hE hg hb))
      have t3 : ((n : Int) == (s.size : Int)) = false := by rw [beq_eq_false_iff_ne]; omega
      clear h1 h2 h6 hE hg htold hty hT hTl hn hQ hQl hQs hh hfull
      go_enter Tryd.func4, Tryd.ntmps4
      go_wp2_with fail
      refine H1.out.mono ?_
      rintro e w1 ⟨rfl, k1⟩
      go_wp2_with fail
      refine (H2.out _).mono ?_
      rintro e w2 ⟨rfl, k2⟩
      have k3 := k1.trans (k2.mono k1.size)
      clear k1 k2
      go_wp2_with fail
      refine (H3.out _ k3).mono ?_
      rintro e w3 ⟨rfl, k4⟩
      have k5 := k3.trans (k4.mono k3.size)
      clear k3 k4
      go_wp2_with fail
      go_region_held3 (fun _ => True) (trivial) (first
        | (go_at_call 10; refine (H6.out _).mono ?_; rintro e w4 ⟨rfl, k6⟩; have k7 := k5.drew.trans (k6.mono k5.drew.size))
        | (go_at_call 6; refine (H5.out _ k7).mono ?_; rintro e w5 ⟨rfl, k8⟩))
      go_wp2_with fail
      go_ret
      exact ⟨rfl, k7.trans (k8.mono k7.size)⟩
end Go.Proofs.YtlkdimbmlklboaaDoor.quoteCuts
