/- What the reference's Parse does with any text. -/
import Derived.Test.YtmpoloninpakbaaDoorValParse
import Derived.Test.YtmpoloninpakbaaDoorQuoteRefC
import Derived.Test.YtmpoloninpakbaaDoorNumRefNumber
namespace Go.Proofs.YtmpoloninpakbaaDoor
open Go.RowKit
set_option linter.unusedVariables false

theorem refCut_yes (s : ByteArray) (t : List UInt8) (w : World) (hs : s.size ≤ 4294967296) (h : unq s.data.toList = some t) :
    Calls Tryd.prog 30 #[.string s] w fun e w' => e = .returned (.tuple #[.string ⟨t.toArray⟩, .int .i64 (s.size : Int)]) ∧ Below w.heap.size w w' := by
  refine (refCut_calls s w hs).mono ?_
  rintro e w1 ⟨u, n, ok, hT, rfl, k1⟩
  have hu := unq_told hT
  rw [h] at hu
  by_cases hx : ok = true ∧ n = s.data.toList.length
  · rw [if_pos hx] at hu
    obtain rfl := Option.some.inj hu
    exact ⟨by rw [hx.2, ba_size], k1⟩
  · rw [if_neg hx] at hu; cases hu
theorem refCut_no (s : ByteArray) (w : World) (hs : s.size ≤ 4294967296) (h : unq s.data.toList = none) :
    Calls Tryd.prog 30 #[.string s] w fun e w' => ∃ (T : ByteArray) (n : Nat), (n = 0 ∨ n ≠ s.size) ∧ e = .returned (.tuple #[.string T, .int .i64 (n : Int)]) ∧ Below w.heap.size w w' := by
  refine (refCut_calls s w hs).mono ?_
  rintro e w1 ⟨u, n, ok, hT, rfl, k1⟩
  have hu := unq_told hT
  rw [h] at hu
  refine ⟨_, n, ?_, rfl, k1⟩
  cases ok with
  | false =>
    rcases hT with ⟨h0, _⟩ | ⟨_, _, h0, _⟩
    · cases h0
    · exact .inl h0
  | true =>
    refine .inr fun hn => ?_
    rw [if_pos ⟨rfl, by rw [hn, ba_size]⟩] at hu
    cases hu

set_option maxHeartbeats 1000000 in
theorem refVParse_calls (s : ByteArray) (w : World) (hs : s.size ≤ 4294967296) :
    Calls Tryd.prog 14 #[.string s] w fun e w' => e = .returned (parsedV s.data.toList).val ∧ Below w.heap.size w w' := by
  have HA := Lib.hid (fun o => (Below.refl w.heap.size w).alloc (Nat.le_refl _) o)
  have HB := Lib.hid (Boxed.new 0 0 ⟨#[]⟩ false w 23)
  have HF := Lib.hid (Free4.new #[.int .i64 0, .int .i64 0, .string ⟨#[]⟩, .bool false] w 23)
  by_cases h1 : s.data.toList = tru
  · obtain rfl : s = ⟨#[116, 114, 117, 101]⟩ := by rw [← back_ba s, h1]; rfl
    have HR : Hid (parsedV (⟨#[116, 114, 117, 101]⟩ : ByteArray).data.toList = ⟨3, 0, [], true, 0⟩) := Lib.hid parsed_tru
    rw [HR.out]
    clear h1 HR
    go_enter Tryd.func14, Tryd.ntmps14
    go_wp2_with fail
    refine bodyPost_ret (v := .tuple #[.agg #[.int .i64 3, .int .i64 0, .string ⟨#[]⟩, .bool true], .int .i64 0]) ?_ rfl ⟨rfl, ?_⟩
    · rw [results_cell_tmp rfl]
      go_simp
    · exact HA.out _
  by_cases h2 : s.data.toList = fls
  · obtain rfl : s = ⟨#[102, 97, 108, 115, 101]⟩ := by rw [← back_ba s, h2]; rfl
    have HR : Hid (parsedV (⟨#[102, 97, 108, 115, 101]⟩ : ByteArray).data.toList = ⟨3, 0, [], false, 0⟩) := Lib.hid parsed_fls
    rw [HR.out]
    clear h1 h2 HR
    go_enter Tryd.func14, Tryd.ntmps14
    go_wp2_with fail
    refine bodyPost_ret (v := .tuple #[.agg #[.int .i64 3, .int .i64 0, .string ⟨#[]⟩, .bool false], .int .i64 0]) ?_ rfl ⟨rfl, ?_⟩
    · rw [results_cell_tmp rfl]
      go_simp
    · exact HA.out _
  have t1 : (s.toList == [116, 114, 117, 101]) = false := by rw [tl_data, beq_eq_false_iff_ne]; exact h1
  have t2 : (s.toList == [102, 97, 108, 115, 101]) = false := by rw [tl_data, beq_eq_false_iff_ne]; exact h2
  by_cases h3 : s.data.toList.head? = some 34
  · rw [parsed_str h3]
    obtain ⟨r0, hr0⟩ : ∃ r, s.data.toList = 34 :: r := by
      cases hl : s.data.toList with
      | nil => rw [hl] at h3; cases h3
      | cons c r =>
        rw [hl] at h3
        obtain rfl : c = 34 := by simpa using h3
        exact ⟨r, rfl⟩
    have h0s : 0 < s.size := by rw [ba_size, hr0]; simp
    have hc0 : s[0] = 34 := byte_at s 0 h0s 34 (by rw [hr0]; rfl)
    have t3 : decide ((0 : Int) < (s.size : Int)) = true := by simp; omega
    have t3' : ¬ s = ByteArray.empty := by intro e; rw [e] at h0s; exact absurd h0s (by decide)
    have t4 : ((s[0].toNat : Int) == 34) = true := by rw [hc0]; rfl
    cases hu : unq s.data.toList with
    | none =>
      have H4 := Lib.hid (fun w1 => refCut_no s w1 hs hu)
      clear h1 h2 h3 hr0 hc0 hu
      go_enter Tryd.func14, Tryd.ntmps14
      go_wp2_with fail
      refine (H4.out _).mono ?_
      rintro e w1 ⟨T, n, hn, rfl, k1⟩
      obtain ⟨c0, c1, c2, c3⟩ := HB.out.below k1 (by simp)
      obtain ⟨f0, f1, f2, f3⟩ := HF.out.below k1 (by simp)
      have HK := Lib.hid ((HA.out _).trans (k1.mono (by simp)))
      clear k1
      by_cases hn0 : n = 0
      · have t5 : ((n : Int) == 0) = true := by rw [hn0]; rfl
        clear hn
        go_wp2_with fail
        refine bodyPost_ret (v := .tuple #[.agg #[.int .i64 0, .int .i64 0, .string ⟨#[]⟩, .bool false], .int .i64 4]) ?_ rfl ⟨rfl, ?_⟩
        · rw [results_cell_tmp rfl]
          go_simp
        · repeat' (first | exact HK.out | refine Below.setCell ?_ (by simp) _)
      · have t5 : ((n : Int) == 0) = false := by rw [beq_eq_false_iff_ne]; omega
        have t6 : ((n : Int) != (s.size : Int)) = true := by rw [bne_iff_ne]; rcases hn with h | h <;> omega
        clear hn
        go_wp2_with fail
        refine bodyPost_ret (v := .tuple #[.agg #[.int .i64 0, .int .i64 0, .string ⟨#[]⟩, .bool false], .int .i64 4]) ?_ rfl ⟨rfl, ?_⟩
        · rw [results_cell_tmp rfl]
          go_simp
        · repeat' (first | exact HK.out | refine Below.setCell ?_ (by simp) _)
    | some t =>
      have htl := unq_len hu
      obtain ⟨T, hTT⟩ : ∃ T : ByteArray, T = ⟨t.toArray⟩ := ⟨_, rfl⟩
      have hTs : T.size = t.length := by rw [hTT, ba_size]
      have h4 := fun w1 => refCut_yes s t w1 hs hu
      simp only [← hTT] at h4
      have H4 := Lib.hid h4
      have t5 : ((s.size : Int) == 0) = false := by rw [beq_eq_false_iff_ne]; omega
      have t6 : ((s.size : Int) != (s.size : Int)) = false := by simp
      by_cases h6 : 4096 < T.size
      · rw [fit_yes (by rw [← hTT]; exact h6)]
        have t7 : decide ((4096 : Int) < (T.size : Int)) = true := by simp; omega
        clear h1 h2 h3 h4 h6 hr0 hc0 hu hTT hTs
        go_enter Tryd.func14, Tryd.ntmps14
        go_wp2_with fail
        refine (H4.out _).mono ?_
        rintro e w1 ⟨rfl, k1⟩
        obtain ⟨c0, c1, c2, c3⟩ := HB.out.below k1 (by simp)
        obtain ⟨f0, f1, f2, f3⟩ := HF.out.below k1 (by simp)
        have HK := Lib.hid ((HA.out _).trans (k1.mono (by simp)))
        clear k1
        go_wp2_with fail
        refine bodyPost_ret (v := .tuple #[.agg #[.int .i64 0, .int .i64 0, .string ⟨#[]⟩, .bool false], .int .i64 3]) ?_ rfl ⟨rfl, ?_⟩
        · rw [results_cell_tmp rfl]
          go_simp
        · repeat' (first | exact HK.out | refine Below.setCell ?_ (by simp) _)
      · rw [fit_no (by rw [← hTT]; exact h6)]
        have t7 : decide ((4096 : Int) < (T.size : Int)) = false := by simp; omega
        have HR : Hid ((⟨2, 0, t, false, 0⟩ : PVal).val = .tuple #[.agg #[.int .i64 2, .int .i64 0, .string T, .bool false], .int .i64 0]) := Lib.hid (by rw [hTT]; rfl)
        clear h1 h2 h3 h4 h6 hr0 hc0 hu hTT hTs
        go_enter Tryd.func14, Tryd.ntmps14
        go_wp2_with fail
        refine (H4.out _).mono ?_
        rintro e w1 ⟨rfl, k1⟩
        obtain ⟨c0, c1, c2, c3⟩ := HB.out.below k1 (by simp)
        obtain ⟨f0, f1, f2, f3⟩ := HF.out.below k1 (by simp)
        have HK := Lib.hid ((HA.out _).trans (k1.mono (by simp)))
        clear k1
        go_wp2_with fail
        refine bodyPost_ret (v := .tuple #[.agg #[.int .i64 2, .int .i64 0, .string T, .bool false], .int .i64 0]) ?_ rfl ⟨?_, ?_⟩
        · rw [results_cell_tmp rfl]
          go_simp
        · rw [HR.out]
        · repeat' (first | exact HK.out | refine Below.setCell ?_ (by simp) _)
  · have h4 := fun w1 => refNumber_calls s w1 (by omega)
    by_cases h5 : pe s.data.toList = 0
    · rw [parsed_yes h1 h2 h3 h5]
      rw [h5] at h4
      obtain ⟨n, hn⟩ : ∃ n, n = pn s.data.toList := ⟨_, rfl⟩
      rw [← hn] at h4 ⊢
      have H4 := Lib.hid h4
      by_cases h0 : s.size = 0
      · have h0' : s.data.toList = [] := List.length_eq_zero_iff.1 (by rw [← ba_size]; exact h0)
        exact absurd h5 (by rw [h0']; decide)
      · have h0s : 0 < s.size := by omega
        have t3 : decide ((0 : Int) < (s.size : Int)) = true := by simp; omega
        have t3' : ¬ s = ByteArray.empty := by intro e; rw [e] at h0s; exact absurd h0s (by decide)
        have t4 : ((s[0].toNat : Int) == 34) = false := by
          rw [show ((s[0].toNat : Int) == 34) = (s[0] == 34) from byte_beq s[0] 34 (by omega), beq_eq_false_iff_ne]
          intro e
          refine h3 ?_
          cases hl : s.data.toList with
          | nil => rw [ba_size, hl] at h0s; exact absurd h0s (by decide)
          | cons c r => rw [byte_at s 0 h0s c (by rw [hl]; rfl)] at e; rw [e]; rfl
        clear h1 h2 h3 h4 h5 hn h0
        go_enter Tryd.func14, Tryd.ntmps14
        go_wp2_with fail
        refine (H4.out _).mono ?_
        rintro e w1 ⟨rfl, rfl⟩
        go_wp2_with fail
        refine bodyPost_ret (v := .tuple #[.agg #[.int .i64 1, .int .i64 n, .string ⟨#[]⟩, .bool false], .int .i64 0]) ?_ rfl ⟨rfl, ?_⟩
        · rw [results_cell_tmp rfl]
          go_simp
        · exact HA.out _
    · rw [parsed_no h1 h2 h3 h5]
      obtain ⟨n, hn⟩ : ∃ n, n = pn s.data.toList := ⟨_, rfl⟩
      obtain ⟨q, hq⟩ : ∃ q, q = pe s.data.toList := ⟨_, rfl⟩
      rw [← hn, ← hq] at h4
      rw [← hq] at h5 ⊢
      have t5 : (q != 0) = true := by simpa using h5
      have H4 := Lib.hid h4
      by_cases h0 : s.size = 0
      · have h0' : s = ⟨#[]⟩ := by rw [← back_ba s, List.length_eq_zero_iff.1 (show s.data.toList.length = 0 by rw [← ba_size]; exact h0)]
        subst h0'
        clear h1 h2 h3 h4 h5 hn hq h0 t1 t2
        go_enter Tryd.func14, Tryd.ntmps14
        go_wp2_with fail
        refine (H4.out _).mono ?_
        rintro e w1 ⟨rfl, rfl⟩
        go_wp2_with fail
        refine bodyPost_ret (v := .tuple #[.agg #[.int .i64 0, .int .i64 0, .string ⟨#[]⟩, .bool false], .int .i64 q]) ?_ rfl ⟨rfl, ?_⟩
        · rw [results_cell_tmp rfl]
          go_simp
        · exact HA.out _
      · have h0s : 0 < s.size := by omega
        have t3 : decide ((0 : Int) < (s.size : Int)) = true := by simp; omega
        have t3' : ¬ s = ByteArray.empty := by intro e; rw [e] at h0s; exact absurd h0s (by decide)
        have t4 : ((s[0].toNat : Int) == 34) = false := by
          rw [show ((s[0].toNat : Int) == 34) = (s[0] == 34) from byte_beq s[0] 34 (by omega), beq_eq_false_iff_ne]
          intro e
          refine h3 ?_
          cases hl : s.data.toList with
          | nil => rw [ba_size, hl] at h0s; exact absurd h0s (by decide)
          | cons c r => rw [byte_at s 0 h0s c (by rw [hl]; rfl)] at e; rw [e]; rfl
        clear h1 h2 h3 h4 h5 hn hq h0
        go_enter Tryd.func14, Tryd.ntmps14
        go_wp2_with fail
        refine (H4.out _).mono ?_
        rintro e w1 ⟨rfl, rfl⟩
        go_wp2_with fail
        refine bodyPost_ret (v := .tuple #[.agg #[.int .i64 0, .int .i64 0, .string ⟨#[]⟩, .bool false], .int .i64 q]) ?_ rfl ⟨rfl, ?_⟩
        · rw [results_cell_tmp rfl]
          go_simp
        · exact HA.out _
end Go.Proofs.YtmpoloninpakbaaDoor
