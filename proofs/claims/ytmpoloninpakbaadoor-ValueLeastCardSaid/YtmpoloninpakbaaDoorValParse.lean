/- What value.Parse does with any text. -/
import Derived.Test.YtmpoloninpakbaaDoorValData
import Derived.Test.YtmpoloninpakbaaDoorValMake
namespace Go.Proofs.YtmpoloninpakbaaDoor
open Go.RowKit
set_option linter.unusedVariables false

set_option maxHeartbeats 400000 in
theorem vFitting_calls (s : ByteArray) (w : World) (hs : s.size ≤ 9223372036854775807) :
    Calls Tryd.prog 40 #[.string s] w fun e w' => e = .returned (if 4096 < s.size then .tuple #[.agg #[.int .i64 0, .int .i64 0, .string ⟨#[]⟩, .bool false], .int .i64 3] else .tuple #[.agg #[.int .i64 2, .int .i64 0, .string s, .bool false], .int .i64 0]) ∧ Below w.heap.size w w' := by
  have HC := Lib.hid (fun w1 => vStr_calls s w1)
  have HA := Lib.hid (fun o => (Below.refl w.heap.size w).alloc (Nat.le_refl _) o)
  have HB := Lib.hid (Boxed.new 0 0 ⟨#[]⟩ false w 23)
  have HF := Lib.hid (Free4.new #[.int .i64 0, .int .i64 0, .string ⟨#[]⟩, .bool false] w 23)
  by_cases h : 4096 < s.size
  · rw [if_pos h]
    have t1 : decide ((4096 : Int) < (s.size : Int)) = true := by simp; omega
    clear h
    go_enter Tryd.func40, Tryd.ntmps40
    go_wp2_with fail
    refine bodyPost_ret (v := .tuple #[.agg #[.int .i64 0, .int .i64 0, .string ⟨#[]⟩, .bool false], .int .i64 3]) ?_ rfl ⟨rfl, ?_⟩
    · rw [results_cell_tmp rfl]
      go_simp
    · exact HA.out _
  · rw [if_neg h]
    have t1 : decide ((4096 : Int) < (s.size : Int)) = false := by simp; omega
    clear h
    go_enter Tryd.func40, Tryd.ntmps40
    go_wp2_with fail
    refine (HC.out _).mono ?_
    rintro e w1 ⟨rfl, k1⟩
    obtain ⟨c0, c1, c2, c3⟩ := HB.out.below k1 (by simp)
    obtain ⟨f0, f1, f2, f3⟩ := HF.out.below k1 (by simp)
    have HK := Lib.hid ((HA.out _).trans (k1.mono (by simp)))
    clear k1
    go_wp2_with fail
    refine bodyPost_ret (v := .tuple #[.agg #[.int .i64 2, .int .i64 0, .string s, .bool false], .int .i64 0]) ?_ rfl ⟨rfl, ?_⟩
    · rw [results_cell_tmp rfl]
      go_simp
    · repeat' (first | exact HK.out | refine Below.setCell ?_ (by simp) _)

theorem fit_yes {t : List UInt8} (h : 4096 < (⟨t.toArray⟩ : ByteArray).size) : strV (some t) = ⟨0, 0, [], false, 3⟩ := by
  rw [ba_size] at h; simp only [strV]; rw [if_pos h]
theorem fit_no {t : List UInt8} (h : ¬ 4096 < (⟨t.toArray⟩ : ByteArray).size) : strV (some t) = ⟨2, 0, t, false, 0⟩ := by
  rw [ba_size] at h; simp only [strV]; rw [if_neg h]

theorem unq_calls (s : ByteArray) (w : World) (hs : s.size ≤ 4294967296) (hE : Esc w) :
    Calls Tryd.prog 39 #[.string s] w fun e w' => e = .returned (match unq s.data.toList with | some t => .tuple #[.string ⟨t.toArray⟩, .bool true] | none => .tuple #[.string ⟨#[]⟩, .bool false]) ∧ Below w.heap.size w w' := by
  refine (unquote_calls s w hs hE).mono ?_
  rintro e w1 ⟨t, n, ok, hT, he, k1⟩
  have hu := unq_told hT
  rcases he with ⟨hok, hn, rfl⟩ | ⟨hno, rfl⟩
  · rw [if_pos ⟨hok, hn⟩] at hu
    rw [hu]
    exact ⟨rfl, k1⟩
  · rw [if_neg hno] at hu
    rw [hu]
    exact ⟨rfl, k1⟩
theorem unq_len {s : ByteArray} {t : List UInt8} (h : unq s.data.toList = some t) : t.length + 2 ≤ s.size := by
  have h2 := congrArg List.length (unq_some h)
  rw [quote_len, ← ba_size] at h2
  have := (body_len t).1
  omega

set_option maxHeartbeats 1000000 in
theorem vParseStr_calls (s : ByteArray) (w : World) (hs : s.size ≤ 4294967296) (hL : Laid w) :
    Calls Tryd.prog 26 #[.string s] w fun e w' => e = .returned (strV (unq s.data.toList)).val ∧ Below w.heap.size w w' := by
  have ha := (Below.refl w.heap.size w).alloc (Nat.le_refl _) (.cells #[.int .i64 0, .int .i64 0, .string ⟨#[]⟩, .bool false] 23)
  have h1 := unq_calls s _ hs (hL.below ha).2
  have HA := Lib.hid ha
  have HB := Lib.hid (Boxed.new 0 0 ⟨#[]⟩ false w 23)
  have HF := Lib.hid (Free4.new #[.int .i64 0, .int .i64 0, .string ⟨#[]⟩, .bool false] w 23)
  clear hL ha
  cases hu : unq s.data.toList with
  | none =>
    rw [hu] at h1
    have H1 := Lib.hid h1
    clear h1 hu
    go_enter Tryd.func26, Tryd.ntmps26
    go_wp2_with fail
    refine H1.out.mono ?_
    rintro e w1 ⟨rfl, k1⟩
    obtain ⟨c0, c1, c2, c3⟩ := HB.out.below k1 (by simp)
    obtain ⟨f0, f1, f2, f3⟩ := HF.out.below k1 (by simp)
    have HK := Lib.hid (HA.out.trans (k1.mono (by simp)))
    clear k1
    go_wp2_with fail
    refine bodyPost_ret (v := .tuple #[.agg #[.int .i64 0, .int .i64 0, .string ⟨#[]⟩, .bool false], .int .i64 4]) ?_ rfl ⟨rfl, ?_⟩
    · rw [results_cell_tmp rfl]
      go_simp
    · repeat' (first | exact HK.out | refine Below.setCell ?_ (by simp) _)
  | some t =>
    rw [hu] at h1
    have htl := unq_len hu
    obtain ⟨T, hTT⟩ : ∃ T : ByteArray, T = ⟨t.toArray⟩ := ⟨_, rfl⟩
    have hTs : T.size = t.length := by rw [hTT, ba_size]
    have h2 := fun w1 => vFitting_calls T w1 (by omega)
    simp only [← hTT] at h1
    have H1 := Lib.hid h1
    by_cases h4 : 4096 < T.size
    · rw [fit_yes (by rw [← hTT]; exact h4)]
      simp only [if_pos h4] at h2
      have H2 := Lib.hid h2
      clear h1 h2 hu hTT hTs h4 htl
      go_enter Tryd.func26, Tryd.ntmps26
      go_wp2_with fail
      refine H1.out.mono ?_
      rintro e w1 ⟨rfl, k1⟩
      have HK := Lib.hid (HA.out.trans (k1.mono (by simp)))
      have HB1 := Lib.hid (HB.out.below k1 (by simp))
      have HF1 := Lib.hid (HF.out.below k1 (by simp))
      have HS : Hid (w.heap.size < w1.heap.size) := Lib.hid (by have := k1.size; simp at this; omega)
      clear k1
      go_wp2_with fail
      refine (H2.out _).mono ?_
      rintro e w2 ⟨rfl, k2⟩
      have HK2 := Lib.hid (HK.out.trans (k2.mono HK.out.size))
      obtain ⟨c0, c1, c2, c3⟩ := HB1.out.below k2 HS.out
      obtain ⟨f0, f1, f2, f3⟩ := HF1.out.below k2 HS.out
      clear k2
      go_wp2_with fail
      refine bodyPost_ret (v := .tuple #[.agg #[.int .i64 0, .int .i64 0, .string ⟨#[]⟩, .bool false], .int .i64 3]) ?_ rfl ⟨rfl, ?_⟩
      · rw [results_cell_tmp rfl]
        go_simp
      · repeat' (first | exact HK2.out | refine Below.setCell ?_ (by simp) _)
    · rw [fit_no (by rw [← hTT]; exact h4)]
      simp only [if_neg h4] at h2
      have H2 := Lib.hid h2
      have HR : Hid ((⟨2, 0, t, false, 0⟩ : PVal).val = .tuple #[.agg #[.int .i64 2, .int .i64 0, .string T, .bool false], .int .i64 0]) := Lib.hid (by rw [hTT]; rfl)
      clear h1 h2 hu hTT hTs h4 htl
      go_enter Tryd.func26, Tryd.ntmps26
      go_wp2_with fail
      refine H1.out.mono ?_
      rintro e w1 ⟨rfl, k1⟩
      have HK := Lib.hid (HA.out.trans (k1.mono (by simp)))
      have HB1 := Lib.hid (HB.out.below k1 (by simp))
      have HF1 := Lib.hid (HF.out.below k1 (by simp))
      have HS : Hid (w.heap.size < w1.heap.size) := Lib.hid (by have := k1.size; simp at this; omega)
      clear k1
      go_wp2_with fail
      refine (H2.out _).mono ?_
      rintro e w2 ⟨rfl, k2⟩
      have HK2 := Lib.hid (HK.out.trans (k2.mono HK.out.size))
      obtain ⟨c0, c1, c2, c3⟩ := HB1.out.below k2 HS.out
      obtain ⟨f0, f1, f2, f3⟩ := HF1.out.below k2 HS.out
      clear k2
      go_wp2_with fail
      refine bodyPost_ret (v := .tuple #[.agg #[.int .i64 2, .int .i64 0, .string T, .bool false], .int .i64 0]) ?_ rfl ⟨?_, ?_⟩
      · rw [results_cell_tmp rfl]
        go_simp
      · rw [HR.out]
      · repeat' (first | exact HK2.out | refine Below.setCell ?_ (by simp) _)

set_option maxHeartbeats 1000000 in
theorem vParse_calls (s : ByteArray) (w : World) (hs : s.size ≤ 4294967296) (hL : Laid w) :
    Calls Tryd.prog 12 #[.string s] w fun e w' => e = .returned (parsedV s.data.toList).val ∧ Below w.heap.size w w' := by
  have ha := (Below.refl w.heap.size w).alloc (Nat.le_refl _) (.cells #[.int .i64 0, .int .i64 0, .string ⟨#[]⟩, .bool false] 23)
  have HA := Lib.hid ha
  have HB := Lib.hid (Boxed.new 0 0 ⟨#[]⟩ false w 23)
  have HF := Lib.hid (Free4.new #[.int .i64 0, .int .i64 0, .string ⟨#[]⟩, .bool false] w 23)
  have hL1 := hL.below ha
  have HP := Lib.hid (fun w1 => hasPrefix_calls s w1)
  by_cases h1 : s.data.toList = tru
  · obtain rfl : s = ⟨#[116, 114, 117, 101]⟩ := by rw [← back_ba s, h1]; rfl
    have HR : Hid (parsedV (⟨#[116, 114, 117, 101]⟩ : ByteArray).data.toList = ⟨3, 0, [], true, 0⟩) := Lib.hid parsed_tru
    rw [HR.out]
    have H1 := Lib.hid (fun w1 => vBool_calls true w1)
    clear h1 hL hL1 ha HP HR
    go_enter Tryd.func12, Tryd.ntmps12
    go_wp2_with fail
    refine (H1.out _).mono ?_
    rintro e w1 ⟨rfl, k1⟩
    obtain ⟨c0, c1, c2, c3⟩ := HB.out.below k1 (by simp)
    obtain ⟨f0, f1, f2, f3⟩ := HF.out.below k1 (by simp)
    have HK := Lib.hid (HA.out.trans (k1.mono (by simp)))
    clear k1
    go_wp2_with fail
    refine bodyPost_ret (v := .tuple #[.agg #[.int .i64 3, .int .i64 0, .string ⟨#[]⟩, .bool true], .int .i64 0]) ?_ rfl ⟨rfl, ?_⟩
    · rw [results_cell_tmp rfl]
      go_simp
    · repeat' (first | exact HK.out | refine Below.setCell ?_ (by simp) _)
  by_cases h2 : s.data.toList = fls
  · obtain rfl : s = ⟨#[102, 97, 108, 115, 101]⟩ := by rw [← back_ba s, h2]; rfl
    have HR : Hid (parsedV (⟨#[102, 97, 108, 115, 101]⟩ : ByteArray).data.toList = ⟨3, 0, [], false, 0⟩) := Lib.hid parsed_fls
    rw [HR.out]
    have H1 := Lib.hid (fun w1 => vBool_calls false w1)
    clear h1 h2 hL hL1 ha HP HR
    go_enter Tryd.func12, Tryd.ntmps12
    go_wp2_with fail
    refine (H1.out _).mono ?_
    rintro e w1 ⟨rfl, k1⟩
    obtain ⟨c0, c1, c2, c3⟩ := HB.out.below k1 (by simp)
    obtain ⟨f0, f1, f2, f3⟩ := HF.out.below k1 (by simp)
    have HK := Lib.hid (HA.out.trans (k1.mono (by simp)))
    clear k1
    go_wp2_with fail
    refine bodyPost_ret (v := .tuple #[.agg #[.int .i64 3, .int .i64 0, .string ⟨#[]⟩, .bool false], .int .i64 0]) ?_ rfl ⟨rfl, ?_⟩
    · rw [results_cell_tmp rfl]
      go_simp
    · repeat' (first | exact HK.out | refine Below.setCell ?_ (by simp) _)
  have t1 : (s.toList == [116, 114, 117, 101]) = false := by rw [tl_data, beq_eq_false_iff_ne]; exact h1
  have t2 : (s.toList == [102, 97, 108, 115, 101]) = false := by rw [tl_data, beq_eq_false_iff_ne]; exact h2
  by_cases h3 : s.data.toList.head? = some 34
  · rw [parsed_str h3]
    rw [show (s.data.toList.head? == some 34) = true by simpa using h3] at HP
    have h4 := vParseStr_calls s _ hs hL1
    obtain ⟨k, i, T, b, e0, hv⟩ := (strV (unq s.data.toList)).val_eq
    rw [hv] at h4 ⊢
    have H4 := Lib.hid h4
    clear h1 h2 h3 h4 hv hL hL1 ha
    go_enter Tryd.func12, Tryd.ntmps12
    go_wp2_with fail
    refine (HP.out _).mono ?_
    rintro e w1 ⟨rfl, rfl⟩
    go_wp2_with fail
    refine H4.out.mono ?_
    rintro e w1 ⟨rfl, k1⟩
    obtain ⟨c0, c1, c2, c3⟩ := HB.out.below k1 (by simp)
    obtain ⟨f0, f1, f2, f3⟩ := HF.out.below k1 (by simp)
    have HK := Lib.hid (HA.out.trans (k1.mono (by simp)))
    clear k1
    go_wp2_with fail
    refine bodyPost_ret (v := .tuple #[.agg #[.int .i64 k, .int .i64 i, .string T, .bool b], .int .i64 e0]) ?_ rfl ⟨rfl, ?_⟩
    · rw [results_cell_tmp rfl]
      go_simp
    · repeat' (first | exact HK.out | refine Below.setCell ?_ (by simp) _)
  · rw [show (s.data.toList.head? == some 34) = false by simpa using h3] at HP
    obtain ⟨⟨hT, a, hE⟩, _⟩ := hL1
    have h4 := parse_calls s a _ (by omega) hE
    by_cases h5 : pe s.data.toList = 0
    · rw [parsed_yes h1 h2 h3 h5]
      rw [h5] at h4
      have H4 := Lib.hid h4
      have H6 := Lib.hid (fun w1 => vInt_calls (pn s.data.toList) w1)
      obtain ⟨n, hn⟩ : ∃ n, n = pn s.data.toList := ⟨_, rfl⟩
      rw [← hn] at H4 H6 ⊢
      clear h1 h2 h3 h4 h5 hL hT hE ha hn
      go_enter Tryd.func12, Tryd.ntmps12
      go_wp2_with fail
      refine (HP.out _).mono ?_
      rintro e w1 ⟨rfl, rfl⟩
      go_wp2_with fail
      refine H4.out.mono ?_
      rintro e w1 ⟨rfl, k1⟩
      have HK := Lib.hid (HA.out.trans (k1.mono (by simp)))
      have HB1 := Lib.hid (HB.out.below k1 (by simp))
      have HF1 := Lib.hid (HF.out.below k1 (by simp))
      have HS : Hid (w.heap.size < w1.heap.size) := Lib.hid (by have := k1.size; simp at this; omega)
      clear k1
      go_wp2_with fail
      refine (H6.out _).mono ?_
      rintro e w2 ⟨rfl, k2⟩
      have HK2 := Lib.hid (HK.out.trans (k2.mono HK.out.size))
      obtain ⟨c0, c1, c2, c3⟩ := HB1.out.below k2 HS.out
      obtain ⟨f0, f1, f2, f3⟩ := HF1.out.below k2 HS.out
      clear k2
      go_wp2_with fail
      refine bodyPost_ret (v := .tuple #[.agg #[.int .i64 1, .int .i64 n, .string ⟨#[]⟩, .bool false], .int .i64 0]) ?_ rfl ⟨rfl, ?_⟩
      · rw [results_cell_tmp rfl]
        go_simp
      · repeat' (first | exact HK2.out | refine Below.setCell ?_ (by simp) _)
    · rw [parsed_no h1 h2 h3 h5]
      have H4 := Lib.hid h4
      obtain ⟨n, hn⟩ : ∃ n, n = pn s.data.toList := ⟨_, rfl⟩
      obtain ⟨q, hq⟩ : ∃ q, q = pe s.data.toList := ⟨_, rfl⟩
      rw [← hn, ← hq] at H4
      rw [← hq] at h5 ⊢
      have t4 : (q != 0) = true := by simpa using h5
      clear h1 h2 h3 h4 h5 hL hT hE ha hn hq
      go_enter Tryd.func12, Tryd.ntmps12
      go_wp2_with fail
      refine (HP.out _).mono ?_
      rintro e w1 ⟨rfl, rfl⟩
      go_wp2_with fail
      refine H4.out.mono ?_
      rintro e w1 ⟨rfl, k1⟩
      obtain ⟨c0, c1, c2, c3⟩ := HB.out.below k1 (by simp)
      obtain ⟨f0, f1, f2, f3⟩ := HF.out.below k1 (by simp)
      have HK := Lib.hid (HA.out.trans (k1.mono (by simp)))
      clear k1
      go_wp2_with fail
      refine bodyPost_ret (v := .tuple #[.agg #[.int .i64 0, .int .i64 0, .string ⟨#[]⟩, .bool false], .int .i64 q]) ?_ rfl ⟨rfl, ?_⟩
      · rw [results_cell_tmp rfl]
        go_simp
      · repeat' (first | exact HK.out | refine Below.setCell ?_ (by simp) _)
end Go.Proofs.YtmpoloninpakbaaDoor
