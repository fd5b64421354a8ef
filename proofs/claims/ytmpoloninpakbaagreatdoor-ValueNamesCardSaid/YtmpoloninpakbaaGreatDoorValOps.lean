/- What operators make of values: value.Op and what it calls. -/
import Derived.Test.YtmpoloninpakbaaGreatDoorValType
import Derived.Test.YtmpoloninpakbaaGreatDoorValParse
import Derived.Test.YtmpoloninpakbaaGreatDoorNumOps
namespace Go.Proofs.YtmpoloninpakbaaGreatDoor
open Go.RowKit
set_option linter.unusedVariables false

set_option maxHeartbeats 1000000 in
theorem ofNumbers_of (o x y n r : Int) (w : World) (h : ∀ w1, Calls Tryz.prog 32 #[.int .i64 o, .int .i64 x, .int .i64 y] w1 fun e w' => e = .returned (.tuple #[.int .i64 n, .int .i64 r]) ∧ w1 = w') :
    Calls Tryz.prog 19 #[.int .i64 o, .int .i64 x, .int .i64 y] w fun e w' => e = .returned (numV n r).val ∧ Below w.heap.size w w' := by
  have HA := Lib.hid (fun o => (Below.refl w.heap.size w).alloc (Nat.le_refl _) o)
  have HB := Lib.hid (Boxed.new 0 0 ⟨#[]⟩ false w 23)
  have HF := Lib.hid (Free4.new #[.int .i64 0, .int .i64 0, .string ⟨#[]⟩, .bool false] w 23)
  have H1 := Lib.hid h
  clear h
  by_cases hr : r = 0
  · have e1 : numV n r = ⟨1, n, ⟨#[]⟩, false, 0⟩ := by unfold numV; rw [if_pos hr]
    rw [e1]
    subst hr
    have H2 := Lib.hid (fun w1 => vInt_calls n w1)
    clear e1
    go_enter Tryz.func19, Tryz.ntmps19
    go_wp2_with fail
    refine (H1.out _).mono ?_
    rintro e w1 ⟨rfl, rfl⟩
    go_wp2_with fail
    refine (H2.out _).mono ?_
    rintro e w1 ⟨rfl, k1⟩
    obtain ⟨c0, c1, c2, c3⟩ := HB.out.below k1 (by simp)
    obtain ⟨f0, f1, f2, f3⟩ := HF.out.below k1 (by simp)
    have HK := Lib.hid ((HA.out _).trans (k1.mono (by simp)))
    clear k1
    go_wp2_with fail
    refine bodyPost_ret (v := .tuple #[.agg #[.int .i64 1, .int .i64 n, .string ⟨#[]⟩, .bool false], .int .i64 0]) ?_ rfl ⟨rfl, ?_⟩
    · rw [results_cell_tmp rfl]
      go_simp
    · repeat' (first | exact HK.out | refine Below.setCell ?_ (by simp) _)
  · have e1 : numV n r = badV r := by unfold numV; rw [if_neg hr]
    rw [e1]
    have t1 : (r != 0) = true := by simpa using hr
    clear e1 hr
    go_enter Tryz.func19, Tryz.ntmps19
    go_wp2_with fail
    refine (H1.out _).mono ?_
    rintro e w1 ⟨rfl, rfl⟩
    go_wp2_with fail
    refine bodyPost_ret (v := .tuple #[.agg #[.int .i64 0, .int .i64 0, .string ⟨#[]⟩, .bool false], .int .i64 r]) ?_ rfl ⟨rfl, ?_⟩
    · rw [results_cell_tmp rfl]
      go_simp
    · exact HA.out _

theorem ofNumbers_calls (o x y : Int) (w : World) (ho : numOp o) (hx : -9223372036854775808 ≤ x ∧ x ≤ 9223372036854775807) (hy : -9223372036854775808 ≤ y ∧ y ≤ 9223372036854775807) :
    Calls Tryz.prog 19 #[.int .i64 o, .int .i64 x, .int .i64 y] w fun e w' => e = .returned (arithV o x y).val ∧ Below w.heap.size w w' := by
  rcases ho with rfl | rfl | rfl | rfl | rfl | rfl
  · exact ofNumbers_of 5 x y _ _ w fun w1 => op5_calls x y w1 hx hy
  · exact ofNumbers_of 8 x y _ _ w fun w1 => op8_calls x y w1 hx hy
  · exact ofNumbers_of 9 x y _ _ w fun w1 => op9_calls x y w1 hx hy
  · exact ofNumbers_of 10 x y _ _ w fun w1 => op10_calls x y w1 hx hy
  · exact ofNumbers_of 11 x y _ _ w fun w1 => op11_calls x y w1 hx hy
  · exact ofNumbers_of 12 x y _ _ w fun w1 => op12_calls x y w1 hx hy

set_option maxHeartbeats 1000000 in
set_option maxRecDepth 100000 in
theorem truth_calls (o : Int) (k i : Int) (s : ByteArray) (b : Bool) (k' i' : Int) (s' : ByteArray) (b' : Bool) (w : World) :
    Calls Tryz.prog 20 #[.int .i64 o, .agg #[.int .i64 k, .int .i64 i, .string s, .bool b], .agg #[.int .i64 k', .int .i64 i', .string s', .bool b']] w fun e w' => e = .returned (.bool (truthB o k i s b k' i' s' b')) ∧ Below w.heap.size w w' := by
  have HA : Hid (∀ o1 o2, Below w.heap.size w ((w.alloc o1).alloc o2)) := Lib.hid (fun o1 o2 => ((Below.refl _ _).alloc (Nat.le_refl _) _).alloc (by simp) _)
  by_cases h1 : o = 4 ∨ o = 6 ∨ o = 7
  · have hr : truthB o k i s b k' i' s' b' = (if o = 4 then !b else if o = 6 then b && b' else b || b') := by rcases h1 with rfl | rfl | rfl <;> simp [truthB]
    rw [hr]
    clear hr
    rcases h1 with rfl | rfl | rfl <;> cases b <;> cases b'
    all_goals
      go_enter Tryz.func20, Tryz.ntmps20
      go_wp2_with fail
      go_ret
      exact ⟨rfl, HA.out _ _⟩
  have t4 : (o == 4) = false := by rw [beq_eq_false_iff_ne]; exact fun e => h1 (.inl e)
  have t6 : (o == 6) = false := by rw [beq_eq_false_iff_ne]; exact fun e => h1 (.inr (.inl e))
  have t7 : (o == 7) = false := by rw [beq_eq_false_iff_ne]; exact fun e => h1 (.inr (.inr e))
  have q1 := fun w => eqIn k i s b k' i' s' b' w
  have q2 := guardV
  by_cases h13 : o = 13
  · have hr : truthB o k i s b k' i' s' b' = eqB k i s b k' i' s' b' := by subst h13; simp [truthB]
    rw [hr]
    have t13 : (o == 13) = true := by simpa using h13
    clear h1 h13 hr
    go_enter Tryz.func20, Tryz.ntmps20
    go_wp2_with fail
    go_ret
    exact ⟨rfl, HA.out _ _⟩
  have t13 : (o == 13) = false := by simpa using h13
  by_cases h14 : o = 14
  · have hr : truthB o k i s b k' i' s' b' = !eqB k i s b k' i' s' b' := by subst h14; simp [truthB]
    rw [hr]
    have t14 : (o == 14) = true := by simpa using h14
    clear h1 h13 h14 hr
    go_enter Tryz.func20, Tryz.ntmps20
    go_wp2_with fail
    go_ret
    exact ⟨rfl, HA.out _ _⟩
  have t14 : (o == 14) = false := by simpa using h14
  clear q1 q2
  by_cases h15 : o = 15
  · have hr : truthB o k i s b k' i' s' b' = lessB k i s b k' i' s' b' := by subst h15; simp [truthB]
    rw [hr]
    have t15 : (o == 15) = true := by simpa using h15
    have H1 := Lib.hid (fun w1 => vLess_calls k i s b k' i' s' b' w1)
    clear h1 h13 h14 h15 hr
    go_enter Tryz.func20, Tryz.ntmps20
    go_wp2_with fail
    refine (H1.out _).mono ?_
    rintro e w1 ⟨rfl, k1⟩
    go_wp2_with fail
    go_ret
    exact ⟨rfl, (HA.out _ _).trans (k1.mono (by simp; omega))⟩
  · have hr : truthB o k i s b k' i' s' b' = !lessB k' i' s' b' k i s b := by
      unfold truthB
      rw [if_neg (fun e => h1 (.inl e)), if_neg (fun e => h1 (.inr (.inl e))), if_neg (fun e => h1 (.inr (.inr e))), if_neg h13, if_neg h14, if_neg h15]
    rw [hr]
    have t15 : (o == 15) = false := by simpa using h15
    have H1 := Lib.hid (fun w1 => vLess_calls k' i' s' b' k i s b w1)
    clear h1 h13 h14 h15 hr
    go_enter Tryz.func20, Tryz.ntmps20
    go_wp2_with fail
    refine (H1.out _).mono ?_
    rintro e w1 ⟨rfl, k1⟩
    go_wp2_with fail
    go_ret
    exact ⟨rfl, (HA.out _ _).trans (k1.mono (by simp; omega))⟩

theorem add_size (s s' : ByteArray) : (s ++ s').size = s.size + s'.size := by simp

theorem new3 (o : Int) (k i : Int) (s : ByteArray) (b : Bool) (k' i' : Int) (s' : ByteArray) (b' : Bool) (w : World) : Below w.heap.size w (((w.alloc (.cells #[.int .i64 k, .int .i64 i, .string s, .bool b] 23)).alloc (.cells #[.int .i64 k', .int .i64 i', .string s', .bool b'] 23)).alloc (.cells #[.int .i64 0, .int .i64 0, .string ⟨#[]⟩, .bool false] 23)) ∧ Boxed (w.heap.size + 1 + 1) 0 0 ⟨#[]⟩ false (((w.alloc (.cells #[.int .i64 k, .int .i64 i, .string s, .bool b] 23)).alloc (.cells #[.int .i64 k', .int .i64 i', .string s', .bool b'] 23)).alloc (.cells #[.int .i64 0, .int .i64 0, .string ⟨#[]⟩, .bool false] 23)) ∧ Free4 (w.heap.size + 1 + 1) (((w.alloc (.cells #[.int .i64 k, .int .i64 i, .string s, .bool b] 23)).alloc (.cells #[.int .i64 k', .int .i64 i', .string s', .bool b'] 23)).alloc (.cells #[.int .i64 0, .int .i64 0, .string ⟨#[]⟩, .bool false] 23)) := by
  have n2 : ((w.alloc (.cells #[.int .i64 k, .int .i64 i, .string s, .bool b] 23)).alloc (.cells #[.int .i64 k', .int .i64 i', .string s', .bool b'] 23)).heap.size = w.heap.size + 1 + 1 := by simp
  have x2 := Boxed.new 0 0 ⟨#[]⟩ false ((w.alloc (.cells #[.int .i64 k, .int .i64 i, .string s, .bool b] 23)).alloc (.cells #[.int .i64 k', .int .i64 i', .string s', .bool b'] 23)) 23
  have x3 := Free4.new #[.int .i64 0, .int .i64 0, .string ⟨#[]⟩, .bool false] ((w.alloc (.cells #[.int .i64 k, .int .i64 i, .string s, .bool b] 23)).alloc (.cells #[.int .i64 k', .int .i64 i', .string s', .bool b'] 23)) 23
  rw [n2] at x2 x3
  exact ⟨(((Below.refl _ w).alloc (Nat.le_refl _) _).alloc (by simp) _).alloc (by simp; omega) _, x2, x3⟩

set_option maxHeartbeats 2000000 in
set_option maxRecDepth 100000 in
theorem vOp_calls (o : Int) (k i : Int) (s : ByteArray) (b : Bool) (k' i' : Int) (s' : ByteArray) (b' : Bool) (w : World) (hi : -9223372036854775808 ≤ i ∧ i ≤ 9223372036854775807) (hi' : -9223372036854775808 ≤ i' ∧ i' ≤ 9223372036854775807) (hs : s.size ≤ 4096) (hs' : s'.size ≤ 4096) :
    Calls Tryz.prog 8 #[.int .i64 o, .agg #[.int .i64 k, .int .i64 i, .string s, .bool b], .agg #[.int .i64 k', .int .i64 i', .string s', .bool b']] w fun e w' => e = .returned (opV o k i s b k' i' s' b').val ∧ Below w.heap.size w w' := by
  obtain ⟨ha, hb, hf⟩ := new3 o k i s b k' i' s' b' w
  have HA := Lib.hid ha
  have HB := Lib.hid hb
  have HF := Lib.hid hf
  clear ha hb hf
  by_cases ho : o < 4 ∨ 16 < o
  · have hr : opV o k i s b k' i' s' b' = badV 1 := by unfold opV; rw [if_pos ho]
    rw [hr]
    by_cases h4 : o < 4
    · have t1 : decide (o < 4) = true := by simpa using h4
      clear hr ho h4
      go_enter Tryz.func8, Tryz.ntmps8
      go_wp2_with fail
      refine bodyPost_ret (v := .tuple #[.agg #[.int .i64 0, .int .i64 0, .string ⟨#[]⟩, .bool false], .int .i64 1]) ?_ rfl ⟨rfl, ?_⟩
      · rw [results_cell_tmp rfl]
        go_simp
      · exact HA.out
    · have t1 : decide (o < 4) = false := by simpa using h4
      have t2 : decide ((16 : Int) < o) = true := by simp; omega
      clear hr ho h4
      go_enter Tryz.func8, Tryz.ntmps8
      go_wp2_with fail
      refine bodyPost_ret (v := .tuple #[.agg #[.int .i64 0, .int .i64 0, .string ⟨#[]⟩, .bool false], .int .i64 1]) ?_ rfl ⟨rfl, ?_⟩
      · rw [results_cell_tmp rfl]
        go_simp
      · exact HA.out
  have t1 : decide (o < 4) = false := by simp; omega
  have t2 : decide ((16 : Int) < o) = false := by simp; omega
  have HT := Lib.hid (fun w1 => vType_calls o k k' w1)
  by_cases ht : typeV o k k' = 0
  · have hr : opV o k i s b k' i' s' b' = badV 8 := by unfold opV; rw [if_neg ho, if_pos ht]
    rw [hr]
    rw [ht] at HT
    clear hr ho ht
    go_enter Tryz.func8, Tryz.ntmps8
    go_wp2_with fail
    refine (HT.out _).mono ?_
    rintro e w1 ⟨rfl, rfl⟩
    go_wp2_with fail
    refine bodyPost_ret (v := .tuple #[.agg #[.int .i64 0, .int .i64 0, .string ⟨#[]⟩, .bool false], .int .i64 8]) ?_ rfl ⟨rfl, ?_⟩
    · rw [results_cell_tmp rfl]
      go_simp
    · exact HA.out
  obtain ⟨ty, hty⟩ : ∃ ty, ty = typeV o k k' := ⟨_, rfl⟩
  have t3 : (ty == 0) = false := by rw [beq_eq_false_iff_ne, hty]; exact ht
  by_cases h8 : o = 8 ∧ k = 2
  · have hr : opV o k i s b k' i' s' b' = strOp s s' := by unfold opV; rw [if_neg ho, if_neg ht, if_pos h8]
    rw [hr]
    rw [← hty] at HT
    have h5 := fun w1 => vFitting_calls (s ++ s') w1 (by rw [add_size]; omega)
    obtain ⟨U, hU⟩ : ∃ U, U = s ++ s' := ⟨_, rfl⟩
    have hc : ∀ w, (Op.stringOp .add s s').run Tryz.prog w = .ok (.string U) w := fun w => by rw [hU]; exact run_string_add_sum w s s' (by omega)
    rw [← hU] at h5
    obtain ⟨rfl, rfl⟩ := h8
    by_cases h6 : 4096 < s.size + s'.size
    · have hr2 : strOp s s' = badV 3 := by unfold strOp; rw [if_pos h6]
      rw [hr2]
      simp only [if_pos (show 4096 < U.size by rw [hU, add_size]; exact h6)] at h5
      have H5 := Lib.hid h5
      clear hr hr2 ho ht h5 h6 hU hty t1 t2
      go_enter Tryz.func8, Tryz.ntmps8
      go_wp2_with fail
      refine (HT.out _).mono ?_
      rintro e w1 ⟨rfl, rfl⟩
      go_wp2_with fail
      refine (H5.out _).mono ?_
      rintro e w1 ⟨rfl, k1⟩
      obtain ⟨c0, c1, c2, c3⟩ := HB.out.below k1 (by simp)
      obtain ⟨f0, f1, f2, f3⟩ := HF.out.below k1 (by simp)
      have HK := Lib.hid (HA.out.trans (k1.mono HA.out.size))
      clear k1
      go_wp2_with fail
      refine bodyPost_ret (v := .tuple #[.agg #[.int .i64 0, .int .i64 0, .string ⟨#[]⟩, .bool false], .int .i64 3]) ?_ rfl ⟨rfl, ?_⟩
      · rw [results_cell_tmp rfl]
        go_simp
      · repeat' (first | exact HK.out | refine Below.setCell ?_ (by simp; omega) _)
    · have hr2 : strOp s s' = ⟨2, 0, s ++ s', false, 0⟩ := by unfold strOp; rw [if_neg h6]
      rw [hr2, ← hU]
      simp only [if_neg (show ¬ 4096 < U.size by rw [hU, add_size]; exact h6)] at h5
      have H5 := Lib.hid h5
      clear hr hr2 ho ht h5 h6 hU hty t1 t2
      go_enter Tryz.func8, Tryz.ntmps8
      go_wp2_with fail
      refine (HT.out _).mono ?_
      rintro e w1 ⟨rfl, rfl⟩
      go_wp2_with fail
      refine (H5.out _).mono ?_
      rintro e w1 ⟨rfl, k1⟩
      obtain ⟨c0, c1, c2, c3⟩ := HB.out.below k1 (by simp)
      obtain ⟨f0, f1, f2, f3⟩ := HF.out.below k1 (by simp)
      have HK := Lib.hid (HA.out.trans (k1.mono HA.out.size))
      clear k1
      go_wp2_with fail
      refine bodyPost_ret (v := .tuple #[.agg #[.int .i64 2, .int .i64 0, .string U, .bool false], .int .i64 0]) ?_ rfl ⟨rfl, ?_⟩
      · rw [results_cell_tmp rfl]
        go_simp
      · repeat' (first | exact HK.out | refine Below.setCell ?_ (by simp; omega) _)
  by_cases hn : numOp o
  · have hr : opV o k i s b k' i' s' b' = arithV o i i' := by unfold opV; rw [if_neg ho, if_neg ht, if_neg h8, if_pos hn]
    rw [hr]
    have h5 := fun w1 => ofNumbers_calls o i i' w1 hn hi hi'
    have t4 : o = 8 → (k == 2) = false := fun e => by rw [beq_eq_false_iff_ne]; exact fun f => h8 ⟨e, f⟩
    rcases hn with rfl | rfl | rfl | rfl | rfl | rfl
    all_goals (rw [← hty] at HT)
    all_goals (obtain ⟨qk, qi, qs, qb, qe, hv⟩ := (arithV _ i i').val_eq)
    all_goals (rw [hv] at h5 ⊢)
    all_goals (have H5 := Lib.hid h5)
    all_goals (first | (have t5 := t4 rfl) | skip)
    all_goals (clear hr ho ht h5 hv hty t1 t2 h8 t4)
    all_goals (go_enter Tryz.func8, Tryz.ntmps8)
    all_goals (go_wp2_with fail)
    all_goals (refine (HT.out _).mono ?_)
    all_goals (rintro e w1 ⟨rfl, rfl⟩)
    all_goals (go_wp2_with fail)
    all_goals (refine (H5.out _).mono ?_)
    all_goals (rintro e w1 ⟨rfl, k1⟩)
    all_goals (obtain ⟨c0, c1, c2, c3⟩ := HB.out.below k1 (by simp))
    all_goals (obtain ⟨f0, f1, f2, f3⟩ := HF.out.below k1 (by simp))
    all_goals (have HK := Lib.hid (HA.out.trans (k1.mono HA.out.size)))
    all_goals (clear k1)
    all_goals (go_wp2_with fail)
    all_goals
      refine bodyPost_ret (v := .tuple #[.agg #[.int .i64 qk, .int .i64 qi, .string qs, .bool qb], .int .i64 qe]) ?_ rfl ⟨rfl, ?_⟩
      · rw [results_cell_tmp rfl]
        go_simp
      · repeat' (first | exact HK.out | refine Below.setCell ?_ (by simp; omega) _)
  · have hr : opV o k i s b k' i' s' b' = truV (truthB o k i s b k' i' s' b') := by unfold opV; rw [if_neg ho, if_neg ht, if_neg h8, if_neg hn]
    rw [hr]
    rw [← hty] at HT
    have h5 := fun w1 => truth_calls o k i s b k' i' s' b' w1
    obtain ⟨q, hq⟩ : ∃ q, q = truthB o k i s b k' i' s' b' := ⟨_, rfl⟩
    rw [← hq] at h5 ⊢
    have H5 := Lib.hid h5
    have H6 := Lib.hid (fun w1 => vBool_calls q w1)
    have u5 : (o == 5) = false := by rw [beq_eq_false_iff_ne]; exact fun e => hn (.inl e)
    have u8 : (o == 8) = false := by rw [beq_eq_false_iff_ne]; exact fun e => hn (.inr (.inl e))
    have u9 : (o == 9) = false := by rw [beq_eq_false_iff_ne]; exact fun e => hn (.inr (.inr (.inl e)))
    have u10 : (o == 10) = false := by rw [beq_eq_false_iff_ne]; exact fun e => hn (.inr (.inr (.inr (.inl e))))
    have u11 : (o == 11) = false := by rw [beq_eq_false_iff_ne]; exact fun e => hn (.inr (.inr (.inr (.inr (.inl e)))))
    have u12 : (o == 12) = false := by rw [beq_eq_false_iff_ne]; exact fun e => hn (.inr (.inr (.inr (.inr (.inr e)))))
    clear hr ho ht h5 h8 hn hq hty
    go_enter Tryz.func8, Tryz.ntmps8
    go_wp2_with fail
    refine (HT.out _).mono ?_
    rintro e w1 ⟨rfl, rfl⟩
    go_wp2_with fail
    refine (H5.out _).mono ?_
    rintro e w1 ⟨rfl, k1⟩
    have HK := Lib.hid (HA.out.trans (k1.mono HA.out.size))
    have HB1 := Lib.hid (HB.out.below k1 (by simp))
    have HF1 := Lib.hid (HF.out.below k1 (by simp))
    have HS : Hid (w.heap.size + 1 + 1 < w1.heap.size) := Lib.hid (by have := k1.size; simp at this; omega)
    clear k1
    go_wp2_with fail
    refine (H6.out _).mono ?_
    rintro e w2 ⟨rfl, k2⟩
    have HK2 := Lib.hid (HK.out.trans (k2.mono HK.out.size))
    obtain ⟨c0, c1, c2, c3⟩ := HB1.out.below k2 HS.out
    obtain ⟨f0, f1, f2, f3⟩ := HF1.out.below k2 HS.out
    clear k2
    go_wp2_with fail
    refine bodyPost_ret (v := .tuple #[.agg #[.int .i64 3, .int .i64 0, .string ⟨#[]⟩, .bool q], .int .i64 0]) ?_ rfl ⟨rfl, ?_⟩
    · rw [results_cell_tmp rfl]
      go_simp
    · repeat' (first | exact HK2.out | refine Below.setCell ?_ (by simp; omega) _)
end Go.Proofs.YtmpoloninpakbaaGreatDoor
