/- What operators make of values: the reference's Op. -/
import Derived.Test.YtmpoloninpakbaaGreatDoorValRefArith
namespace Go.Proofs.YtmpoloninpakbaaGreatDoor
open Go.RowKit
set_option linter.unusedVariables false

set_option maxHeartbeats 2000000 in
set_option maxRecDepth 100000 in
theorem refOp_a (o : Int) (k : Int) (i : Int) (s : ByteArray) (b : Bool) (k' : Int) (i' : Int) (s' : ByteArray) (b' : Bool) (w : World) (hi : -9223372036854775808 ≤ i ∧ i ≤ 9223372036854775807) (hi' : -9223372036854775808 ≤ i' ∧ i' ≤ 9223372036854775807) (hs : s.size ≤ 4096) (hs' : s'.size ≤ 4096) (t1 : decide (o < 4) = true) :
    Calls Tryz.prog 9 #[.int .i64 o, .agg #[.int .i64 k, .int .i64 i, .string s, .bool b], .agg #[.int .i64 k', .int .i64 i', .string s', .bool b']] w fun e w' => e = .returned (badV 1).val ∧ Below w.heap.size w w' := by
  obtain ⟨ha, hb, hf⟩ := new3 o k i s b k' i' s' b' w
  have HA := Lib.hid ha
  have HB := Lib.hid hb
  have HF := Lib.hid hf
  clear ha hb hf
  go_enter Tryz.func9, Tryz.ntmps9
  go_wp2_with fail
  refine bodyPost_ret (v := .tuple #[.agg #[.int .i64 0, .int .i64 0, .string ⟨#[]⟩, .bool false], .int .i64 1]) ?_ rfl ⟨rfl, ?_⟩
  · rw [results_cell_tmp rfl]
    go_simp
  · exact HA.out

set_option maxHeartbeats 2000000 in
set_option maxRecDepth 100000 in
theorem refOp_b (o : Int) (k : Int) (i : Int) (s : ByteArray) (b : Bool) (k' : Int) (i' : Int) (s' : ByteArray) (b' : Bool) (w : World) (hi : -9223372036854775808 ≤ i ∧ i ≤ 9223372036854775807) (hi' : -9223372036854775808 ≤ i' ∧ i' ≤ 9223372036854775807) (hs : s.size ≤ 4096) (hs' : s'.size ≤ 4096) (t1 : decide (o < 4) = false) (t2 : decide ((16 : Int) < o) = true) :
    Calls Tryz.prog 9 #[.int .i64 o, .agg #[.int .i64 k, .int .i64 i, .string s, .bool b], .agg #[.int .i64 k', .int .i64 i', .string s', .bool b']] w fun e w' => e = .returned (badV 1).val ∧ Below w.heap.size w w' := by
  obtain ⟨ha, hb, hf⟩ := new3 o k i s b k' i' s' b' w
  have HA := Lib.hid ha
  have HB := Lib.hid hb
  have HF := Lib.hid hf
  clear ha hb hf
  go_enter Tryz.func9, Tryz.ntmps9
  go_wp2_with fail
  refine bodyPost_ret (v := .tuple #[.agg #[.int .i64 0, .int .i64 0, .string ⟨#[]⟩, .bool false], .int .i64 1]) ?_ rfl ⟨rfl, ?_⟩
  · rw [results_cell_tmp rfl]
    go_simp
  · exact HA.out

set_option maxHeartbeats 2000000 in
set_option maxRecDepth 100000 in
theorem refOp_4n (k : Int) (i : Int) (s : ByteArray) (b : Bool) (k' : Int) (i' : Int) (s' : ByteArray) (b' : Bool) (w : World) (hi : -9223372036854775808 ≤ i ∧ i ≤ 9223372036854775807) (hi' : -9223372036854775808 ≤ i' ∧ i' ≤ 9223372036854775807) (hs : s.size ≤ 4096) (hs' : s'.size ≤ 4096) (t3 : (k != 3) = true) :
    Calls Tryz.prog 9 #[.int .i64 4, .agg #[.int .i64 k, .int .i64 i, .string s, .bool b], .agg #[.int .i64 k', .int .i64 i', .string s', .bool b']] w fun e w' => e = .returned (badV 8).val ∧ Below w.heap.size w w' := by
  obtain ⟨ha, hb, hf⟩ := new3 4 k i s b k' i' s' b' w
  have HA := Lib.hid ha
  have HB := Lib.hid hb
  have HF := Lib.hid hf
  clear ha hb hf
  go_enter Tryz.func9, Tryz.ntmps9
  go_wp2_with fail
  refine bodyPost_ret (v := .tuple #[.agg #[.int .i64 0, .int .i64 0, .string ⟨#[]⟩, .bool false], .int .i64 8]) ?_ rfl ⟨rfl, ?_⟩
  · rw [results_cell_tmp rfl]
    go_simp
  · exact HA.out

set_option maxHeartbeats 2000000 in
set_option maxRecDepth 100000 in
theorem refOp_4y (i : Int) (s : ByteArray) (b : Bool) (k' : Int) (i' : Int) (s' : ByteArray) (b' : Bool) (w : World) (hi : -9223372036854775808 ≤ i ∧ i ≤ 9223372036854775807) (hi' : -9223372036854775808 ≤ i' ∧ i' ≤ 9223372036854775807) (hs : s.size ≤ 4096) (hs' : s'.size ≤ 4096)  :
    Calls Tryz.prog 9 #[.int .i64 4, .agg #[.int .i64 3, .int .i64 i, .string s, .bool b], .agg #[.int .i64 k', .int .i64 i', .string s', .bool b']] w fun e w' => e = .returned (truV !b).val ∧ Below w.heap.size w w' := by
  obtain ⟨ha, hb, hf⟩ := new3 4 3 i s b k' i' s' b' w
  have HA := Lib.hid ha
  have HB := Lib.hid hb
  have HF := Lib.hid hf
  clear ha hb hf
  have h1 := fun w1 => refTruth_calls (!b) w1
  obtain ⟨qk, qi, qs, qb, qe, hv⟩ := (truV !b).val_eq
  rw [hv] at h1 ⊢
  have H1 := Lib.hid h1
  clear h1 hv
  go_enter Tryz.func9, Tryz.ntmps9
  go_wp2_with fail
  refine (H1.out _).mono ?_
  rintro e w1 ⟨rfl, k1⟩
  obtain ⟨c0, c1, c2, c3⟩ := HB.out.below k1 (by simp)
  obtain ⟨f0, f1, f2, f3⟩ := HF.out.below k1 (by simp)
  have HK := Lib.hid (HA.out.trans (k1.mono HA.out.size))
  clear k1
  go_wp2_with fail
  refine bodyPost_ret (v := .tuple #[.agg #[.int .i64 qk, .int .i64 qi, .string qs, .bool qb], .int .i64 qe]) ?_ rfl ⟨rfl, ?_⟩
  · rw [results_cell_tmp rfl]
    go_simp
  · repeat' (first | exact HK.out | refine Below.setCell ?_ (by simp; omega) _)

set_option maxHeartbeats 2000000 in
set_option maxRecDepth 100000 in
theorem refOp_5n (k : Int) (i : Int) (s : ByteArray) (b : Bool) (k' : Int) (i' : Int) (s' : ByteArray) (b' : Bool) (w : World) (hi : -9223372036854775808 ≤ i ∧ i ≤ 9223372036854775807) (hi' : -9223372036854775808 ≤ i' ∧ i' ≤ 9223372036854775807) (hs : s.size ≤ 4096) (hs' : s'.size ≤ 4096) (t3 : (k != 1) = true) :
    Calls Tryz.prog 9 #[.int .i64 5, .agg #[.int .i64 k, .int .i64 i, .string s, .bool b], .agg #[.int .i64 k', .int .i64 i', .string s', .bool b']] w fun e w' => e = .returned (badV 8).val ∧ Below w.heap.size w w' := by
  obtain ⟨ha, hb, hf⟩ := new3 5 k i s b k' i' s' b' w
  have HA := Lib.hid ha
  have HB := Lib.hid hb
  have HF := Lib.hid hf
  clear ha hb hf
  go_enter Tryz.func9, Tryz.ntmps9
  go_wp2_with fail
  refine bodyPost_ret (v := .tuple #[.agg #[.int .i64 0, .int .i64 0, .string ⟨#[]⟩, .bool false], .int .i64 8]) ?_ rfl ⟨rfl, ?_⟩
  · rw [results_cell_tmp rfl]
    go_simp
  · exact HA.out

set_option maxHeartbeats 2000000 in
set_option maxRecDepth 100000 in
theorem refOp_5y (i : Int) (s : ByteArray) (b : Bool) (k' : Int) (i' : Int) (s' : ByteArray) (b' : Bool) (w : World) (hi : -9223372036854775808 ≤ i ∧ i ≤ 9223372036854775807) (hi' : -9223372036854775808 ≤ i' ∧ i' ≤ 9223372036854775807) (hs : s.size ≤ 4096) (hs' : s'.size ≤ 4096)  :
    Calls Tryz.prog 9 #[.int .i64 5, .agg #[.int .i64 1, .int .i64 i, .string s, .bool b], .agg #[.int .i64 k', .int .i64 i', .string s', .bool b']] w fun e w' => e = .returned (arithV 5 i 0).val ∧ Below w.heap.size w w' := by
  obtain ⟨ha, hb, hf⟩ := new3 5 1 i s b k' i' s' b' w
  have HA := Lib.hid ha
  have HB := Lib.hid hb
  have HF := Lib.hid hf
  clear ha hb hf
  have h1 := fun w1 => arith5 i 0 w1 hi ⟨by omega, by omega⟩
  obtain ⟨qk, qi, qs, qb, qe, hv⟩ := (arithV 5 i 0).val_eq
  rw [hv] at h1 ⊢
  have H1 := Lib.hid h1
  clear h1 hv
  go_enter Tryz.func9, Tryz.ntmps9
  go_wp2_with fail
  refine (H1.out _).mono ?_
  rintro e w1 ⟨rfl, k1⟩
  obtain ⟨c0, c1, c2, c3⟩ := HB.out.below k1 (by simp)
  obtain ⟨f0, f1, f2, f3⟩ := HF.out.below k1 (by simp)
  have HK := Lib.hid (HA.out.trans (k1.mono HA.out.size))
  clear k1
  go_wp2_with fail
  refine bodyPost_ret (v := .tuple #[.agg #[.int .i64 qk, .int .i64 qi, .string qs, .bool qb], .int .i64 qe]) ?_ rfl ⟨rfl, ?_⟩
  · rw [results_cell_tmp rfl]
    go_simp
  · repeat' (first | exact HK.out | refine Below.setCell ?_ (by simp; omega) _)

set_option maxHeartbeats 2000000 in
set_option maxRecDepth 100000 in
theorem refOp_k (o : Int) (k : Int) (i : Int) (s : ByteArray) (b : Bool) (k' : Int) (i' : Int) (s' : ByteArray) (b' : Bool) (w : World) (hi : -9223372036854775808 ≤ i ∧ i ≤ 9223372036854775807) (hi' : -9223372036854775808 ≤ i' ∧ i' ≤ 9223372036854775807) (hs : s.size ≤ 4096) (hs' : s'.size ≤ 4096) (t1 : decide (o < 4) = false) (t2 : decide ((16 : Int) < o) = false) (t4 : (o == 4) = false) (t5 : (o == 5) = false) (t6 : (k != k') = true) :
    Calls Tryz.prog 9 #[.int .i64 o, .agg #[.int .i64 k, .int .i64 i, .string s, .bool b], .agg #[.int .i64 k', .int .i64 i', .string s', .bool b']] w fun e w' => e = .returned (badV 8).val ∧ Below w.heap.size w w' := by
  obtain ⟨ha, hb, hf⟩ := new3 o k i s b k' i' s' b' w
  have HA := Lib.hid ha
  have HB := Lib.hid hb
  have HF := Lib.hid hf
  clear ha hb hf
  go_enter Tryz.func9, Tryz.ntmps9
  go_wp2_with fail
  refine bodyPost_ret (v := .tuple #[.agg #[.int .i64 0, .int .i64 0, .string ⟨#[]⟩, .bool false], .int .i64 8]) ?_ rfl ⟨rfl, ?_⟩
  · rw [results_cell_tmp rfl]
    go_simp
  · exact HA.out

set_option maxHeartbeats 2000000 in
set_option maxRecDepth 100000 in
theorem refOp_13 (k : Int) (i : Int) (s : ByteArray) (b : Bool) (i' : Int) (s' : ByteArray) (b' : Bool) (w : World) (hi : -9223372036854775808 ≤ i ∧ i ≤ 9223372036854775807) (hi' : -9223372036854775808 ≤ i' ∧ i' ≤ 9223372036854775807) (hs : s.size ≤ 4096) (hs' : s'.size ≤ 4096) (t6 : (k != k) = false) :
    Calls Tryz.prog 9 #[.int .i64 13, .agg #[.int .i64 k, .int .i64 i, .string s, .bool b], .agg #[.int .i64 k, .int .i64 i', .string s', .bool b']] w fun e w' => e = .returned (truV (eqB k i s b k i' s' b')).val ∧ Below w.heap.size w w' := by
  obtain ⟨ha, hb, hf⟩ := new3 13 k i s b k i' s' b' w
  have HA := Lib.hid ha
  have HB := Lib.hid hb
  have HF := Lib.hid hf
  clear ha hb hf
  have q1 := fun w => eqIn k i s b k i' s' b' w
  have q2 := guardV
  obtain ⟨q, hq⟩ : ∃ q, q = eqB k i s b k i' s' b' := ⟨_, rfl⟩
  rw [← hq] at q1 ⊢
  have h1 := fun w1 => refTruth_calls q w1
  obtain ⟨qk, qi, qs, qb, qe, hv⟩ := (truV q).val_eq
  rw [hv] at h1 ⊢
  have H1 := Lib.hid h1
  clear h1 hv hq
  go_enter Tryz.func9, Tryz.ntmps9
  go_wp2_with fail
  refine (H1.out _).mono ?_
  rintro e w1 ⟨rfl, k1⟩
  obtain ⟨c0, c1, c2, c3⟩ := HB.out.below k1 (by simp)
  obtain ⟨f0, f1, f2, f3⟩ := HF.out.below k1 (by simp)
  have HK := Lib.hid (HA.out.trans (k1.mono HA.out.size))
  clear k1
  go_wp2_with fail
  refine bodyPost_ret (v := .tuple #[.agg #[.int .i64 qk, .int .i64 qi, .string qs, .bool qb], .int .i64 qe]) ?_ rfl ⟨rfl, ?_⟩
  · rw [results_cell_tmp rfl]
    go_simp
  · repeat' (first | exact HK.out | refine Below.setCell ?_ (by simp; omega) _)

set_option maxHeartbeats 2000000 in
set_option maxRecDepth 100000 in
theorem refOp_14 (k : Int) (i : Int) (s : ByteArray) (b : Bool) (i' : Int) (s' : ByteArray) (b' : Bool) (w : World) (hi : -9223372036854775808 ≤ i ∧ i ≤ 9223372036854775807) (hi' : -9223372036854775808 ≤ i' ∧ i' ≤ 9223372036854775807) (hs : s.size ≤ 4096) (hs' : s'.size ≤ 4096) (t6 : (k != k) = false) :
    Calls Tryz.prog 9 #[.int .i64 14, .agg #[.int .i64 k, .int .i64 i, .string s, .bool b], .agg #[.int .i64 k, .int .i64 i', .string s', .bool b']] w fun e w' => e = .returned (truV !(eqB k i s b k i' s' b')).val ∧ Below w.heap.size w w' := by
  obtain ⟨ha, hb, hf⟩ := new3 14 k i s b k i' s' b' w
  have HA := Lib.hid ha
  have HB := Lib.hid hb
  have HF := Lib.hid hf
  clear ha hb hf
  have q1 := fun w => eqIn k i s b k i' s' b' w
  have q2 := guardV
  obtain ⟨q, hq⟩ : ∃ q, q = eqB k i s b k i' s' b' := ⟨_, rfl⟩
  rw [← hq] at q1 ⊢
  have h1 := fun w1 => refTruth_calls (!q) w1
  obtain ⟨qk, qi, qs, qb, qe, hv⟩ := (truV !q).val_eq
  rw [hv] at h1 ⊢
  have H1 := Lib.hid h1
  clear h1 hv hq
  go_enter Tryz.func9, Tryz.ntmps9
  go_wp2_with fail
  refine (H1.out _).mono ?_
  rintro e w1 ⟨rfl, k1⟩
  obtain ⟨c0, c1, c2, c3⟩ := HB.out.below k1 (by simp)
  obtain ⟨f0, f1, f2, f3⟩ := HF.out.below k1 (by simp)
  have HK := Lib.hid (HA.out.trans (k1.mono HA.out.size))
  clear k1
  go_wp2_with fail
  refine bodyPost_ret (v := .tuple #[.agg #[.int .i64 qk, .int .i64 qi, .string qs, .bool qb], .int .i64 qe]) ?_ rfl ⟨rfl, ?_⟩
  · rw [results_cell_tmp rfl]
    go_simp
  · repeat' (first | exact HK.out | refine Below.setCell ?_ (by simp; omega) _)

set_option maxHeartbeats 2000000 in
set_option maxRecDepth 100000 in
theorem refOp_6tt (i : Int) (s : ByteArray) (i' : Int) (s' : ByteArray) (w : World) (hi : -9223372036854775808 ≤ i ∧ i ≤ 9223372036854775807) (hi' : -9223372036854775808 ≤ i' ∧ i' ≤ 9223372036854775807) (hs : s.size ≤ 4096) (hs' : s'.size ≤ 4096)  :
    Calls Tryz.prog 9 #[.int .i64 6, .agg #[.int .i64 3, .int .i64 i, .string s, .bool true], .agg #[.int .i64 3, .int .i64 i', .string s', .bool true]] w fun e w' => e = .returned (truV true).val ∧ Below w.heap.size w w' := by
  obtain ⟨ha, hb, hf⟩ := new3 6 3 i s true 3 i' s' true w
  have HA := Lib.hid ha
  have HB := Lib.hid hb
  have HF := Lib.hid hf
  clear ha hb hf
  have h1 := fun w1 => refTruth_calls true w1
  obtain ⟨qk, qi, qs, qb, qe, hv⟩ := (truV true).val_eq
  rw [hv] at h1 ⊢
  have H1 := Lib.hid h1
  clear h1 hv
  go_enter Tryz.func9, Tryz.ntmps9
  go_wp2_with fail
  refine (H1.out _).mono ?_
  rintro e w1 ⟨rfl, k1⟩
  obtain ⟨c0, c1, c2, c3⟩ := HB.out.below k1 (by simp)
  obtain ⟨f0, f1, f2, f3⟩ := HF.out.below k1 (by simp)
  have HK := Lib.hid (HA.out.trans (k1.mono HA.out.size))
  clear k1
  go_wp2_with fail
  refine bodyPost_ret (v := .tuple #[.agg #[.int .i64 qk, .int .i64 qi, .string qs, .bool qb], .int .i64 qe]) ?_ rfl ⟨rfl, ?_⟩
  · rw [results_cell_tmp rfl]
    go_simp
  · repeat' (first | exact HK.out | refine Below.setCell ?_ (by simp; omega) _)

set_option maxHeartbeats 2000000 in
set_option maxRecDepth 100000 in
theorem refOp_7tt (i : Int) (s : ByteArray) (i' : Int) (s' : ByteArray) (w : World) (hi : -9223372036854775808 ≤ i ∧ i ≤ 9223372036854775807) (hi' : -9223372036854775808 ≤ i' ∧ i' ≤ 9223372036854775807) (hs : s.size ≤ 4096) (hs' : s'.size ≤ 4096)  :
    Calls Tryz.prog 9 #[.int .i64 7, .agg #[.int .i64 3, .int .i64 i, .string s, .bool true], .agg #[.int .i64 3, .int .i64 i', .string s', .bool true]] w fun e w' => e = .returned (truV true).val ∧ Below w.heap.size w w' := by
  obtain ⟨ha, hb, hf⟩ := new3 7 3 i s true 3 i' s' true w
  have HA := Lib.hid ha
  have HB := Lib.hid hb
  have HF := Lib.hid hf
  clear ha hb hf
  have h1 := fun w1 => refTruth_calls true w1
  obtain ⟨qk, qi, qs, qb, qe, hv⟩ := (truV true).val_eq
  rw [hv] at h1 ⊢
  have H1 := Lib.hid h1
  clear h1 hv
  go_enter Tryz.func9, Tryz.ntmps9
  go_wp2_with fail
  refine (H1.out _).mono ?_
  rintro e w1 ⟨rfl, k1⟩
  obtain ⟨c0, c1, c2, c3⟩ := HB.out.below k1 (by simp)
  obtain ⟨f0, f1, f2, f3⟩ := HF.out.below k1 (by simp)
  have HK := Lib.hid (HA.out.trans (k1.mono HA.out.size))
  clear k1
  go_wp2_with fail
  refine bodyPost_ret (v := .tuple #[.agg #[.int .i64 qk, .int .i64 qi, .string qs, .bool qb], .int .i64 qe]) ?_ rfl ⟨rfl, ?_⟩
  · rw [results_cell_tmp rfl]
    go_simp
  · repeat' (first | exact HK.out | refine Below.setCell ?_ (by simp; omega) _)

set_option maxHeartbeats 2000000 in
set_option maxRecDepth 100000 in
theorem refOp_6tf (i : Int) (s : ByteArray) (i' : Int) (s' : ByteArray) (w : World) (hi : -9223372036854775808 ≤ i ∧ i ≤ 9223372036854775807) (hi' : -9223372036854775808 ≤ i' ∧ i' ≤ 9223372036854775807) (hs : s.size ≤ 4096) (hs' : s'.size ≤ 4096)  :
    Calls Tryz.prog 9 #[.int .i64 6, .agg #[.int .i64 3, .int .i64 i, .string s, .bool true], .agg #[.int .i64 3, .int .i64 i', .string s', .bool false]] w fun e w' => e = .returned (truV false).val ∧ Below w.heap.size w w' := by
  obtain ⟨ha, hb, hf⟩ := new3 6 3 i s true 3 i' s' false w
  have HA := Lib.hid ha
  have HB := Lib.hid hb
  have HF := Lib.hid hf
  clear ha hb hf
  have h1 := fun w1 => refTruth_calls false w1
  obtain ⟨qk, qi, qs, qb, qe, hv⟩ := (truV false).val_eq
  rw [hv] at h1 ⊢
  have H1 := Lib.hid h1
  clear h1 hv
  go_enter Tryz.func9, Tryz.ntmps9
  go_wp2_with fail
  refine (H1.out _).mono ?_
  rintro e w1 ⟨rfl, k1⟩
  obtain ⟨c0, c1, c2, c3⟩ := HB.out.below k1 (by simp)
  obtain ⟨f0, f1, f2, f3⟩ := HF.out.below k1 (by simp)
  have HK := Lib.hid (HA.out.trans (k1.mono HA.out.size))
  clear k1
  go_wp2_with fail
  refine bodyPost_ret (v := .tuple #[.agg #[.int .i64 qk, .int .i64 qi, .string qs, .bool qb], .int .i64 qe]) ?_ rfl ⟨rfl, ?_⟩
  · rw [results_cell_tmp rfl]
    go_simp
  · repeat' (first | exact HK.out | refine Below.setCell ?_ (by simp; omega) _)

set_option maxHeartbeats 2000000 in
set_option maxRecDepth 100000 in
theorem refOp_7tf (i : Int) (s : ByteArray) (i' : Int) (s' : ByteArray) (w : World) (hi : -9223372036854775808 ≤ i ∧ i ≤ 9223372036854775807) (hi' : -9223372036854775808 ≤ i' ∧ i' ≤ 9223372036854775807) (hs : s.size ≤ 4096) (hs' : s'.size ≤ 4096)  :
    Calls Tryz.prog 9 #[.int .i64 7, .agg #[.int .i64 3, .int .i64 i, .string s, .bool true], .agg #[.int .i64 3, .int .i64 i', .string s', .bool false]] w fun e w' => e = .returned (truV true).val ∧ Below w.heap.size w w' := by
  obtain ⟨ha, hb, hf⟩ := new3 7 3 i s true 3 i' s' false w
  have HA := Lib.hid ha
  have HB := Lib.hid hb
  have HF := Lib.hid hf
  clear ha hb hf
  have h1 := fun w1 => refTruth_calls true w1
  obtain ⟨qk, qi, qs, qb, qe, hv⟩ := (truV true).val_eq
  rw [hv] at h1 ⊢
  have H1 := Lib.hid h1
  clear h1 hv
  go_enter Tryz.func9, Tryz.ntmps9
  go_wp2_with fail
  refine (H1.out _).mono ?_
  rintro e w1 ⟨rfl, k1⟩
  obtain ⟨c0, c1, c2, c3⟩ := HB.out.below k1 (by simp)
  obtain ⟨f0, f1, f2, f3⟩ := HF.out.below k1 (by simp)
  have HK := Lib.hid (HA.out.trans (k1.mono HA.out.size))
  clear k1
  go_wp2_with fail
  refine bodyPost_ret (v := .tuple #[.agg #[.int .i64 qk, .int .i64 qi, .string qs, .bool qb], .int .i64 qe]) ?_ rfl ⟨rfl, ?_⟩
  · rw [results_cell_tmp rfl]
    go_simp
  · repeat' (first | exact HK.out | refine Below.setCell ?_ (by simp; omega) _)

set_option maxHeartbeats 2000000 in
set_option maxRecDepth 100000 in
theorem refOp_6ft (i : Int) (s : ByteArray) (i' : Int) (s' : ByteArray) (w : World) (hi : -9223372036854775808 ≤ i ∧ i ≤ 9223372036854775807) (hi' : -9223372036854775808 ≤ i' ∧ i' ≤ 9223372036854775807) (hs : s.size ≤ 4096) (hs' : s'.size ≤ 4096)  :
    Calls Tryz.prog 9 #[.int .i64 6, .agg #[.int .i64 3, .int .i64 i, .string s, .bool false], .agg #[.int .i64 3, .int .i64 i', .string s', .bool true]] w fun e w' => e = .returned (truV false).val ∧ Below w.heap.size w w' := by
  obtain ⟨ha, hb, hf⟩ := new3 6 3 i s false 3 i' s' true w
  have HA := Lib.hid ha
  have HB := Lib.hid hb
  have HF := Lib.hid hf
  clear ha hb hf
  have h1 := fun w1 => refTruth_calls false w1
  obtain ⟨qk, qi, qs, qb, qe, hv⟩ := (truV false).val_eq
  rw [hv] at h1 ⊢
  have H1 := Lib.hid h1
  clear h1 hv
  go_enter Tryz.func9, Tryz.ntmps9
  go_wp2_with fail
  refine (H1.out _).mono ?_
  rintro e w1 ⟨rfl, k1⟩
  obtain ⟨c0, c1, c2, c3⟩ := HB.out.below k1 (by simp)
  obtain ⟨f0, f1, f2, f3⟩ := HF.out.below k1 (by simp)
  have HK := Lib.hid (HA.out.trans (k1.mono HA.out.size))
  clear k1
  go_wp2_with fail
  refine bodyPost_ret (v := .tuple #[.agg #[.int .i64 qk, .int .i64 qi, .string qs, .bool qb], .int .i64 qe]) ?_ rfl ⟨rfl, ?_⟩
  · rw [results_cell_tmp rfl]
    go_simp
  · repeat' (first | exact HK.out | refine Below.setCell ?_ (by simp; omega) _)

set_option maxHeartbeats 2000000 in
set_option maxRecDepth 100000 in
theorem refOp_7ft (i : Int) (s : ByteArray) (i' : Int) (s' : ByteArray) (w : World) (hi : -9223372036854775808 ≤ i ∧ i ≤ 9223372036854775807) (hi' : -9223372036854775808 ≤ i' ∧ i' ≤ 9223372036854775807) (hs : s.size ≤ 4096) (hs' : s'.size ≤ 4096)  :
    Calls Tryz.prog 9 #[.int .i64 7, .agg #[.int .i64 3, .int .i64 i, .string s, .bool false], .agg #[.int .i64 3, .int .i64 i', .string s', .bool true]] w fun e w' => e = .returned (truV true).val ∧ Below w.heap.size w w' := by
  obtain ⟨ha, hb, hf⟩ := new3 7 3 i s false 3 i' s' true w
  have HA := Lib.hid ha
  have HB := Lib.hid hb
  have HF := Lib.hid hf
  clear ha hb hf
  have h1 := fun w1 => refTruth_calls true w1
  obtain ⟨qk, qi, qs, qb, qe, hv⟩ := (truV true).val_eq
  rw [hv] at h1 ⊢
  have H1 := Lib.hid h1
  clear h1 hv
  go_enter Tryz.func9, Tryz.ntmps9
  go_wp2_with fail
  refine (H1.out _).mono ?_
  rintro e w1 ⟨rfl, k1⟩
  obtain ⟨c0, c1, c2, c3⟩ := HB.out.below k1 (by simp)
  obtain ⟨f0, f1, f2, f3⟩ := HF.out.below k1 (by simp)
  have HK := Lib.hid (HA.out.trans (k1.mono HA.out.size))
  clear k1
  go_wp2_with fail
  refine bodyPost_ret (v := .tuple #[.agg #[.int .i64 qk, .int .i64 qi, .string qs, .bool qb], .int .i64 qe]) ?_ rfl ⟨rfl, ?_⟩
  · rw [results_cell_tmp rfl]
    go_simp
  · repeat' (first | exact HK.out | refine Below.setCell ?_ (by simp; omega) _)

set_option maxHeartbeats 2000000 in
set_option maxRecDepth 100000 in
theorem refOp_6ff (i : Int) (s : ByteArray) (i' : Int) (s' : ByteArray) (w : World) (hi : -9223372036854775808 ≤ i ∧ i ≤ 9223372036854775807) (hi' : -9223372036854775808 ≤ i' ∧ i' ≤ 9223372036854775807) (hs : s.size ≤ 4096) (hs' : s'.size ≤ 4096)  :
    Calls Tryz.prog 9 #[.int .i64 6, .agg #[.int .i64 3, .int .i64 i, .string s, .bool false], .agg #[.int .i64 3, .int .i64 i', .string s', .bool false]] w fun e w' => e = .returned (truV false).val ∧ Below w.heap.size w w' := by
  obtain ⟨ha, hb, hf⟩ := new3 6 3 i s false 3 i' s' false w
  have HA := Lib.hid ha
  have HB := Lib.hid hb
  have HF := Lib.hid hf
  clear ha hb hf
  have h1 := fun w1 => refTruth_calls false w1
  obtain ⟨qk, qi, qs, qb, qe, hv⟩ := (truV false).val_eq
  rw [hv] at h1 ⊢
  have H1 := Lib.hid h1
  clear h1 hv
  go_enter Tryz.func9, Tryz.ntmps9
  go_wp2_with fail
  refine (H1.out _).mono ?_
  rintro e w1 ⟨rfl, k1⟩
  obtain ⟨c0, c1, c2, c3⟩ := HB.out.below k1 (by simp)
  obtain ⟨f0, f1, f2, f3⟩ := HF.out.below k1 (by simp)
  have HK := Lib.hid (HA.out.trans (k1.mono HA.out.size))
  clear k1
  go_wp2_with fail
  refine bodyPost_ret (v := .tuple #[.agg #[.int .i64 qk, .int .i64 qi, .string qs, .bool qb], .int .i64 qe]) ?_ rfl ⟨rfl, ?_⟩
  · rw [results_cell_tmp rfl]
    go_simp
  · repeat' (first | exact HK.out | refine Below.setCell ?_ (by simp; omega) _)

set_option maxHeartbeats 2000000 in
set_option maxRecDepth 100000 in
theorem refOp_7ff (i : Int) (s : ByteArray) (i' : Int) (s' : ByteArray) (w : World) (hi : -9223372036854775808 ≤ i ∧ i ≤ 9223372036854775807) (hi' : -9223372036854775808 ≤ i' ∧ i' ≤ 9223372036854775807) (hs : s.size ≤ 4096) (hs' : s'.size ≤ 4096)  :
    Calls Tryz.prog 9 #[.int .i64 7, .agg #[.int .i64 3, .int .i64 i, .string s, .bool false], .agg #[.int .i64 3, .int .i64 i', .string s', .bool false]] w fun e w' => e = .returned (truV false).val ∧ Below w.heap.size w w' := by
  obtain ⟨ha, hb, hf⟩ := new3 7 3 i s false 3 i' s' false w
  have HA := Lib.hid ha
  have HB := Lib.hid hb
  have HF := Lib.hid hf
  clear ha hb hf
  have h1 := fun w1 => refTruth_calls false w1
  obtain ⟨qk, qi, qs, qb, qe, hv⟩ := (truV false).val_eq
  rw [hv] at h1 ⊢
  have H1 := Lib.hid h1
  clear h1 hv
  go_enter Tryz.func9, Tryz.ntmps9
  go_wp2_with fail
  refine (H1.out _).mono ?_
  rintro e w1 ⟨rfl, k1⟩
  obtain ⟨c0, c1, c2, c3⟩ := HB.out.below k1 (by simp)
  obtain ⟨f0, f1, f2, f3⟩ := HF.out.below k1 (by simp)
  have HK := Lib.hid (HA.out.trans (k1.mono HA.out.size))
  clear k1
  go_wp2_with fail
  refine bodyPost_ret (v := .tuple #[.agg #[.int .i64 qk, .int .i64 qi, .string qs, .bool qb], .int .i64 qe]) ?_ rfl ⟨rfl, ?_⟩
  · rw [results_cell_tmp rfl]
    go_simp
  · repeat' (first | exact HK.out | refine Below.setCell ?_ (by simp; omega) _)

set_option maxHeartbeats 2000000 in
set_option maxRecDepth 100000 in
theorem refOp_3 (o : Int) (i : Int) (s : ByteArray) (b : Bool) (i' : Int) (s' : ByteArray) (b' : Bool) (w : World) (hi : -9223372036854775808 ≤ i ∧ i ≤ 9223372036854775807) (hi' : -9223372036854775808 ≤ i' ∧ i' ≤ 9223372036854775807) (hs : s.size ≤ 4096) (hs' : s'.size ≤ 4096) (t1 : decide (o < 4) = false) (t2 : decide ((16 : Int) < o) = false) (t4 : (o == 4) = false) (t5 : (o == 5) = false) (t13 : (o == 13) = false) (t14 : (o == 14) = false) (t7 : (o == 6) = false) (t8 : (o == 7) = false) :
    Calls Tryz.prog 9 #[.int .i64 o, .agg #[.int .i64 3, .int .i64 i, .string s, .bool b], .agg #[.int .i64 3, .int .i64 i', .string s', .bool b']] w fun e w' => e = .returned (badV 8).val ∧ Below w.heap.size w w' := by
  obtain ⟨ha, hb, hf⟩ := new3 o 3 i s b 3 i' s' b' w
  have HA := Lib.hid ha
  have HB := Lib.hid hb
  have HF := Lib.hid hf
  clear ha hb hf
  go_enter Tryz.func9, Tryz.ntmps9
  go_wp2_with fail
  refine bodyPost_ret (v := .tuple #[.agg #[.int .i64 0, .int .i64 0, .string ⟨#[]⟩, .bool false], .int .i64 8]) ?_ rfl ⟨rfl, ?_⟩
  · rw [results_cell_tmp rfl]
    go_simp
  · exact HA.out

set_option maxHeartbeats 2000000 in
set_option maxRecDepth 100000 in
theorem refOp_15 (k : Int) (i : Int) (s : ByteArray) (b : Bool) (i' : Int) (s' : ByteArray) (b' : Bool) (w : World) (hi : -9223372036854775808 ≤ i ∧ i ≤ 9223372036854775807) (hi' : -9223372036854775808 ≤ i' ∧ i' ≤ 9223372036854775807) (hs : s.size ≤ 4096) (hs' : s'.size ≤ 4096) (t6 : (k != k) = false) (t9 : (k == 3) = false) (hk : k = 1 ∨ k = 2 ∨ k = 3) :
    Calls Tryz.prog 9 #[.int .i64 15, .agg #[.int .i64 k, .int .i64 i, .string s, .bool b], .agg #[.int .i64 k, .int .i64 i', .string s', .bool b']] w fun e w' => e = .returned (truV (lessB k i s b k i' s' b')).val ∧ Below w.heap.size w w' := by
  obtain ⟨ha, hb, hf⟩ := new3 15 k i s b k i' s' b' w
  have HA := Lib.hid ha
  have HB := Lib.hid hb
  have HF := Lib.hid hf
  clear ha hb hf
  have H0 := Lib.hid (fun w1 => refVLess_calls k i s b k i' s' b' w1 (by omega) (by omega) hk)
  obtain ⟨q, hq⟩ : ∃ q, q = lessB k i s b k i' s' b' := ⟨_, rfl⟩
  rw [← hq] at H0 ⊢
  have h1 := fun w1 => refTruth_calls q w1
  obtain ⟨qk, qi, qs, qb, qe, hv⟩ := (truV q).val_eq
  rw [hv] at h1 ⊢
  have H1 := Lib.hid h1
  clear h1 hv hq hk
  go_enter Tryz.func9, Tryz.ntmps9
  go_wp2_with fail
  refine (H0.out _).mono ?_
  rintro e w1 ⟨rfl, k1⟩
  have HK := Lib.hid (HA.out.trans (k1.mono HA.out.size))
  have HB1 := Lib.hid (HB.out.below k1 (by simp))
  have HF1 := Lib.hid (HF.out.below k1 (by simp))
  have HS : Hid (w.heap.size + 1 + 1 < w1.heap.size) := Lib.hid (by have := k1.size; simp at this; omega)
  clear k1
  go_wp2_with fail
  refine (H1.out _).mono ?_
  rintro e w2 ⟨rfl, k2⟩
  have HK2 := Lib.hid (HK.out.trans (k2.mono HK.out.size))
  obtain ⟨c0, c1, c2, c3⟩ := HB1.out.below k2 HS.out
  obtain ⟨f0, f1, f2, f3⟩ := HF1.out.below k2 HS.out
  clear k2
  go_wp2_with fail
  refine bodyPost_ret (v := .tuple #[.agg #[.int .i64 qk, .int .i64 qi, .string qs, .bool qb], .int .i64 qe]) ?_ rfl ⟨rfl, ?_⟩
  · rw [results_cell_tmp rfl]
    go_simp
  · repeat' (first | exact HK2.out | refine Below.setCell ?_ (by simp; omega) _)

set_option maxHeartbeats 2000000 in
set_option maxRecDepth 100000 in
theorem refOp_16 (k : Int) (i : Int) (s : ByteArray) (b : Bool) (i' : Int) (s' : ByteArray) (b' : Bool) (w : World) (hi : -9223372036854775808 ≤ i ∧ i ≤ 9223372036854775807) (hi' : -9223372036854775808 ≤ i' ∧ i' ≤ 9223372036854775807) (hs : s.size ≤ 4096) (hs' : s'.size ≤ 4096) (t6 : (k != k) = false) (t9 : (k == 3) = false) (hk : k = 1 ∨ k = 2 ∨ k = 3) :
    Calls Tryz.prog 9 #[.int .i64 16, .agg #[.int .i64 k, .int .i64 i, .string s, .bool b], .agg #[.int .i64 k, .int .i64 i', .string s', .bool b']] w fun e w' => e = .returned (truV !(lessB k i' s' b' k i s b)).val ∧ Below w.heap.size w w' := by
  obtain ⟨ha, hb, hf⟩ := new3 16 k i s b k i' s' b' w
  have HA := Lib.hid ha
  have HB := Lib.hid hb
  have HF := Lib.hid hf
  clear ha hb hf
  have H0 := Lib.hid (fun w1 => refVLess_calls k i' s' b' k i s b w1 (by omega) (by omega) hk)
  obtain ⟨q, hq⟩ : ∃ q, q = lessB k i' s' b' k i s b := ⟨_, rfl⟩
  rw [← hq] at H0 ⊢
  have h1 := fun w1 => refTruth_calls (!q) w1
  obtain ⟨qk, qi, qs, qb, qe, hv⟩ := (truV !q).val_eq
  rw [hv] at h1 ⊢
  have H1 := Lib.hid h1
  clear h1 hv hq hk
  go_enter Tryz.func9, Tryz.ntmps9
  go_wp2_with fail
  refine (H0.out _).mono ?_
  rintro e w1 ⟨rfl, k1⟩
  have HK := Lib.hid (HA.out.trans (k1.mono HA.out.size))
  have HB1 := Lib.hid (HB.out.below k1 (by simp))
  have HF1 := Lib.hid (HF.out.below k1 (by simp))
  have HS : Hid (w.heap.size + 1 + 1 < w1.heap.size) := Lib.hid (by have := k1.size; simp at this; omega)
  clear k1
  go_wp2_with fail
  refine (H1.out _).mono ?_
  rintro e w2 ⟨rfl, k2⟩
  have HK2 := Lib.hid (HK.out.trans (k2.mono HK.out.size))
  obtain ⟨c0, c1, c2, c3⟩ := HB1.out.below k2 HS.out
  obtain ⟨f0, f1, f2, f3⟩ := HF1.out.below k2 HS.out
  clear k2
  go_wp2_with fail
  refine bodyPost_ret (v := .tuple #[.agg #[.int .i64 qk, .int .i64 qi, .string qs, .bool qb], .int .i64 qe]) ?_ rfl ⟨rfl, ?_⟩
  · rw [results_cell_tmp rfl]
    go_simp
  · repeat' (first | exact HK2.out | refine Below.setCell ?_ (by simp; omega) _)

set_option maxHeartbeats 2000000 in
set_option maxRecDepth 100000 in
theorem refOp_1y (o : Int) (i : Int) (s : ByteArray) (b : Bool) (i' : Int) (s' : ByteArray) (b' : Bool) (w : World) (hi : -9223372036854775808 ≤ i ∧ i ≤ 9223372036854775807) (hi' : -9223372036854775808 ≤ i' ∧ i' ≤ 9223372036854775807) (hs : s.size ≤ 4096) (hs' : s'.size ≤ 4096) (t1 : decide (o < 4) = false) (t2 : decide ((16 : Int) < o) = false) (t4 : (o == 4) = false) (t5 : (o == 5) = false) (t13 : (o == 13) = false) (t14 : (o == 14) = false) (t15 : (o == 15) = false) (t16 : (o == 16) = false) (t17 : decide (8 ≤ o) = true) (t18 : decide (o ≤ 12) = true) :
    Calls Tryz.prog 9 #[.int .i64 o, .agg #[.int .i64 1, .int .i64 i, .string s, .bool b], .agg #[.int .i64 1, .int .i64 i', .string s', .bool b']] w fun e w' => e = .returned (arithV o i i').val ∧ Below w.heap.size w w' := by
  obtain ⟨ha, hb, hf⟩ := new3 o 1 i s b 1 i' s' b' w
  have HA := Lib.hid ha
  have HB := Lib.hid hb
  have HF := Lib.hid hf
  clear ha hb hf
  have ho : 8 ≤ o ∧ o ≤ 12 := ⟨of_decide_eq_true t17, of_decide_eq_true t18⟩
  have h1 := fun w1 => arith_calls o i i' w1 ho hi hi'
  obtain ⟨qk, qi, qs, qb, qe, hv⟩ := (arithV o i i').val_eq
  rw [hv] at h1 ⊢
  have H1 := Lib.hid h1
  clear h1 hv ho
  go_enter Tryz.func9, Tryz.ntmps9
  go_wp2_with fail
  refine (H1.out _).mono ?_
  rintro e w1 ⟨rfl, k1⟩
  obtain ⟨c0, c1, c2, c3⟩ := HB.out.below k1 (by simp)
  obtain ⟨f0, f1, f2, f3⟩ := HF.out.below k1 (by simp)
  have HK := Lib.hid (HA.out.trans (k1.mono HA.out.size))
  clear k1
  go_wp2_with fail
  refine bodyPost_ret (v := .tuple #[.agg #[.int .i64 qk, .int .i64 qi, .string qs, .bool qb], .int .i64 qe]) ?_ rfl ⟨rfl, ?_⟩
  · rw [results_cell_tmp rfl]
    go_simp
  · repeat' (first | exact HK.out | refine Below.setCell ?_ (by simp; omega) _)

set_option maxHeartbeats 2000000 in
set_option maxRecDepth 100000 in
theorem refOp_1n (o : Int) (i : Int) (s : ByteArray) (b : Bool) (i' : Int) (s' : ByteArray) (b' : Bool) (w : World) (hi : -9223372036854775808 ≤ i ∧ i ≤ 9223372036854775807) (hi' : -9223372036854775808 ≤ i' ∧ i' ≤ 9223372036854775807) (hs : s.size ≤ 4096) (hs' : s'.size ≤ 4096) (t1 : decide (o < 4) = false) (t2 : decide ((16 : Int) < o) = false) (t4 : (o == 4) = false) (t5 : (o == 5) = false) (t13 : (o == 13) = false) (t14 : (o == 14) = false) (t15 : (o == 15) = false) (t16 : (o == 16) = false) (t17 : decide (8 ≤ o) = false) :
    Calls Tryz.prog 9 #[.int .i64 o, .agg #[.int .i64 1, .int .i64 i, .string s, .bool b], .agg #[.int .i64 1, .int .i64 i', .string s', .bool b']] w fun e w' => e = .returned (badV 8).val ∧ Below w.heap.size w w' := by
  obtain ⟨ha, hb, hf⟩ := new3 o 1 i s b 1 i' s' b' w
  have HA := Lib.hid ha
  have HB := Lib.hid hb
  have HF := Lib.hid hf
  clear ha hb hf
  go_enter Tryz.func9, Tryz.ntmps9
  go_wp2_with fail
  refine bodyPost_ret (v := .tuple #[.agg #[.int .i64 0, .int .i64 0, .string ⟨#[]⟩, .bool false], .int .i64 8]) ?_ rfl ⟨rfl, ?_⟩
  · rw [results_cell_tmp rfl]
    go_simp
  · exact HA.out

set_option maxHeartbeats 2000000 in
set_option maxRecDepth 100000 in
theorem refOp_2n (o : Int) (i : Int) (s : ByteArray) (b : Bool) (i' : Int) (s' : ByteArray) (b' : Bool) (w : World) (hi : -9223372036854775808 ≤ i ∧ i ≤ 9223372036854775807) (hi' : -9223372036854775808 ≤ i' ∧ i' ≤ 9223372036854775807) (hs : s.size ≤ 4096) (hs' : s'.size ≤ 4096) (t1 : decide (o < 4) = false) (t2 : decide ((16 : Int) < o) = false) (t4 : (o == 4) = false) (t5 : (o == 5) = false) (t13 : (o == 13) = false) (t14 : (o == 14) = false) (t15 : (o == 15) = false) (t16 : (o == 16) = false) (t17 : (o == 8) = false) :
    Calls Tryz.prog 9 #[.int .i64 o, .agg #[.int .i64 2, .int .i64 i, .string s, .bool b], .agg #[.int .i64 2, .int .i64 i', .string s', .bool b']] w fun e w' => e = .returned (badV 8).val ∧ Below w.heap.size w w' := by
  obtain ⟨ha, hb, hf⟩ := new3 o 2 i s b 2 i' s' b' w
  have HA := Lib.hid ha
  have HB := Lib.hid hb
  have HF := Lib.hid hf
  clear ha hb hf
  go_enter Tryz.func9, Tryz.ntmps9
  go_wp2_with fail
  refine bodyPost_ret (v := .tuple #[.agg #[.int .i64 0, .int .i64 0, .string ⟨#[]⟩, .bool false], .int .i64 8]) ?_ rfl ⟨rfl, ?_⟩
  · rw [results_cell_tmp rfl]
    go_simp
  · exact HA.out

set_option maxHeartbeats 2000000 in
set_option maxRecDepth 100000 in
theorem refOp_2l (i : Int) (s : ByteArray) (b : Bool) (i' : Int) (s' : ByteArray) (b' : Bool) (w : World) (hi : -9223372036854775808 ≤ i ∧ i ≤ 9223372036854775807) (hi' : -9223372036854775808 ≤ i' ∧ i' ≤ 9223372036854775807) (hs : s.size ≤ 4096) (hs' : s'.size ≤ 4096) (t17 : decide ((4096 : Int) < (s.size : Int) + (s'.size : Int)) = true) :
    Calls Tryz.prog 9 #[.int .i64 8, .agg #[.int .i64 2, .int .i64 i, .string s, .bool b], .agg #[.int .i64 2, .int .i64 i', .string s', .bool b']] w fun e w' => e = .returned (badV 3).val ∧ Below w.heap.size w w' := by
  obtain ⟨ha, hb, hf⟩ := new3 8 2 i s b 2 i' s' b' w
  have HA := Lib.hid ha
  have HB := Lib.hid hb
  have HF := Lib.hid hf
  clear ha hb hf
  go_enter Tryz.func9, Tryz.ntmps9
  go_wp2_with fail
  refine bodyPost_ret (v := .tuple #[.agg #[.int .i64 0, .int .i64 0, .string ⟨#[]⟩, .bool false], .int .i64 3]) ?_ rfl ⟨rfl, ?_⟩
  · rw [results_cell_tmp rfl]
    go_simp
  · exact HA.out

set_option maxHeartbeats 2000000 in
set_option maxRecDepth 100000 in
theorem refOp_2y (i : Int) (s : ByteArray) (b : Bool) (i' : Int) (s' : ByteArray) (b' : Bool) (w : World) (hi : -9223372036854775808 ≤ i ∧ i ≤ 9223372036854775807) (hi' : -9223372036854775808 ≤ i' ∧ i' ≤ 9223372036854775807) (hs : s.size ≤ 4096) (hs' : s'.size ≤ 4096) (t17 : decide ((4096 : Int) < (s.size : Int) + (s'.size : Int)) = false) :
    Calls Tryz.prog 9 #[.int .i64 8, .agg #[.int .i64 2, .int .i64 i, .string s, .bool b], .agg #[.int .i64 2, .int .i64 i', .string s', .bool b']] w fun e w' => e = .returned (⟨2, 0, s ++ s', false, 0⟩ : OVal).val ∧ Below w.heap.size w w' := by
  obtain ⟨ha, hb, hf⟩ := new3 8 2 i s b 2 i' s' b' w
  have HA := Lib.hid ha
  have HB := Lib.hid hb
  have HF := Lib.hid hf
  clear ha hb hf
  obtain ⟨U, hU⟩ : ∃ U, U = s ++ s' := ⟨_, rfl⟩
  have hc : ∀ w, (Op.stringOp .add s s').run Tryz.prog w = .ok (.string U) w := fun w => by rw [hU]; exact run_string_add_sum w s s' (by omega)
  rw [← hU]
  clear hU
  go_enter Tryz.func9, Tryz.ntmps9
  go_wp2_with fail
  refine bodyPost_ret (v := .tuple #[.agg #[.int .i64 2, .int .i64 0, .string U, .bool false], .int .i64 0]) ?_ rfl ⟨rfl, ?_⟩
  · rw [results_cell_tmp rfl]
    go_simp
  · exact (((Below.refl _ w).alloc (Nat.le_refl _) _).alloc (by simp) _).alloc (by simp; omega) _

theorem refOp_calls (o : Int) (k i : Int) (s : ByteArray) (b : Bool) (k' i' : Int) (s' : ByteArray) (b' : Bool) (w : World) (hi : -9223372036854775808 ≤ i ∧ i ≤ 9223372036854775807) (hi' : -9223372036854775808 ≤ i' ∧ i' ≤ 9223372036854775807) (hs : s.size ≤ 4096) (hs' : s'.size ≤ 4096) (hk : k = 1 ∨ k = 2 ∨ k = 3) :
    Calls Tryz.prog 9 #[.int .i64 o, .agg #[.int .i64 k, .int .i64 i, .string s, .bool b], .agg #[.int .i64 k', .int .i64 i', .string s', .bool b']] w fun e w' => e = .returned (refV o k i s b k' i' s' b').val ∧ Below w.heap.size w w' := by
  unfold refV
  have bf : ∀ x y : Int, x ≠ y → (x == y) = false := fun x y h => beq_eq_false_iff_ne.2 h
  have bn : ∀ x y : Int, x ≠ y → (x != y) = true := fun x y h => bne_iff_ne.2 h
  by_cases ho : o < 4 ∨ 16 < o
  · rw [if_pos ho]
    by_cases h4 : o < 4
    · exact refOp_a o k i s b k' i' s' b' w hi hi' hs hs' (by simpa using h4)
    · exact refOp_b o k i s b k' i' s' b' w hi hi' hs hs' (by simpa using h4) (by simp; omega)
  rw [if_neg ho]
  by_cases h4 : o = 4
  · subst h4
    rw [if_pos rfl]
    by_cases h3 : k = 3
    · subst h3; rw [if_pos rfl]; exact refOp_4y i s b k' i' s' b' w hi hi' hs hs'
    · rw [if_neg h3]; exact refOp_4n k i s b k' i' s' b' w hi hi' hs hs' (bn _ _ h3)
  rw [if_neg h4]
  by_cases h5 : o = 5
  · subst h5
    rw [if_pos rfl]
    by_cases h1 : k = 1
    · subst h1; rw [if_pos rfl]; exact refOp_5y i s b k' i' s' b' w hi hi' hs hs'
    · rw [if_neg h1]; exact refOp_5n k i s b k' i' s' b' w hi hi' hs hs' (bn _ _ h1)
  rw [if_neg h5]
  have t1 : decide (o < 4) = false := by simp; omega
  have t2 : decide ((16 : Int) < o) = false := by simp; omega
  have t4 := bf _ _ h4
  have t5 := bf _ _ h5
  by_cases hkk : k = k'
  case neg => rw [if_neg hkk]; exact refOp_k o k i s b k' i' s' b' w hi hi' hs hs' t1 t2 t4 t5 (bn _ _ hkk)
  case pos =>
    subst hkk
    rw [if_pos rfl]
    have t6 : (k != k) = false := by simp
    by_cases h13 : o = 13
    · subst h13; rw [if_pos rfl]; exact refOp_13 k i s b i' s' b' w hi hi' hs hs' t6
    rw [if_neg h13]
    by_cases h14 : o = 14
    · subst h14; rw [if_pos rfl]; exact refOp_14 k i s b i' s' b' w hi hi' hs hs' t6
    rw [if_neg h14]
    have t13 := bf _ _ h13
    have t14 := bf _ _ h14
    by_cases h3 : k = 3
    · subst h3
      rw [if_pos rfl]
      by_cases h6 : o = 6
      · subst h6
        rw [if_pos rfl]
        cases b <;> cases b'
        · exact refOp_6ff i s i' s' w hi hi' hs hs'
        · exact refOp_6ft i s i' s' w hi hi' hs hs'
        · exact refOp_6tf i s i' s' w hi hi' hs hs'
        · exact refOp_6tt i s i' s' w hi hi' hs hs'
      rw [if_neg h6]
      by_cases h7 : o = 7
      · subst h7
        rw [if_pos rfl]
        cases b <;> cases b'
        · exact refOp_7ff i s i' s' w hi hi' hs hs'
        · exact refOp_7ft i s i' s' w hi hi' hs hs'
        · exact refOp_7tf i s i' s' w hi hi' hs hs'
        · exact refOp_7tt i s i' s' w hi hi' hs hs'
      rw [if_neg h7]
      exact refOp_3 o i s b i' s' b' w hi hi' hs hs' t1 t2 t4 t5 t13 t14 (bf _ _ h6) (bf _ _ h7)
    rw [if_neg h3]
    by_cases h15 : o = 15
    · subst h15; rw [if_pos rfl]; exact refOp_15 k i s b i' s' b' w hi hi' hs hs' t6 (bf _ _ h3) hk
    rw [if_neg h15]
    by_cases h16 : o = 16
    · subst h16; rw [if_pos rfl]; exact refOp_16 k i s b i' s' b' w hi hi' hs hs' t6 (bf _ _ h3) hk
    rw [if_neg h16]
    have t15 := bf _ _ h15
    have t16 := bf _ _ h16
    by_cases h1 : k = 1
    · subst h1
      by_cases h8 : 8 ≤ o
      · rw [if_pos ⟨rfl, h8, by omega⟩]
        exact refOp_1y o i s b i' s' b' w hi hi' hs hs' t1 t2 t4 t5 t13 t14 t15 t16 (by simpa using h8) (by simp; omega)
      · rw [if_neg (fun h => h8 h.2.1), if_neg (fun h => absurd h.1 (by decide))]
        exact refOp_1n o i s b i' s' b' w hi hi' hs hs' t1 t2 t4 t5 t13 t14 t15 t16 (by simpa using h8)
    · obtain rfl : k = 2 := by omega
      rw [if_neg (fun h => h1 h.1)]
      by_cases h8 : o = 8
      · subst h8
        rw [if_pos ⟨rfl, rfl⟩]
        unfold strOp
        by_cases hl : 4096 < s.size + s'.size
        · rw [if_pos hl]; exact refOp_2l i s b i' s' b' w hi hi' hs hs' (by simp; omega)
        · rw [if_neg hl]; exact refOp_2y i s b i' s' b' w hi hi' hs hs' (by simp; omega)
      · rw [if_neg (fun h => h8 h.2)]
        exact refOp_2n o i s b i' s' b' w hi hi' hs hs' t1 t2 t4 t5 t13 t14 t15 t16 (bf _ _ h8)
end Go.Proofs.YtmpoloninpakbaaGreatDoor
