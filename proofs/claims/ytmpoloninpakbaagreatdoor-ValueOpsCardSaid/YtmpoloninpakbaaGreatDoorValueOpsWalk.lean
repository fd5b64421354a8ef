/- The walk of the law ValueOps: with any operator and any two values it answers true. -/
import Derived.Test.YtmpoloninpakbaaGreatDoorValAwake
import Derived.Test.YtmpoloninpakbaaGreatDoorValOrder
import Derived.Test.YtmpoloninpakbaaGreatDoorValRefOp
namespace Go.Proofs.YtmpoloninpakbaaGreatDoor.valueOps
open Go.RowKit
set_option linter.unusedVariables false

/-- The two values lie in the call's own blocks, and what was there ahead of it is as it was. -/
structure In2 (w : World) (ka ia : Int) (sa : ByteArray) (ba : Bool) (kb ib : Int) (sb : ByteArray) (bb : Bool) (w' : World) : Prop where
  a : Boxed w.heap.size ka ia sa ba w'
  b : Boxed (w.heap.size + 1) kb ib sb bb w'
  below : Below w.heap.size w w'
  size : w.heap.size + 1 < w'.heap.size
theorem In2.step {w : World} {ka ia : Int} {sa : ByteArray} {ba : Bool} {kb ib : Int} {sb : ByteArray} {bb : Bool} {w1 w2 : World} (h : In2 w ka ia sa ba kb ib sb bb w1) (hb : Below w1.heap.size w1 w2) : In2 w ka ia sa ba kb ib sb bb w2 :=
  have := h.size
  ⟨h.a.below hb (by omega), h.b.below hb h.size, h.below.trans (hb.mono h.below.size), Nat.lt_of_lt_of_le h.size hb.size⟩
theorem In2.new (ka ia : Int) (sa : ByteArray) (ba : Bool) (kb ib : Int) (sb : ByteArray) (bb : Bool) (w : World) : In2 w ka ia sa ba kb ib sb bb ((w.alloc (.cells #[.int .i64 ka, .int .i64 ia, .string sa, .bool ba] 23)).alloc (.cells #[.int .i64 kb, .int .i64 ib, .string sb, .bool bb] 23)) := by
  have b1 : Below (w.alloc (.cells #[.int .i64 ka, .int .i64 ia, .string sa, .bool ba] 23)).heap.size (w.alloc (.cells #[.int .i64 ka, .int .i64 ia, .string sa, .bool ba] 23)) ((w.alloc (.cells #[.int .i64 ka, .int .i64 ia, .string sa, .bool ba] 23)).alloc (.cells #[.int .i64 kb, .int .i64 ib, .string sb, .bool bb] 23)) := (Below.refl _ _).alloc (Nat.le_refl _) _
  have n1 : (w.alloc (.cells #[.int .i64 ka, .int .i64 ia, .string sa, .bool ba] 23)).heap.size = w.heap.size + 1 := by simp
  have x1 := Boxed.new kb ib sb bb (w.alloc (.cells #[.int .i64 ka, .int .i64 ia, .string sa, .bool ba] 23)) 23
  rw [n1] at x1
  refine ⟨(Boxed.new ka ia sa ba w _).below b1 (by omega), x1, ?_, by simp⟩
  exact ((Below.refl _ w).alloc (Nat.le_refl _) _).alloc (by omega) _

/-- The law's own example, and a call of it. -/
def Aw (w : World) : Prop := ∀ w1, Below w.heap.size w w1 → Calls Tryz.prog 7 #[] w1 fun e w' => e = .returned (.bool true) ∧ Below w1.heap.size w1 w'

set_option maxHeartbeats 2000000 in
set_option maxRecDepth 100000 in
theorem no1 (o : Int) (ka ia : Int) (sa : ByteArray) (ba : Bool) (kb ib : Int) (sb : ByteArray) (bb : Bool) (w : World) (hA : sa.size ≤ 9223372036854775807) (hB : sb.size ≤ 9223372036854775807) (hAw : Aw w) (t1 : decide ((sa.size : Int) ≤ 5000) = false) :
    Calls Tryz.prog 3 #[.int .i64 o, .agg #[.int .i64 ka, .int .i64 ia, .string sa, .bool ba], .agg #[.int .i64 kb, .int .i64 ib, .string sb, .bool bb]] w fun e w' => e = .returned (.bool true) ∧ Below w.heap.size w w' := by
  have HI0 := Lib.hid (In2.new ka ia sa ba kb ib sb bb w)
  have HAw := Lib.hid hAw
  have h1 := fun w1 => few_calls ka ia sa ba w1 (by omega)
  rw [t1] at h1
  have H1 := Lib.hid h1
  clear h1 t1
  clear hAw
  go_enter Tryz.func3, Tryz.ntmps3
  go_wp2_with fail
  refine (H1.out _).mono ?_
  rintro e w1 ⟨rfl, kk⟩
  have HI1 := Lib.hid (HI0.out.step kk)
  clear kk
  obtain ⟨⟨c0, c1, c2, c3⟩, ⟨d0, d1, d2, d3⟩, _, _⟩ := HI1.out
  go_wp2_with fail
  refine (HAw.out _ HI1.out.below).mono ?_
  rintro e wz ⟨rfl, kk⟩
  go_wp2_with fail
  go_ret
  exact ⟨rfl, HI1.out.below.trans (kk.mono HI1.out.below.size)⟩

set_option maxHeartbeats 2000000 in
set_option maxRecDepth 100000 in
theorem no2 (o : Int) (ka ia : Int) (sa : ByteArray) (ba : Bool) (kb ib : Int) (sb : ByteArray) (bb : Bool) (w : World) (hA : sa.size ≤ 9223372036854775807) (hB : sb.size ≤ 9223372036854775807) (hAw : Aw w) (t1 : decide ((sa.size : Int) ≤ 5000) = true) (t2 : decide ((sb.size : Int) ≤ 5000) = false) :
    Calls Tryz.prog 3 #[.int .i64 o, .agg #[.int .i64 ka, .int .i64 ia, .string sa, .bool ba], .agg #[.int .i64 kb, .int .i64 ib, .string sb, .bool bb]] w fun e w' => e = .returned (.bool true) ∧ Below w.heap.size w w' := by
  have HI0 := Lib.hid (In2.new ka ia sa ba kb ib sb bb w)
  have HAw := Lib.hid hAw
  have h1 := fun w1 => few_calls ka ia sa ba w1 (by omega)
  rw [t1] at h1
  have H1 := Lib.hid h1
  have h2 := fun w1 => few_calls kb ib sb bb w1 (by omega)
  rw [t2] at h2
  have H2 := Lib.hid h2
  clear h1 h2 t1 t2
  clear hAw
  go_enter Tryz.func3, Tryz.ntmps3
  go_wp2_with fail
  refine (H1.out _).mono ?_
  rintro e w1 ⟨rfl, kk⟩
  have HI1 := Lib.hid (HI0.out.step kk)
  clear kk
  obtain ⟨⟨c0, c1, c2, c3⟩, ⟨d0, d1, d2, d3⟩, _, _⟩ := HI1.out
  go_wp2_with fail
  refine (H2.out _).mono ?_
  rintro e w2 ⟨rfl, kk⟩
  have HI2 := Lib.hid (HI1.out.step kk)
  clear kk c0 c1 c2 c3 d0 d1 d2 d3
  obtain ⟨⟨c0, c1, c2, c3⟩, ⟨d0, d1, d2, d3⟩, _, _⟩ := HI2.out
  go_wp2_with fail
  refine (HAw.out _ HI2.out.below).mono ?_
  rintro e wz ⟨rfl, kk⟩
  go_wp2_with fail
  go_ret
  exact ⟨rfl, HI2.out.below.trans (kk.mono HI2.out.below.size)⟩

set_option maxHeartbeats 2000000 in
set_option maxRecDepth 100000 in
theorem no3 (o : Int) (ka ia : Int) (sa : ByteArray) (ba : Bool) (kb ib : Int) (sb : ByteArray) (bb : Bool) (w : World) (hA : sa.size ≤ 9223372036854775807) (hB : sb.size ≤ 9223372036854775807) (hAw : Aw w) (t1 : decide ((sa.size : Int) ≤ 5000) = true) (t2 : decide ((sb.size : Int) ≤ 5000) = true) (t3 : rightB ka ia sa ba = false) :
    Calls Tryz.prog 3 #[.int .i64 o, .agg #[.int .i64 ka, .int .i64 ia, .string sa, .bool ba], .agg #[.int .i64 kb, .int .i64 ib, .string sb, .bool bb]] w fun e w' => e = .returned (.bool true) ∧ Below w.heap.size w w' := by
  have HI0 := Lib.hid (In2.new ka ia sa ba kb ib sb bb w)
  have HAw := Lib.hid hAw
  have h1 := fun w1 => few_calls ka ia sa ba w1 (by omega)
  rw [t1] at h1
  have H1 := Lib.hid h1
  have h2 := fun w1 => few_calls kb ib sb bb w1 (by omega)
  rw [t2] at h2
  have H2 := Lib.hid h2
  have h3 := fun w1 => refVRight_calls ka ia sa ba w1 (by omega)
  rw [t3] at h3
  have H3 := Lib.hid h3
  clear h1 h2 h3 t1 t2 t3
  clear hAw
  go_enter Tryz.func3, Tryz.ntmps3
  go_wp2_with fail
  refine (H1.out _).mono ?_
  rintro e w1 ⟨rfl, kk⟩
  have HI1 := Lib.hid (HI0.out.step kk)
  clear kk
  obtain ⟨⟨c0, c1, c2, c3⟩, ⟨d0, d1, d2, d3⟩, _, _⟩ := HI1.out
  go_wp2_with fail
  refine (H2.out _).mono ?_
  rintro e w2 ⟨rfl, kk⟩
  have HI2 := Lib.hid (HI1.out.step kk)
  clear kk c0 c1 c2 c3 d0 d1 d2 d3
  obtain ⟨⟨c0, c1, c2, c3⟩, ⟨d0, d1, d2, d3⟩, _, _⟩ := HI2.out
  go_wp2_with fail
  refine (H3.out _).mono ?_
  rintro e w3 ⟨rfl, kk⟩
  have HI3 := Lib.hid (HI2.out.step kk)
  clear kk c0 c1 c2 c3 d0 d1 d2 d3
  obtain ⟨⟨c0, c1, c2, c3⟩, ⟨d0, d1, d2, d3⟩, _, _⟩ := HI3.out
  go_wp2_with fail
  refine (HAw.out _ HI3.out.below).mono ?_
  rintro e wz ⟨rfl, kk⟩
  go_wp2_with fail
  go_ret
  exact ⟨rfl, HI3.out.below.trans (kk.mono HI3.out.below.size)⟩

set_option maxHeartbeats 2000000 in
set_option maxRecDepth 100000 in
theorem no4 (o : Int) (ka ia : Int) (sa : ByteArray) (ba : Bool) (kb ib : Int) (sb : ByteArray) (bb : Bool) (w : World) (hA : sa.size ≤ 9223372036854775807) (hB : sb.size ≤ 9223372036854775807) (hAw : Aw w) (t1 : decide ((sa.size : Int) ≤ 5000) = true) (t2 : decide ((sb.size : Int) ≤ 5000) = true) (t3 : rightB ka ia sa ba = true) (t4 : rightB kb ib sb bb = false) :
    Calls Tryz.prog 3 #[.int .i64 o, .agg #[.int .i64 ka, .int .i64 ia, .string sa, .bool ba], .agg #[.int .i64 kb, .int .i64 ib, .string sb, .bool bb]] w fun e w' => e = .returned (.bool true) ∧ Below w.heap.size w w' := by
  have HI0 := Lib.hid (In2.new ka ia sa ba kb ib sb bb w)
  have HAw := Lib.hid hAw
  have h1 := fun w1 => few_calls ka ia sa ba w1 (by omega)
  rw [t1] at h1
  have H1 := Lib.hid h1
  have h2 := fun w1 => few_calls kb ib sb bb w1 (by omega)
  rw [t2] at h2
  have H2 := Lib.hid h2
  have h3 := fun w1 => refVRight_calls ka ia sa ba w1 (by omega)
  rw [t3] at h3
  have H3 := Lib.hid h3
  have h4 := fun w1 => refVRight_calls kb ib sb bb w1 (by omega)
  rw [t4] at h4
  have H4 := Lib.hid h4
  clear h1 h2 h3 h4 t1 t2 t3 t4
  clear hAw
  go_enter Tryz.func3, Tryz.ntmps3
  go_wp2_with fail
  refine (H1.out _).mono ?_
  rintro e w1 ⟨rfl, kk⟩
  have HI1 := Lib.hid (HI0.out.step kk)
  clear kk
  obtain ⟨⟨c0, c1, c2, c3⟩, ⟨d0, d1, d2, d3⟩, _, _⟩ := HI1.out
  go_wp2_with fail
  refine (H2.out _).mono ?_
  rintro e w2 ⟨rfl, kk⟩
  have HI2 := Lib.hid (HI1.out.step kk)
  clear kk c0 c1 c2 c3 d0 d1 d2 d3
  obtain ⟨⟨c0, c1, c2, c3⟩, ⟨d0, d1, d2, d3⟩, _, _⟩ := HI2.out
  go_wp2_with fail
  refine (H3.out _).mono ?_
  rintro e w3 ⟨rfl, kk⟩
  have HI3 := Lib.hid (HI2.out.step kk)
  clear kk c0 c1 c2 c3 d0 d1 d2 d3
  obtain ⟨⟨c0, c1, c2, c3⟩, ⟨d0, d1, d2, d3⟩, _, _⟩ := HI3.out
  go_wp2_with fail
  refine (H4.out _).mono ?_
  rintro e w4 ⟨rfl, kk⟩
  have HI4 := Lib.hid (HI3.out.step kk)
  clear kk c0 c1 c2 c3 d0 d1 d2 d3
  obtain ⟨⟨c0, c1, c2, c3⟩, ⟨d0, d1, d2, d3⟩, _, _⟩ := HI4.out
  go_wp2_with fail
  refine (HAw.out _ HI4.out.below).mono ?_
  rintro e wz ⟨rfl, kk⟩
  go_wp2_with fail
  go_ret
  exact ⟨rfl, HI4.out.below.trans (kk.mono HI4.out.below.size)⟩

set_option maxHeartbeats 2000000 in
set_option maxRecDepth 100000 in
theorem yesL1 (o : Int) (ka ia : Int) (sa : ByteArray) (ba : Bool) (kb ib : Int) (sb : ByteArray) (bb : Bool) (w : World) (hA : sa.size ≤ 9223372036854775807) (hB : sb.size ≤ 9223372036854775807) (hAw : Aw w) (t1 : decide ((sa.size : Int) ≤ 5000) = true) (t2 : decide ((sb.size : Int) ≤ 5000) = true) (t3 : rightB ka ia sa ba = true) (t4 : rightB kb ib sb bb = true) (qk qi : Int) (qs : ByteArray) (qb : Bool) (ty : Int)
    (hop : ∀ w1, Calls Tryz.prog 8 #[.int .i64 o, .agg #[.int .i64 ka, .int .i64 ia, .string sa, .bool ba], .agg #[.int .i64 kb, .int .i64 ib, .string sb, .bool bb]] w1 fun e w' => e = .returned (.tuple #[.agg #[.int .i64 qk, .int .i64 qi, .string qs, .bool qb], .int .i64 1]) ∧ Below w1.heap.size w1 w')
    (hro : ∀ w1, Calls Tryz.prog 9 #[.int .i64 o, .agg #[.int .i64 ka, .int .i64 ia, .string sa, .bool ba], .agg #[.int .i64 kb, .int .i64 ib, .string sb, .bool bb]] w1 fun e w' => e = .returned (.tuple #[.agg #[.int .i64 qk, .int .i64 qi, .string qs, .bool qb], .int .i64 1]) ∧ Below w1.heap.size w1 w')
    (hty : ∀ w1, Calls Tryz.prog 10 #[.int .i64 o, .int .i64 ka, .int .i64 kb] w1 fun e w' => e = .returned (.int .i64 ty) ∧ w1 = w') (ht : ty = 0) :
    Calls Tryz.prog 3 #[.int .i64 o, .agg #[.int .i64 ka, .int .i64 ia, .string sa, .bool ba], .agg #[.int .i64 kb, .int .i64 ib, .string sb, .bool bb]] w fun e w' => e = .returned (.bool true) ∧ Below w.heap.size w w' := by
  have HI0 := Lib.hid (In2.new ka ia sa ba kb ib sb bb w)
  have HAw := Lib.hid hAw
  have h1 := fun w1 => few_calls ka ia sa ba w1 (by omega)
  rw [t1] at h1
  have H1 := Lib.hid h1
  have h2 := fun w1 => few_calls kb ib sb bb w1 (by omega)
  rw [t2] at h2
  have H2 := Lib.hid h2
  have h3 := fun w1 => refVRight_calls ka ia sa ba w1 (by omega)
  rw [t3] at h3
  have H3 := Lib.hid h3
  have h4 := fun w1 => refVRight_calls kb ib sb bb w1 (by omega)
  rw [t4] at h4
  have H4 := Lib.hid h4
  have H5 := Lib.hid hop
  have H6 := Lib.hid hro
  subst ht
  have H7 := Lib.hid hty
  have q1 := fun w => eqIn qk qi qs qb qk qi qs qb w
  rw [(eqB_iff _ _ _ _ _ _ _ _).2 ⟨rfl, rfl, rfl, rfl⟩] at q1
  have q2 := guardV
  clear h1 h2 h3 h4 t1 t2 t3 t4 hop hro hty
  clear hAw
  go_enter Tryz.func3, Tryz.ntmps3
  go_wp2_with fail
  refine (H1.out _).mono ?_
  rintro e w1 ⟨rfl, kk⟩
  have HI1 := Lib.hid (HI0.out.step kk)
  clear kk
  obtain ⟨⟨c0, c1, c2, c3⟩, ⟨d0, d1, d2, d3⟩, _, _⟩ := HI1.out
  go_wp2_with fail
  refine (H2.out _).mono ?_
  rintro e w2 ⟨rfl, kk⟩
  have HI2 := Lib.hid (HI1.out.step kk)
  clear kk c0 c1 c2 c3 d0 d1 d2 d3
  obtain ⟨⟨c0, c1, c2, c3⟩, ⟨d0, d1, d2, d3⟩, _, _⟩ := HI2.out
  go_wp2_with fail
  refine (H3.out _).mono ?_
  rintro e w3 ⟨rfl, kk⟩
  have HI3 := Lib.hid (HI2.out.step kk)
  clear kk c0 c1 c2 c3 d0 d1 d2 d3
  obtain ⟨⟨c0, c1, c2, c3⟩, ⟨d0, d1, d2, d3⟩, _, _⟩ := HI3.out
  go_wp2_with fail
  refine (H4.out _).mono ?_
  rintro e w4 ⟨rfl, kk⟩
  have HI4 := Lib.hid (HI3.out.step kk)
  clear kk c0 c1 c2 c3 d0 d1 d2 d3
  obtain ⟨⟨c0, c1, c2, c3⟩, ⟨d0, d1, d2, d3⟩, _, _⟩ := HI4.out
  go_wp2_with fail
  refine (H5.out _).mono ?_
  rintro e w5 ⟨rfl, kk⟩
  have HI5 := Lib.hid (HI4.out.step kk)
  clear kk c0 c1 c2 c3 d0 d1 d2 d3
  obtain ⟨⟨c0, c1, c2, c3⟩, ⟨d0, d1, d2, d3⟩, _, _⟩ := HI5.out
  have hl1 : w.heap.size < w5.heap.size := by have := HI5.out.size; omega
  have hl2 : w.heap.size + 1 < w5.heap.size := HI5.out.size
  have HI5' := Lib.hid (HI5.out.step ((Below.refl _ _).alloc (Nat.le_refl _) (.cells #[.int .i64 qk, .int .i64 qi, .string qs, .bool qb] 23)))
  have HQ := Lib.hid (Boxed.new qk qi qs qb w5 23)
  have HS : Hid (w5.heap.size < (w5.alloc (.cells #[.int .i64 qk, .int .i64 qi, .string qs, .bool qb] 23)).heap.size) := Lib.hid (by simp)
  go_wp2_with fail
  refine (H6.out _).mono ?_
  rintro e w6 ⟨rfl, kk⟩
  have HI6 := Lib.hid (HI5'.out.step kk)
  clear c0 c1 c2 c3 d0 d1 d2 d3 hl1 hl2
  obtain ⟨⟨c0, c1, c2, c3⟩, ⟨d0, d1, d2, d3⟩, _, _⟩ := HI6.out
  obtain ⟨g0, g1, g2, g3⟩ := HQ.out.below kk HS.out
  have hl1 : w.heap.size < w6.heap.size := by have := HI6.out.size; omega
  have hl2 : w.heap.size + 1 < w6.heap.size := HI6.out.size
  have hl3 : w5.heap.size < w6.heap.size := Nat.lt_of_lt_of_le HS.out kk.size
  have HK6 := Lib.hid ((HI6.out.step ((Below.refl _ _).alloc (Nat.le_refl _) (.cells #[.int .i64 qk, .int .i64 qi, .string qs, .bool qb] 23))).below)
  clear kk
  go_wp2_with fail
  refine (H7.out _).mono ?_
  rintro e w7 ⟨rfl, rfl⟩
  go_wp2_with fail
  refine (HAw.out _ HK6.out).mono ?_
  rintro e wz ⟨rfl, kk⟩
  go_wp2_with fail
  go_ret
  exact ⟨rfl, HK6.out.trans (kk.mono HK6.out.size)⟩

set_option maxHeartbeats 2000000 in
set_option maxRecDepth 100000 in
theorem yesL8 (o : Int) (ka ia : Int) (sa : ByteArray) (ba : Bool) (kb ib : Int) (sb : ByteArray) (bb : Bool) (w : World) (hA : sa.size ≤ 9223372036854775807) (hB : sb.size ≤ 9223372036854775807) (hAw : Aw w) (t1 : decide ((sa.size : Int) ≤ 5000) = true) (t2 : decide ((sb.size : Int) ≤ 5000) = true) (t3 : rightB ka ia sa ba = true) (t4 : rightB kb ib sb bb = true) (qk qi : Int) (qs : ByteArray) (qb : Bool) (ty : Int)
    (hop : ∀ w1, Calls Tryz.prog 8 #[.int .i64 o, .agg #[.int .i64 ka, .int .i64 ia, .string sa, .bool ba], .agg #[.int .i64 kb, .int .i64 ib, .string sb, .bool bb]] w1 fun e w' => e = .returned (.tuple #[.agg #[.int .i64 qk, .int .i64 qi, .string qs, .bool qb], .int .i64 8]) ∧ Below w1.heap.size w1 w')
    (hro : ∀ w1, Calls Tryz.prog 9 #[.int .i64 o, .agg #[.int .i64 ka, .int .i64 ia, .string sa, .bool ba], .agg #[.int .i64 kb, .int .i64 ib, .string sb, .bool bb]] w1 fun e w' => e = .returned (.tuple #[.agg #[.int .i64 qk, .int .i64 qi, .string qs, .bool qb], .int .i64 8]) ∧ Below w1.heap.size w1 w')
    (hty : ∀ w1, Calls Tryz.prog 10 #[.int .i64 o, .int .i64 ka, .int .i64 kb] w1 fun e w' => e = .returned (.int .i64 ty) ∧ w1 = w') (ht : ty = 0) :
    Calls Tryz.prog 3 #[.int .i64 o, .agg #[.int .i64 ka, .int .i64 ia, .string sa, .bool ba], .agg #[.int .i64 kb, .int .i64 ib, .string sb, .bool bb]] w fun e w' => e = .returned (.bool true) ∧ Below w.heap.size w w' := by
  have HI0 := Lib.hid (In2.new ka ia sa ba kb ib sb bb w)
  have HAw := Lib.hid hAw
  have h1 := fun w1 => few_calls ka ia sa ba w1 (by omega)
  rw [t1] at h1
  have H1 := Lib.hid h1
  have h2 := fun w1 => few_calls kb ib sb bb w1 (by omega)
  rw [t2] at h2
  have H2 := Lib.hid h2
  have h3 := fun w1 => refVRight_calls ka ia sa ba w1 (by omega)
  rw [t3] at h3
  have H3 := Lib.hid h3
  have h4 := fun w1 => refVRight_calls kb ib sb bb w1 (by omega)
  rw [t4] at h4
  have H4 := Lib.hid h4
  have H5 := Lib.hid hop
  have H6 := Lib.hid hro
  subst ht
  have H7 := Lib.hid hty
  have q1 := fun w => eqIn qk qi qs qb qk qi qs qb w
  rw [(eqB_iff _ _ _ _ _ _ _ _).2 ⟨rfl, rfl, rfl, rfl⟩] at q1
  have q2 := guardV
  clear h1 h2 h3 h4 t1 t2 t3 t4 hop hro hty
  clear hAw
  go_enter Tryz.func3, Tryz.ntmps3
  go_wp2_with fail
  refine (H1.out _).mono ?_
  rintro e w1 ⟨rfl, kk⟩
  have HI1 := Lib.hid (HI0.out.step kk)
  clear kk
  obtain ⟨⟨c0, c1, c2, c3⟩, ⟨d0, d1, d2, d3⟩, _, _⟩ := HI1.out
  go_wp2_with fail
  refine (H2.out _).mono ?_
  rintro e w2 ⟨rfl, kk⟩
  have HI2 := Lib.hid (HI1.out.step kk)
  clear kk c0 c1 c2 c3 d0 d1 d2 d3
  obtain ⟨⟨c0, c1, c2, c3⟩, ⟨d0, d1, d2, d3⟩, _, _⟩ := HI2.out
  go_wp2_with fail
  refine (H3.out _).mono ?_
  rintro e w3 ⟨rfl, kk⟩
  have HI3 := Lib.hid (HI2.out.step kk)
  clear kk c0 c1 c2 c3 d0 d1 d2 d3
  obtain ⟨⟨c0, c1, c2, c3⟩, ⟨d0, d1, d2, d3⟩, _, _⟩ := HI3.out
  go_wp2_with fail
  refine (H4.out _).mono ?_
  rintro e w4 ⟨rfl, kk⟩
  have HI4 := Lib.hid (HI3.out.step kk)
  clear kk c0 c1 c2 c3 d0 d1 d2 d3
  obtain ⟨⟨c0, c1, c2, c3⟩, ⟨d0, d1, d2, d3⟩, _, _⟩ := HI4.out
  go_wp2_with fail
  refine (H5.out _).mono ?_
  rintro e w5 ⟨rfl, kk⟩
  have HI5 := Lib.hid (HI4.out.step kk)
  clear kk c0 c1 c2 c3 d0 d1 d2 d3
  obtain ⟨⟨c0, c1, c2, c3⟩, ⟨d0, d1, d2, d3⟩, _, _⟩ := HI5.out
  have hl1 : w.heap.size < w5.heap.size := by have := HI5.out.size; omega
  have hl2 : w.heap.size + 1 < w5.heap.size := HI5.out.size
  have HI5' := Lib.hid (HI5.out.step ((Below.refl _ _).alloc (Nat.le_refl _) (.cells #[.int .i64 qk, .int .i64 qi, .string qs, .bool qb] 23)))
  have HQ := Lib.hid (Boxed.new qk qi qs qb w5 23)
  have HS : Hid (w5.heap.size < (w5.alloc (.cells #[.int .i64 qk, .int .i64 qi, .string qs, .bool qb] 23)).heap.size) := Lib.hid (by simp)
  go_wp2_with fail
  refine (H6.out _).mono ?_
  rintro e w6 ⟨rfl, kk⟩
  have HI6 := Lib.hid (HI5'.out.step kk)
  clear c0 c1 c2 c3 d0 d1 d2 d3 hl1 hl2
  obtain ⟨⟨c0, c1, c2, c3⟩, ⟨d0, d1, d2, d3⟩, _, _⟩ := HI6.out
  obtain ⟨g0, g1, g2, g3⟩ := HQ.out.below kk HS.out
  have hl1 : w.heap.size < w6.heap.size := by have := HI6.out.size; omega
  have hl2 : w.heap.size + 1 < w6.heap.size := HI6.out.size
  have hl3 : w5.heap.size < w6.heap.size := Nat.lt_of_lt_of_le HS.out kk.size
  have HK6 := Lib.hid ((HI6.out.step ((Below.refl _ _).alloc (Nat.le_refl _) (.cells #[.int .i64 qk, .int .i64 qi, .string qs, .bool qb] 23))).below)
  clear kk
  go_wp2_with fail
  refine (H7.out _).mono ?_
  rintro e w7 ⟨rfl, rfl⟩
  go_wp2_with fail
  refine (HAw.out _ HK6.out).mono ?_
  rintro e wz ⟨rfl, kk⟩
  go_wp2_with fail
  go_ret
  exact ⟨rfl, HK6.out.trans (kk.mono HK6.out.size)⟩

set_option maxHeartbeats 2000000 in
set_option maxRecDepth 100000 in
theorem yesLk (o : Int) (ka ia : Int) (sa : ByteArray) (ba : Bool) (kb ib : Int) (sb : ByteArray) (bb : Bool) (w : World) (hA : sa.size ≤ 9223372036854775807) (hB : sb.size ≤ 9223372036854775807) (hAw : Aw w) (t1 : decide ((sa.size : Int) ≤ 5000) = true) (t2 : decide ((sb.size : Int) ≤ 5000) = true) (t3 : rightB ka ia sa ba = true) (t4 : rightB kb ib sb bb = true) (qk qi : Int) (qs : ByteArray) (qb : Bool) (qe : Int) (ty : Int)
    (hop : ∀ w1, Calls Tryz.prog 8 #[.int .i64 o, .agg #[.int .i64 ka, .int .i64 ia, .string sa, .bool ba], .agg #[.int .i64 kb, .int .i64 ib, .string sb, .bool bb]] w1 fun e w' => e = .returned (.tuple #[.agg #[.int .i64 qk, .int .i64 qi, .string qs, .bool qb], .int .i64 qe]) ∧ Below w1.heap.size w1 w')
    (hro : ∀ w1, Calls Tryz.prog 9 #[.int .i64 o, .agg #[.int .i64 ka, .int .i64 ia, .string sa, .bool ba], .agg #[.int .i64 kb, .int .i64 ib, .string sb, .bool bb]] w1 fun e w' => e = .returned (.tuple #[.agg #[.int .i64 qk, .int .i64 qi, .string qs, .bool qb], .int .i64 qe]) ∧ Below w1.heap.size w1 w')
    (hty : ∀ w1, Calls Tryz.prog 10 #[.int .i64 o, .int .i64 ka, .int .i64 kb] w1 fun e w' => e = .returned (.int .i64 ty) ∧ w1 = w') (u1 : (qe == 1) = false) (u8 : (qe == 8) = false) (u2 : (ty == qk) = true) :
    Calls Tryz.prog 3 #[.int .i64 o, .agg #[.int .i64 ka, .int .i64 ia, .string sa, .bool ba], .agg #[.int .i64 kb, .int .i64 ib, .string sb, .bool bb]] w fun e w' => e = .returned (.bool true) ∧ Below w.heap.size w w' := by
  have HI0 := Lib.hid (In2.new ka ia sa ba kb ib sb bb w)
  have HAw := Lib.hid hAw
  have h1 := fun w1 => few_calls ka ia sa ba w1 (by omega)
  rw [t1] at h1
  have H1 := Lib.hid h1
  have h2 := fun w1 => few_calls kb ib sb bb w1 (by omega)
  rw [t2] at h2
  have H2 := Lib.hid h2
  have h3 := fun w1 => refVRight_calls ka ia sa ba w1 (by omega)
  rw [t3] at h3
  have H3 := Lib.hid h3
  have h4 := fun w1 => refVRight_calls kb ib sb bb w1 (by omega)
  rw [t4] at h4
  have H4 := Lib.hid h4
  have H5 := Lib.hid hop
  have H6 := Lib.hid hro
  have H7 := Lib.hid hty
  have q1 := fun w => eqIn qk qi qs qb qk qi qs qb w
  rw [(eqB_iff _ _ _ _ _ _ _ _).2 ⟨rfl, rfl, rfl, rfl⟩] at q1
  have q2 := guardV
  clear h1 h2 h3 h4 t1 t2 t3 t4 hop hro hty
  clear hAw
  go_enter Tryz.func3, Tryz.ntmps3
  go_wp2_with fail
  refine (H1.out _).mono ?_
  rintro e w1 ⟨rfl, kk⟩
  have HI1 := Lib.hid (HI0.out.step kk)
  clear kk
  obtain ⟨⟨c0, c1, c2, c3⟩, ⟨d0, d1, d2, d3⟩, _, _⟩ := HI1.out
  go_wp2_with fail
  refine (H2.out _).mono ?_
  rintro e w2 ⟨rfl, kk⟩
  have HI2 := Lib.hid (HI1.out.step kk)
  clear kk c0 c1 c2 c3 d0 d1 d2 d3
  obtain ⟨⟨c0, c1, c2, c3⟩, ⟨d0, d1, d2, d3⟩, _, _⟩ := HI2.out
  go_wp2_with fail
  refine (H3.out _).mono ?_
  rintro e w3 ⟨rfl, kk⟩
  have HI3 := Lib.hid (HI2.out.step kk)
  clear kk c0 c1 c2 c3 d0 d1 d2 d3
  obtain ⟨⟨c0, c1, c2, c3⟩, ⟨d0, d1, d2, d3⟩, _, _⟩ := HI3.out
  go_wp2_with fail
  refine (H4.out _).mono ?_
  rintro e w4 ⟨rfl, kk⟩
  have HI4 := Lib.hid (HI3.out.step kk)
  clear kk c0 c1 c2 c3 d0 d1 d2 d3
  obtain ⟨⟨c0, c1, c2, c3⟩, ⟨d0, d1, d2, d3⟩, _, _⟩ := HI4.out
  go_wp2_with fail
  refine (H5.out _).mono ?_
  rintro e w5 ⟨rfl, kk⟩
  have HI5 := Lib.hid (HI4.out.step kk)
  clear kk c0 c1 c2 c3 d0 d1 d2 d3
  obtain ⟨⟨c0, c1, c2, c3⟩, ⟨d0, d1, d2, d3⟩, _, _⟩ := HI5.out
  have hl1 : w.heap.size < w5.heap.size := by have := HI5.out.size; omega
  have hl2 : w.heap.size + 1 < w5.heap.size := HI5.out.size
  have HI5' := Lib.hid (HI5.out.step ((Below.refl _ _).alloc (Nat.le_refl _) (.cells #[.int .i64 qk, .int .i64 qi, .string qs, .bool qb] 23)))
  have HQ := Lib.hid (Boxed.new qk qi qs qb w5 23)
  have HS : Hid (w5.heap.size < (w5.alloc (.cells #[.int .i64 qk, .int .i64 qi, .string qs, .bool qb] 23)).heap.size) := Lib.hid (by simp)
  go_wp2_with fail
  refine (H6.out _).mono ?_
  rintro e w6 ⟨rfl, kk⟩
  have HI6 := Lib.hid (HI5'.out.step kk)
  clear c0 c1 c2 c3 d0 d1 d2 d3 hl1 hl2
  obtain ⟨⟨c0, c1, c2, c3⟩, ⟨d0, d1, d2, d3⟩, _, _⟩ := HI6.out
  obtain ⟨g0, g1, g2, g3⟩ := HQ.out.below kk HS.out
  have hl1 : w.heap.size < w6.heap.size := by have := HI6.out.size; omega
  have hl2 : w.heap.size + 1 < w6.heap.size := HI6.out.size
  have hl3 : w5.heap.size < w6.heap.size := Nat.lt_of_lt_of_le HS.out kk.size
  have HK6 := Lib.hid ((HI6.out.step ((Below.refl _ _).alloc (Nat.le_refl _) (.cells #[.int .i64 qk, .int .i64 qi, .string qs, .bool qb] 23))).below)
  clear kk
  go_wp2_with fail
  refine (H7.out _).mono ?_
  rintro e w7 ⟨rfl, rfl⟩
  go_wp2_with fail
  refine (HAw.out _ HK6.out).mono ?_
  rintro e wz ⟨rfl, kk⟩
  go_wp2_with fail
  go_ret
  exact ⟨rfl, HK6.out.trans (kk.mono HK6.out.size)⟩

set_option maxHeartbeats 2000000 in
set_option maxRecDepth 100000 in
theorem yesLn1 (o : Int) (ka ia : Int) (sa : ByteArray) (ba : Bool) (kb ib : Int) (sb : ByteArray) (bb : Bool) (w : World) (hA : sa.size ≤ 9223372036854775807) (hB : sb.size ≤ 9223372036854775807) (hAw : Aw w) (t1 : decide ((sa.size : Int) ≤ 5000) = true) (t2 : decide ((sb.size : Int) ≤ 5000) = true) (t3 : rightB ka ia sa ba = true) (t4 : rightB kb ib sb bb = true) (qk qi : Int) (qs : ByteArray) (qb : Bool) (qe : Int) (ty : Int)
    (hop : ∀ w1, Calls Tryz.prog 8 #[.int .i64 o, .agg #[.int .i64 ka, .int .i64 ia, .string sa, .bool ba], .agg #[.int .i64 kb, .int .i64 ib, .string sb, .bool bb]] w1 fun e w' => e = .returned (.tuple #[.agg #[.int .i64 qk, .int .i64 qi, .string qs, .bool qb], .int .i64 qe]) ∧ Below w1.heap.size w1 w')
    (hro : ∀ w1, Calls Tryz.prog 9 #[.int .i64 o, .agg #[.int .i64 ka, .int .i64 ia, .string sa, .bool ba], .agg #[.int .i64 kb, .int .i64 ib, .string sb, .bool bb]] w1 fun e w' => e = .returned (.tuple #[.agg #[.int .i64 qk, .int .i64 qi, .string qs, .bool qb], .int .i64 qe]) ∧ Below w1.heap.size w1 w')
    (hty : ∀ w1, Calls Tryz.prog 10 #[.int .i64 o, .int .i64 ka, .int .i64 kb] w1 fun e w' => e = .returned (.int .i64 ty) ∧ w1 = w') (u1 : (qe == 1) = false) (u8 : (qe == 8) = false) (u2 : (ty == qk) = false) (u3 : (qe != 0) = true) (ht : ty = 1) :
    Calls Tryz.prog 3 #[.int .i64 o, .agg #[.int .i64 ka, .int .i64 ia, .string sa, .bool ba], .agg #[.int .i64 kb, .int .i64 ib, .string sb, .bool bb]] w fun e w' => e = .returned (.bool true) ∧ Below w.heap.size w w' := by
  have HI0 := Lib.hid (In2.new ka ia sa ba kb ib sb bb w)
  have HAw := Lib.hid hAw
  have h1 := fun w1 => few_calls ka ia sa ba w1 (by omega)
  rw [t1] at h1
  have H1 := Lib.hid h1
  have h2 := fun w1 => few_calls kb ib sb bb w1 (by omega)
  rw [t2] at h2
  have H2 := Lib.hid h2
  have h3 := fun w1 => refVRight_calls ka ia sa ba w1 (by omega)
  rw [t3] at h3
  have H3 := Lib.hid h3
  have h4 := fun w1 => refVRight_calls kb ib sb bb w1 (by omega)
  rw [t4] at h4
  have H4 := Lib.hid h4
  have H5 := Lib.hid hop
  have H6 := Lib.hid hro
  subst ht
  have H7 := Lib.hid hty
  have q1 := fun w => eqIn qk qi qs qb qk qi qs qb w
  rw [(eqB_iff _ _ _ _ _ _ _ _).2 ⟨rfl, rfl, rfl, rfl⟩] at q1
  have q2 := guardV
  clear h1 h2 h3 h4 t1 t2 t3 t4 hop hro hty
  clear hAw
  go_enter Tryz.func3, Tryz.ntmps3
  go_wp2_with fail
  refine (H1.out _).mono ?_
  rintro e w1 ⟨rfl, kk⟩
  have HI1 := Lib.hid (HI0.out.step kk)
  clear kk
  obtain ⟨⟨c0, c1, c2, c3⟩, ⟨d0, d1, d2, d3⟩, _, _⟩ := HI1.out
  go_wp2_with fail
  refine (H2.out _).mono ?_
  rintro e w2 ⟨rfl, kk⟩
  have HI2 := Lib.hid (HI1.out.step kk)
  clear kk c0 c1 c2 c3 d0 d1 d2 d3
  obtain ⟨⟨c0, c1, c2, c3⟩, ⟨d0, d1, d2, d3⟩, _, _⟩ := HI2.out
  go_wp2_with fail
  refine (H3.out _).mono ?_
  rintro e w3 ⟨rfl, kk⟩
  have HI3 := Lib.hid (HI2.out.step kk)
  clear kk c0 c1 c2 c3 d0 d1 d2 d3
  obtain ⟨⟨c0, c1, c2, c3⟩, ⟨d0, d1, d2, d3⟩, _, _⟩ := HI3.out
  go_wp2_with fail
  refine (H4.out _).mono ?_
  rintro e w4 ⟨rfl, kk⟩
  have HI4 := Lib.hid (HI3.out.step kk)
  clear kk c0 c1 c2 c3 d0 d1 d2 d3
  obtain ⟨⟨c0, c1, c2, c3⟩, ⟨d0, d1, d2, d3⟩, _, _⟩ := HI4.out
  go_wp2_with fail
  refine (H5.out _).mono ?_
  rintro e w5 ⟨rfl, kk⟩
  have HI5 := Lib.hid (HI4.out.step kk)
  clear kk c0 c1 c2 c3 d0 d1 d2 d3
  obtain ⟨⟨c0, c1, c2, c3⟩, ⟨d0, d1, d2, d3⟩, _, _⟩ := HI5.out
  have hl1 : w.heap.size < w5.heap.size := by have := HI5.out.size; omega
  have hl2 : w.heap.size + 1 < w5.heap.size := HI5.out.size
  have HI5' := Lib.hid (HI5.out.step ((Below.refl _ _).alloc (Nat.le_refl _) (.cells #[.int .i64 qk, .int .i64 qi, .string qs, .bool qb] 23)))
  have HQ := Lib.hid (Boxed.new qk qi qs qb w5 23)
  have HS : Hid (w5.heap.size < (w5.alloc (.cells #[.int .i64 qk, .int .i64 qi, .string qs, .bool qb] 23)).heap.size) := Lib.hid (by simp)
  go_wp2_with fail
  refine (H6.out _).mono ?_
  rintro e w6 ⟨rfl, kk⟩
  have HI6 := Lib.hid (HI5'.out.step kk)
  clear c0 c1 c2 c3 d0 d1 d2 d3 hl1 hl2
  obtain ⟨⟨c0, c1, c2, c3⟩, ⟨d0, d1, d2, d3⟩, _, _⟩ := HI6.out
  obtain ⟨g0, g1, g2, g3⟩ := HQ.out.below kk HS.out
  have hl1 : w.heap.size < w6.heap.size := by have := HI6.out.size; omega
  have hl2 : w.heap.size + 1 < w6.heap.size := HI6.out.size
  have hl3 : w5.heap.size < w6.heap.size := Nat.lt_of_lt_of_le HS.out kk.size
  have HK6 := Lib.hid ((HI6.out.step ((Below.refl _ _).alloc (Nat.le_refl _) (.cells #[.int .i64 qk, .int .i64 qi, .string qs, .bool qb] 23))).below)
  clear kk
  go_wp2_with fail
  refine (H7.out _).mono ?_
  rintro e w7 ⟨rfl, rfl⟩
  go_wp2_with fail
  refine (HAw.out _ HK6.out).mono ?_
  rintro e wz ⟨rfl, kk⟩
  go_wp2_with fail
  go_ret
  exact ⟨rfl, HK6.out.trans (kk.mono HK6.out.size)⟩

set_option maxHeartbeats 2000000 in
set_option maxRecDepth 100000 in
theorem yesLn2 (o : Int) (ka ia : Int) (sa : ByteArray) (ba : Bool) (kb ib : Int) (sb : ByteArray) (bb : Bool) (w : World) (hA : sa.size ≤ 9223372036854775807) (hB : sb.size ≤ 9223372036854775807) (hAw : Aw w) (t1 : decide ((sa.size : Int) ≤ 5000) = true) (t2 : decide ((sb.size : Int) ≤ 5000) = true) (t3 : rightB ka ia sa ba = true) (t4 : rightB kb ib sb bb = true) (qk qi : Int) (qs : ByteArray) (qb : Bool) (qe : Int) (ty : Int)
    (hop : ∀ w1, Calls Tryz.prog 8 #[.int .i64 o, .agg #[.int .i64 ka, .int .i64 ia, .string sa, .bool ba], .agg #[.int .i64 kb, .int .i64 ib, .string sb, .bool bb]] w1 fun e w' => e = .returned (.tuple #[.agg #[.int .i64 qk, .int .i64 qi, .string qs, .bool qb], .int .i64 qe]) ∧ Below w1.heap.size w1 w')
    (hro : ∀ w1, Calls Tryz.prog 9 #[.int .i64 o, .agg #[.int .i64 ka, .int .i64 ia, .string sa, .bool ba], .agg #[.int .i64 kb, .int .i64 ib, .string sb, .bool bb]] w1 fun e w' => e = .returned (.tuple #[.agg #[.int .i64 qk, .int .i64 qi, .string qs, .bool qb], .int .i64 qe]) ∧ Below w1.heap.size w1 w')
    (hty : ∀ w1, Calls Tryz.prog 10 #[.int .i64 o, .int .i64 ka, .int .i64 kb] w1 fun e w' => e = .returned (.int .i64 ty) ∧ w1 = w') (u1 : (qe == 1) = false) (u8 : (qe == 8) = false) (u2 : (ty == qk) = false) (u3 : (qe != 0) = true) (ht : ty = 2) :
    Calls Tryz.prog 3 #[.int .i64 o, .agg #[.int .i64 ka, .int .i64 ia, .string sa, .bool ba], .agg #[.int .i64 kb, .int .i64 ib, .string sb, .bool bb]] w fun e w' => e = .returned (.bool true) ∧ Below w.heap.size w w' := by
  have HI0 := Lib.hid (In2.new ka ia sa ba kb ib sb bb w)
  have HAw := Lib.hid hAw
  have h1 := fun w1 => few_calls ka ia sa ba w1 (by omega)
  rw [t1] at h1
  have H1 := Lib.hid h1
  have h2 := fun w1 => few_calls kb ib sb bb w1 (by omega)
  rw [t2] at h2
  have H2 := Lib.hid h2
  have h3 := fun w1 => refVRight_calls ka ia sa ba w1 (by omega)
  rw [t3] at h3
  have H3 := Lib.hid h3
  have h4 := fun w1 => refVRight_calls kb ib sb bb w1 (by omega)
  rw [t4] at h4
  have H4 := Lib.hid h4
  have H5 := Lib.hid hop
  have H6 := Lib.hid hro
  subst ht
  have H7 := Lib.hid hty
  have q1 := fun w => eqIn qk qi qs qb qk qi qs qb w
  rw [(eqB_iff _ _ _ _ _ _ _ _).2 ⟨rfl, rfl, rfl, rfl⟩] at q1
  have q2 := guardV
  clear h1 h2 h3 h4 t1 t2 t3 t4 hop hro hty
  clear hAw
  go_enter Tryz.func3, Tryz.ntmps3
  go_wp2_with fail
  refine (H1.out _).mono ?_
  rintro e w1 ⟨rfl, kk⟩
  have HI1 := Lib.hid (HI0.out.step kk)
  clear kk
  obtain ⟨⟨c0, c1, c2, c3⟩, ⟨d0, d1, d2, d3⟩, _, _⟩ := HI1.out
  go_wp2_with fail
  refine (H2.out _).mono ?_
  rintro e w2 ⟨rfl, kk⟩
  have HI2 := Lib.hid (HI1.out.step kk)
  clear kk c0 c1 c2 c3 d0 d1 d2 d3
  obtain ⟨⟨c0, c1, c2, c3⟩, ⟨d0, d1, d2, d3⟩, _, _⟩ := HI2.out
  go_wp2_with fail
  refine (H3.out _).mono ?_
  rintro e w3 ⟨rfl, kk⟩
  have HI3 := Lib.hid (HI2.out.step kk)
  clear kk c0 c1 c2 c3 d0 d1 d2 d3
  obtain ⟨⟨c0, c1, c2, c3⟩, ⟨d0, d1, d2, d3⟩, _, _⟩ := HI3.out
  go_wp2_with fail
  refine (H4.out _).mono ?_
  rintro e w4 ⟨rfl, kk⟩
  have HI4 := Lib.hid (HI3.out.step kk)
  clear kk c0 c1 c2 c3 d0 d1 d2 d3
  obtain ⟨⟨c0, c1, c2, c3⟩, ⟨d0, d1, d2, d3⟩, _, _⟩ := HI4.out
  go_wp2_with fail
  refine (H5.out _).mono ?_
  rintro e w5 ⟨rfl, kk⟩
  have HI5 := Lib.hid (HI4.out.step kk)
  clear kk c0 c1 c2 c3 d0 d1 d2 d3
  obtain ⟨⟨c0, c1, c2, c3⟩, ⟨d0, d1, d2, d3⟩, _, _⟩ := HI5.out
  have hl1 : w.heap.size < w5.heap.size := by have := HI5.out.size; omega
  have hl2 : w.heap.size + 1 < w5.heap.size := HI5.out.size
  have HI5' := Lib.hid (HI5.out.step ((Below.refl _ _).alloc (Nat.le_refl _) (.cells #[.int .i64 qk, .int .i64 qi, .string qs, .bool qb] 23)))
  have HQ := Lib.hid (Boxed.new qk qi qs qb w5 23)
  have HS : Hid (w5.heap.size < (w5.alloc (.cells #[.int .i64 qk, .int .i64 qi, .string qs, .bool qb] 23)).heap.size) := Lib.hid (by simp)
  go_wp2_with fail
  refine (H6.out _).mono ?_
  rintro e w6 ⟨rfl, kk⟩
  have HI6 := Lib.hid (HI5'.out.step kk)
  clear c0 c1 c2 c3 d0 d1 d2 d3 hl1 hl2
  obtain ⟨⟨c0, c1, c2, c3⟩, ⟨d0, d1, d2, d3⟩, _, _⟩ := HI6.out
  obtain ⟨g0, g1, g2, g3⟩ := HQ.out.below kk HS.out
  have hl1 : w.heap.size < w6.heap.size := by have := HI6.out.size; omega
  have hl2 : w.heap.size + 1 < w6.heap.size := HI6.out.size
  have hl3 : w5.heap.size < w6.heap.size := Nat.lt_of_lt_of_le HS.out kk.size
  have HK6 := Lib.hid ((HI6.out.step ((Below.refl _ _).alloc (Nat.le_refl _) (.cells #[.int .i64 qk, .int .i64 qi, .string qs, .bool qb] 23))).below)
  clear kk
  go_wp2_with fail
  refine (H7.out _).mono ?_
  rintro e w7 ⟨rfl, rfl⟩
  go_wp2_with fail
  refine (HAw.out _ HK6.out).mono ?_
  rintro e wz ⟨rfl, kk⟩
  go_wp2_with fail
  go_ret
  exact ⟨rfl, HK6.out.trans (kk.mono HK6.out.size)⟩

theorem walk (o : Int) (ka ia : Int) (sa : ByteArray) (ba : Bool) (kb ib : Int) (sb : ByteArray) (bb : Bool) (w : World) (_ : -9223372036854775808 ≤ o ∧ o ≤ 9223372036854775807) (hia : -9223372036854775808 ≤ ia ∧ ia ≤ 9223372036854775807) (hA : sa.size ≤ maxLen) (hib : -9223372036854775808 ≤ ib ∧ ib ≤ 9223372036854775807) (hB : sb.size ≤ maxLen) (hL : Laid w) :
    Calls Tryz.prog 3 #[.int .i64 o, .agg #[.int .i64 ka, .int .i64 ia, .string sa, .bool ba], .agg #[.int .i64 kb, .int .i64 ib, .string sb, .bool bb]] w fun e w' => e = .returned (.bool true) ∧ Below w.heap.size w w' := by
  unfold maxLen at hA hB
  have hAw : Aw w := fun w1 hb => awake_calls w1 (hL.below hb)
  cases t1 : decide ((sa.size : Int) ≤ 5000)
  · exact no1 o ka ia sa ba kb ib sb bb w hA hB hAw t1
  cases t2 : decide ((sb.size : Int) ≤ 5000)
  · exact no2 o ka ia sa ba kb ib sb bb w hA hB hAw t1 t2
  cases t3 : rightB ka ia sa ba
  · exact no3 o ka ia sa ba kb ib sb bb w hA hB hAw t1 t2 t3
  cases t4 : rightB kb ib sb bb
  · exact no4 o ka ia sa ba kb ib sb bb w hA hB hAw t1 t2 t3 t4
  have za := right_size t3
  have zb := right_size t4
  have hka := right_kind t3
  have hkb := right_kind t4
  have hop := fun w1 => vOp_calls o ka ia sa ba kb ib sb bb w1 hia hib za zb
  have hro := fun w1 => refOp_calls o ka ia sa ba kb ib sb bb w1 hia hib za zb hka
  have hty := fun w1 => vType_calls o ka kb w1
  have htt := op_type (o := o) (k := ka) (i := ia) (s := sa) (b := ba) (k' := kb) (i' := ib) (s' := sb) (b' := bb) hka hkb
  rw [← op_same hka hkb] at hro
  generalize opV o ka ia sa ba kb ib sb bb = pv at hop hro htt
  generalize typeV o ka kb = ty at hty htt
  obtain ⟨qk, qi, qs, qb, qe⟩ := pv
  simp only [OVal.val] at hop hro htt
  rcases htt with ⟨he | he, ht⟩ | ⟨hne, hx⟩
  · subst he; exact yesL1 o ka ia sa ba kb ib sb bb w hA hB hAw t1 t2 t3 t4 qk qi qs qb ty hop hro hty ht
  · subst he; exact yesL8 o ka ia sa ba kb ib sb bb w hA hB hAw t1 t2 t3 t4 qk qi qs qb ty hop hro hty ht
  · have u1 : (qe == 1) = false := beq_eq_false_iff_ne.2 (fun e => hne (.inl e))
    have u8 : (qe == 8) = false := beq_eq_false_iff_ne.2 (fun e => hne (.inr e))
    by_cases hk : ty = qk
    · exact yesLk o ka ia sa ba kb ib sb bb w hA hB hAw t1 t2 t3 t4 qk qi qs qb qe ty hop hro hty u1 u8 (beq_iff_eq.2 hk)
    · rcases hx with hx | ⟨h0, ht | ht⟩
      · exact absurd hx hk
      · exact yesLn1 o ka ia sa ba kb ib sb bb w hA hB hAw t1 t2 t3 t4 qk qi qs qb qe ty hop hro hty u1 u8 (beq_eq_false_iff_ne.2 hk) (bne_iff_ne.2 h0) ht
      · exact yesLn2 o ka ia sa ba kb ib sb bb w hA hB hAw t1 t2 t3 t4 qk qi qs qb qe ty hop hro hty u1 u8 (beq_eq_false_iff_ne.2 hk) (bne_iff_ne.2 h0) ht
end Go.Proofs.YtmpoloninpakbaaGreatDoor.valueOps
