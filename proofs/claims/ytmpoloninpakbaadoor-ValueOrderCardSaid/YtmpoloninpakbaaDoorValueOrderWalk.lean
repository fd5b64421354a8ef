/- The walk of the law ValueOrder: with any three values it answers true. -/
import Derived.Test.YtmpoloninpakbaaDoorValAwake
import Derived.Test.YtmpoloninpakbaaDoorValOrder
namespace Go.Proofs.YtmpoloninpakbaaDoor.valueOrder
open Go.RowKit
set_option linter.unusedVariables false

/-- The three values lie in the call's own blocks, and what was there ahead of it is as it was. -/
structure In3 (w : World) (ka ia : Int) (sa : ByteArray) (ba : Bool) (kb ib : Int) (sb : ByteArray) (bb : Bool) (kc ic : Int) (sc : ByteArray) (bc : Bool) (w' : World) : Prop where
  a : Boxed w.heap.size ka ia sa ba w'
  b : Boxed (w.heap.size + 1) kb ib sb bb w'
  c : Boxed (w.heap.size + 1 + 1) kc ic sc bc w'
  below : Below w.heap.size w w'
  size : w.heap.size + 1 + 1 < w'.heap.size
theorem In3.step {w : World} {ka ia : Int} {sa : ByteArray} {ba : Bool} {kb ib : Int} {sb : ByteArray} {bb : Bool} {kc ic : Int} {sc : ByteArray} {bc : Bool} {w1 w2 : World} (h : In3 w ka ia sa ba kb ib sb bb kc ic sc bc w1) (hb : Below w1.heap.size w1 w2) : In3 w ka ia sa ba kb ib sb bb kc ic sc bc w2 :=
  have := h.size
  ⟨h.a.below hb (by omega), h.b.below hb (by omega), h.c.below hb h.size, h.below.trans (hb.mono h.below.size), Nat.lt_of_lt_of_le h.size hb.size⟩
theorem In3.new (ka ia : Int) (sa : ByteArray) (ba : Bool) (kb ib : Int) (sb : ByteArray) (bb : Bool) (kc ic : Int) (sc : ByteArray) (bc : Bool) (w : World) : In3 w ka ia sa ba kb ib sb bb kc ic sc bc (((w.alloc (.cells #[.int .i64 ka, .int .i64 ia, .string sa, .bool ba] 23)).alloc (.cells #[.int .i64 kb, .int .i64 ib, .string sb, .bool bb] 23)).alloc (.cells #[.int .i64 kc, .int .i64 ic, .string sc, .bool bc] 23)) := by
  have b1 : Below (w.alloc (.cells #[.int .i64 ka, .int .i64 ia, .string sa, .bool ba] 23)).heap.size (w.alloc (.cells #[.int .i64 ka, .int .i64 ia, .string sa, .bool ba] 23)) ((w.alloc (.cells #[.int .i64 ka, .int .i64 ia, .string sa, .bool ba] 23)).alloc (.cells #[.int .i64 kb, .int .i64 ib, .string sb, .bool bb] 23)) := (Below.refl _ _).alloc (Nat.le_refl _) _
  have b2 : Below ((w.alloc (.cells #[.int .i64 ka, .int .i64 ia, .string sa, .bool ba] 23)).alloc (.cells #[.int .i64 kb, .int .i64 ib, .string sb, .bool bb] 23)).heap.size ((w.alloc (.cells #[.int .i64 ka, .int .i64 ia, .string sa, .bool ba] 23)).alloc (.cells #[.int .i64 kb, .int .i64 ib, .string sb, .bool bb] 23)) (((w.alloc (.cells #[.int .i64 ka, .int .i64 ia, .string sa, .bool ba] 23)).alloc (.cells #[.int .i64 kb, .int .i64 ib, .string sb, .bool bb] 23)).alloc (.cells #[.int .i64 kc, .int .i64 ic, .string sc, .bool bc] 23)) := (Below.refl _ _).alloc (Nat.le_refl _) _
  have n1 : (w.alloc (.cells #[.int .i64 ka, .int .i64 ia, .string sa, .bool ba] 23)).heap.size = w.heap.size + 1 := by simp
  have n2 : ((w.alloc (.cells #[.int .i64 ka, .int .i64 ia, .string sa, .bool ba] 23)).alloc (.cells #[.int .i64 kb, .int .i64 ib, .string sb, .bool bb] 23)).heap.size = w.heap.size + 1 + 1 := by simp
  have x1 := Boxed.new kb ib sb bb (w.alloc (.cells #[.int .i64 ka, .int .i64 ia, .string sa, .bool ba] 23)) 23
  have x2 := Boxed.new kc ic sc bc ((w.alloc (.cells #[.int .i64 ka, .int .i64 ia, .string sa, .bool ba] 23)).alloc (.cells #[.int .i64 kb, .int .i64 ib, .string sb, .bool bb] 23)) 23
  rw [n1] at x1
  rw [n2] at x2
  refine ⟨((Boxed.new ka ia sa ba w _).below b1 (by omega)).below b2 (by omega), x1.below b2 (by omega), x2, ?_, by simp⟩
  exact (((Below.refl _ w).alloc (Nat.le_refl _) _).alloc (by omega) _).alloc (by omega) _

/-- The law's own example, and a call of it. -/
def Aw (w : World) : Prop := ∀ w1, Below w.heap.size w w1 → Calls Tryd.prog 8 #[] w1 fun e w' => e = .returned (.bool true) ∧ Below w1.heap.size w1 w'

set_option maxHeartbeats 2000000 in
set_option maxRecDepth 100000 in
theorem no1 (ka ia : Int) (sa : ByteArray) (ba : Bool) (kb ib : Int) (sb : ByteArray) (bb : Bool) (kc ic : Int) (sc : ByteArray) (bc : Bool) (w : World) (hA : sa.size ≤ 9223372036854775807) (hB : sb.size ≤ 9223372036854775807) (hC : sc.size ≤ 9223372036854775807) (hAw : Aw w) (t1 : decide ((sa.size : Int) ≤ 5000) = false) :
    Calls Tryd.prog 5 #[.agg #[.int .i64 ka, .int .i64 ia, .string sa, .bool ba], .agg #[.int .i64 kb, .int .i64 ib, .string sb, .bool bb], .agg #[.int .i64 kc, .int .i64 ic, .string sc, .bool bc]] w fun e w' => e = .returned (.bool true) ∧ Below w.heap.size w w' := by
  have HI0 := Lib.hid (In3.new ka ia sa ba kb ib sb bb kc ic sc bc w)
  have HAw := Lib.hid hAw
  have h1 := fun w1 => few_calls ka ia sa ba w1 (by omega)
  rw [t1] at h1
  have H1 := Lib.hid h1
  clear h1 t1
  clear hAw
  go_enter Tryd.func5, Tryd.ntmps5
  go_wp2_with fail
  refine (H1.out _).mono ?_
  rintro e w1 ⟨rfl, kk⟩
  have HI1 := Lib.hid (HI0.out.step kk)
  clear kk
  obtain ⟨⟨c0, c1, c2, c3⟩, ⟨d0, d1, d2, d3⟩, ⟨e0, e1, e2, e3⟩, _, _⟩ := HI1.out
  go_wp2_with fail
  refine (HAw.out _ HI1.out.below).mono ?_
  rintro e wz ⟨rfl, kk⟩
  go_wp2_with fail
  go_ret
  exact ⟨rfl, HI1.out.below.trans (kk.mono HI1.out.below.size)⟩

set_option maxHeartbeats 2000000 in
set_option maxRecDepth 100000 in
theorem no2 (ka ia : Int) (sa : ByteArray) (ba : Bool) (kb ib : Int) (sb : ByteArray) (bb : Bool) (kc ic : Int) (sc : ByteArray) (bc : Bool) (w : World) (hA : sa.size ≤ 9223372036854775807) (hB : sb.size ≤ 9223372036854775807) (hC : sc.size ≤ 9223372036854775807) (hAw : Aw w) (t1 : decide ((sa.size : Int) ≤ 5000) = true) (t2 : decide ((sb.size : Int) ≤ 5000) = false) :
    Calls Tryd.prog 5 #[.agg #[.int .i64 ka, .int .i64 ia, .string sa, .bool ba], .agg #[.int .i64 kb, .int .i64 ib, .string sb, .bool bb], .agg #[.int .i64 kc, .int .i64 ic, .string sc, .bool bc]] w fun e w' => e = .returned (.bool true) ∧ Below w.heap.size w w' := by
  have HI0 := Lib.hid (In3.new ka ia sa ba kb ib sb bb kc ic sc bc w)
  have HAw := Lib.hid hAw
  have h1 := fun w1 => few_calls ka ia sa ba w1 (by omega)
  rw [t1] at h1
  have H1 := Lib.hid h1
  have h2 := fun w1 => few_calls kb ib sb bb w1 (by omega)
  rw [t2] at h2
  have H2 := Lib.hid h2
  clear h1 h2 t1 t2
  clear hAw
  go_enter Tryd.func5, Tryd.ntmps5
  go_wp2_with fail
  refine (H1.out _).mono ?_
  rintro e w1 ⟨rfl, kk⟩
  have HI1 := Lib.hid (HI0.out.step kk)
  clear kk
  obtain ⟨⟨c0, c1, c2, c3⟩, ⟨d0, d1, d2, d3⟩, ⟨e0, e1, e2, e3⟩, _, _⟩ := HI1.out
  go_wp2_with fail
  refine (H2.out _).mono ?_
  rintro e w2 ⟨rfl, kk⟩
  have HI2 := Lib.hid (HI1.out.step kk)
  clear kk c0 c1 c2 c3 d0 d1 d2 d3 e0 e1 e2 e3
  obtain ⟨⟨c0, c1, c2, c3⟩, ⟨d0, d1, d2, d3⟩, ⟨e0, e1, e2, e3⟩, _, _⟩ := HI2.out
  go_wp2_with fail
  refine (HAw.out _ HI2.out.below).mono ?_
  rintro e wz ⟨rfl, kk⟩
  go_wp2_with fail
  go_ret
  exact ⟨rfl, HI2.out.below.trans (kk.mono HI2.out.below.size)⟩

set_option maxHeartbeats 2000000 in
set_option maxRecDepth 100000 in
theorem no3 (ka ia : Int) (sa : ByteArray) (ba : Bool) (kb ib : Int) (sb : ByteArray) (bb : Bool) (kc ic : Int) (sc : ByteArray) (bc : Bool) (w : World) (hA : sa.size ≤ 9223372036854775807) (hB : sb.size ≤ 9223372036854775807) (hC : sc.size ≤ 9223372036854775807) (hAw : Aw w) (t1 : decide ((sa.size : Int) ≤ 5000) = true) (t2 : decide ((sb.size : Int) ≤ 5000) = true) (t3 : decide ((sc.size : Int) ≤ 5000) = false) :
    Calls Tryd.prog 5 #[.agg #[.int .i64 ka, .int .i64 ia, .string sa, .bool ba], .agg #[.int .i64 kb, .int .i64 ib, .string sb, .bool bb], .agg #[.int .i64 kc, .int .i64 ic, .string sc, .bool bc]] w fun e w' => e = .returned (.bool true) ∧ Below w.heap.size w w' := by
  have HI0 := Lib.hid (In3.new ka ia sa ba kb ib sb bb kc ic sc bc w)
  have HAw := Lib.hid hAw
  have h1 := fun w1 => few_calls ka ia sa ba w1 (by omega)
  rw [t1] at h1
  have H1 := Lib.hid h1
  have h2 := fun w1 => few_calls kb ib sb bb w1 (by omega)
  rw [t2] at h2
  have H2 := Lib.hid h2
  have h3 := fun w1 => few_calls kc ic sc bc w1 (by omega)
  rw [t3] at h3
  have H3 := Lib.hid h3
  clear h1 h2 h3 t1 t2 t3
  clear hAw
  go_enter Tryd.func5, Tryd.ntmps5
  go_wp2_with fail
  refine (H1.out _).mono ?_
  rintro e w1 ⟨rfl, kk⟩
  have HI1 := Lib.hid (HI0.out.step kk)
  clear kk
  obtain ⟨⟨c0, c1, c2, c3⟩, ⟨d0, d1, d2, d3⟩, ⟨e0, e1, e2, e3⟩, _, _⟩ := HI1.out
  go_wp2_with fail
  refine (H2.out _).mono ?_
  rintro e w2 ⟨rfl, kk⟩
  have HI2 := Lib.hid (HI1.out.step kk)
  clear kk c0 c1 c2 c3 d0 d1 d2 d3 e0 e1 e2 e3
  obtain ⟨⟨c0, c1, c2, c3⟩, ⟨d0, d1, d2, d3⟩, ⟨e0, e1, e2, e3⟩, _, _⟩ := HI2.out
  go_wp2_with fail
  refine (H3.out _).mono ?_
  rintro e w3 ⟨rfl, kk⟩
  have HI3 := Lib.hid (HI2.out.step kk)
  clear kk c0 c1 c2 c3 d0 d1 d2 d3 e0 e1 e2 e3
  obtain ⟨⟨c0, c1, c2, c3⟩, ⟨d0, d1, d2, d3⟩, ⟨e0, e1, e2, e3⟩, _, _⟩ := HI3.out
  go_wp2_with fail
  refine (HAw.out _ HI3.out.below).mono ?_
  rintro e wz ⟨rfl, kk⟩
  go_wp2_with fail
  go_ret
  exact ⟨rfl, HI3.out.below.trans (kk.mono HI3.out.below.size)⟩

set_option maxHeartbeats 2000000 in
set_option maxRecDepth 100000 in
theorem no4 (ka ia : Int) (sa : ByteArray) (ba : Bool) (kb ib : Int) (sb : ByteArray) (bb : Bool) (kc ic : Int) (sc : ByteArray) (bc : Bool) (w : World) (hA : sa.size ≤ 9223372036854775807) (hB : sb.size ≤ 9223372036854775807) (hC : sc.size ≤ 9223372036854775807) (hAw : Aw w) (t1 : decide ((sa.size : Int) ≤ 5000) = true) (t2 : decide ((sb.size : Int) ≤ 5000) = true) (t3 : decide ((sc.size : Int) ≤ 5000) = true) (t4 : rightB ka ia sa ba = false) :
    Calls Tryd.prog 5 #[.agg #[.int .i64 ka, .int .i64 ia, .string sa, .bool ba], .agg #[.int .i64 kb, .int .i64 ib, .string sb, .bool bb], .agg #[.int .i64 kc, .int .i64 ic, .string sc, .bool bc]] w fun e w' => e = .returned (.bool true) ∧ Below w.heap.size w w' := by
  have HI0 := Lib.hid (In3.new ka ia sa ba kb ib sb bb kc ic sc bc w)
  have HAw := Lib.hid hAw
  have h1 := fun w1 => few_calls ka ia sa ba w1 (by omega)
  rw [t1] at h1
  have H1 := Lib.hid h1
  have h2 := fun w1 => few_calls kb ib sb bb w1 (by omega)
  rw [t2] at h2
  have H2 := Lib.hid h2
  have h3 := fun w1 => few_calls kc ic sc bc w1 (by omega)
  rw [t3] at h3
  have H3 := Lib.hid h3
  have h4 := fun w1 => refVRight_calls ka ia sa ba w1 (by omega)
  rw [t4] at h4
  have H4 := Lib.hid h4
  clear h1 h2 h3 h4 t1 t2 t3 t4
  clear hAw
  go_enter Tryd.func5, Tryd.ntmps5
  go_wp2_with fail
  refine (H1.out _).mono ?_
  rintro e w1 ⟨rfl, kk⟩
  have HI1 := Lib.hid (HI0.out.step kk)
  clear kk
  obtain ⟨⟨c0, c1, c2, c3⟩, ⟨d0, d1, d2, d3⟩, ⟨e0, e1, e2, e3⟩, _, _⟩ := HI1.out
  go_wp2_with fail
  refine (H2.out _).mono ?_
  rintro e w2 ⟨rfl, kk⟩
  have HI2 := Lib.hid (HI1.out.step kk)
  clear kk c0 c1 c2 c3 d0 d1 d2 d3 e0 e1 e2 e3
  obtain ⟨⟨c0, c1, c2, c3⟩, ⟨d0, d1, d2, d3⟩, ⟨e0, e1, e2, e3⟩, _, _⟩ := HI2.out
  go_wp2_with fail
  refine (H3.out _).mono ?_
  rintro e w3 ⟨rfl, kk⟩
  have HI3 := Lib.hid (HI2.out.step kk)
  clear kk c0 c1 c2 c3 d0 d1 d2 d3 e0 e1 e2 e3
  obtain ⟨⟨c0, c1, c2, c3⟩, ⟨d0, d1, d2, d3⟩, ⟨e0, e1, e2, e3⟩, _, _⟩ := HI3.out
  go_wp2_with fail
  refine (H4.out _).mono ?_
  rintro e w4 ⟨rfl, kk⟩
  have HI4 := Lib.hid (HI3.out.step kk)
  clear kk c0 c1 c2 c3 d0 d1 d2 d3 e0 e1 e2 e3
  obtain ⟨⟨c0, c1, c2, c3⟩, ⟨d0, d1, d2, d3⟩, ⟨e0, e1, e2, e3⟩, _, _⟩ := HI4.out
  go_wp2_with fail
  refine (HAw.out _ HI4.out.below).mono ?_
  rintro e wz ⟨rfl, kk⟩
  go_wp2_with fail
  go_ret
  exact ⟨rfl, HI4.out.below.trans (kk.mono HI4.out.below.size)⟩

set_option maxHeartbeats 2000000 in
set_option maxRecDepth 100000 in
theorem no5 (ka ia : Int) (sa : ByteArray) (ba : Bool) (kb ib : Int) (sb : ByteArray) (bb : Bool) (kc ic : Int) (sc : ByteArray) (bc : Bool) (w : World) (hA : sa.size ≤ 9223372036854775807) (hB : sb.size ≤ 9223372036854775807) (hC : sc.size ≤ 9223372036854775807) (hAw : Aw w) (t1 : decide ((sa.size : Int) ≤ 5000) = true) (t2 : decide ((sb.size : Int) ≤ 5000) = true) (t3 : decide ((sc.size : Int) ≤ 5000) = true) (t4 : rightB ka ia sa ba = true) (t5 : rightB kb ib sb bb = false) :
    Calls Tryd.prog 5 #[.agg #[.int .i64 ka, .int .i64 ia, .string sa, .bool ba], .agg #[.int .i64 kb, .int .i64 ib, .string sb, .bool bb], .agg #[.int .i64 kc, .int .i64 ic, .string sc, .bool bc]] w fun e w' => e = .returned (.bool true) ∧ Below w.heap.size w w' := by
  have HI0 := Lib.hid (In3.new ka ia sa ba kb ib sb bb kc ic sc bc w)
  have HAw := Lib.hid hAw
  have h1 := fun w1 => few_calls ka ia sa ba w1 (by omega)
  rw [t1] at h1
  have H1 := Lib.hid h1
  have h2 := fun w1 => few_calls kb ib sb bb w1 (by omega)
  rw [t2] at h2
  have H2 := Lib.hid h2
  have h3 := fun w1 => few_calls kc ic sc bc w1 (by omega)
  rw [t3] at h3
  have H3 := Lib.hid h3
  have h4 := fun w1 => refVRight_calls ka ia sa ba w1 (by omega)
  rw [t4] at h4
  have H4 := Lib.hid h4
  have h5 := fun w1 => refVRight_calls kb ib sb bb w1 (by omega)
  rw [t5] at h5
  have H5 := Lib.hid h5
  clear h1 h2 h3 h4 h5 t1 t2 t3 t4 t5
  clear hAw
  go_enter Tryd.func5, Tryd.ntmps5
  go_wp2_with fail
  refine (H1.out _).mono ?_
  rintro e w1 ⟨rfl, kk⟩
  have HI1 := Lib.hid (HI0.out.step kk)
  clear kk
  obtain ⟨⟨c0, c1, c2, c3⟩, ⟨d0, d1, d2, d3⟩, ⟨e0, e1, e2, e3⟩, _, _⟩ := HI1.out
  go_wp2_with fail
  refine (H2.out _).mono ?_
  rintro e w2 ⟨rfl, kk⟩
  have HI2 := Lib.hid (HI1.out.step kk)
  clear kk c0 c1 c2 c3 d0 d1 d2 d3 e0 e1 e2 e3
  obtain ⟨⟨c0, c1, c2, c3⟩, ⟨d0, d1, d2, d3⟩, ⟨e0, e1, e2, e3⟩, _, _⟩ := HI2.out
  go_wp2_with fail
  refine (H3.out _).mono ?_
  rintro e w3 ⟨rfl, kk⟩
  have HI3 := Lib.hid (HI2.out.step kk)
  clear kk c0 c1 c2 c3 d0 d1 d2 d3 e0 e1 e2 e3
  obtain ⟨⟨c0, c1, c2, c3⟩, ⟨d0, d1, d2, d3⟩, ⟨e0, e1, e2, e3⟩, _, _⟩ := HI3.out
  go_wp2_with fail
  refine (H4.out _).mono ?_
  rintro e w4 ⟨rfl, kk⟩
  have HI4 := Lib.hid (HI3.out.step kk)
  clear kk c0 c1 c2 c3 d0 d1 d2 d3 e0 e1 e2 e3
  obtain ⟨⟨c0, c1, c2, c3⟩, ⟨d0, d1, d2, d3⟩, ⟨e0, e1, e2, e3⟩, _, _⟩ := HI4.out
  go_wp2_with fail
  refine (H5.out _).mono ?_
  rintro e w5 ⟨rfl, kk⟩
  have HI5 := Lib.hid (HI4.out.step kk)
  clear kk c0 c1 c2 c3 d0 d1 d2 d3 e0 e1 e2 e3
  obtain ⟨⟨c0, c1, c2, c3⟩, ⟨d0, d1, d2, d3⟩, ⟨e0, e1, e2, e3⟩, _, _⟩ := HI5.out
  go_wp2_with fail
  refine (HAw.out _ HI5.out.below).mono ?_
  rintro e wz ⟨rfl, kk⟩
  go_wp2_with fail
  go_ret
  exact ⟨rfl, HI5.out.below.trans (kk.mono HI5.out.below.size)⟩

set_option maxHeartbeats 2000000 in
set_option maxRecDepth 100000 in
theorem no6 (ka ia : Int) (sa : ByteArray) (ba : Bool) (kb ib : Int) (sb : ByteArray) (bb : Bool) (kc ic : Int) (sc : ByteArray) (bc : Bool) (w : World) (hA : sa.size ≤ 9223372036854775807) (hB : sb.size ≤ 9223372036854775807) (hC : sc.size ≤ 9223372036854775807) (hAw : Aw w) (t1 : decide ((sa.size : Int) ≤ 5000) = true) (t2 : decide ((sb.size : Int) ≤ 5000) = true) (t3 : decide ((sc.size : Int) ≤ 5000) = true) (t4 : rightB ka ia sa ba = true) (t5 : rightB kb ib sb bb = true) (t6 : rightB kc ic sc bc = false) :
    Calls Tryd.prog 5 #[.agg #[.int .i64 ka, .int .i64 ia, .string sa, .bool ba], .agg #[.int .i64 kb, .int .i64 ib, .string sb, .bool bb], .agg #[.int .i64 kc, .int .i64 ic, .string sc, .bool bc]] w fun e w' => e = .returned (.bool true) ∧ Below w.heap.size w w' := by
  have HI0 := Lib.hid (In3.new ka ia sa ba kb ib sb bb kc ic sc bc w)
  have HAw := Lib.hid hAw
  have h1 := fun w1 => few_calls ka ia sa ba w1 (by omega)
  rw [t1] at h1
  have H1 := Lib.hid h1
  have h2 := fun w1 => few_calls kb ib sb bb w1 (by omega)
  rw [t2] at h2
  have H2 := Lib.hid h2
  have h3 := fun w1 => few_calls kc ic sc bc w1 (by omega)
  rw [t3] at h3
  have H3 := Lib.hid h3
  have h4 := fun w1 => refVRight_calls ka ia sa ba w1 (by omega)
  rw [t4] at h4
  have H4 := Lib.hid h4
  have h5 := fun w1 => refVRight_calls kb ib sb bb w1 (by omega)
  rw [t5] at h5
  have H5 := Lib.hid h5
  have h6 := fun w1 => refVRight_calls kc ic sc bc w1 (by omega)
  rw [t6] at h6
  have H6 := Lib.hid h6
  clear h1 h2 h3 h4 h5 h6 t1 t2 t3 t4 t5 t6
  clear hAw
  go_enter Tryd.func5, Tryd.ntmps5
  go_wp2_with fail
  refine (H1.out _).mono ?_
  rintro e w1 ⟨rfl, kk⟩
  have HI1 := Lib.hid (HI0.out.step kk)
  clear kk
  obtain ⟨⟨c0, c1, c2, c3⟩, ⟨d0, d1, d2, d3⟩, ⟨e0, e1, e2, e3⟩, _, _⟩ := HI1.out
  go_wp2_with fail
  refine (H2.out _).mono ?_
  rintro e w2 ⟨rfl, kk⟩
  have HI2 := Lib.hid (HI1.out.step kk)
  clear kk c0 c1 c2 c3 d0 d1 d2 d3 e0 e1 e2 e3
  obtain ⟨⟨c0, c1, c2, c3⟩, ⟨d0, d1, d2, d3⟩, ⟨e0, e1, e2, e3⟩, _, _⟩ := HI2.out
  go_wp2_with fail
  refine (H3.out _).mono ?_
  rintro e w3 ⟨rfl, kk⟩
  have HI3 := Lib.hid (HI2.out.step kk)
  clear kk c0 c1 c2 c3 d0 d1 d2 d3 e0 e1 e2 e3
  obtain ⟨⟨c0, c1, c2, c3⟩, ⟨d0, d1, d2, d3⟩, ⟨e0, e1, e2, e3⟩, _, _⟩ := HI3.out
  go_wp2_with fail
  refine (H4.out _).mono ?_
  rintro e w4 ⟨rfl, kk⟩
  have HI4 := Lib.hid (HI3.out.step kk)
  clear kk c0 c1 c2 c3 d0 d1 d2 d3 e0 e1 e2 e3
  obtain ⟨⟨c0, c1, c2, c3⟩, ⟨d0, d1, d2, d3⟩, ⟨e0, e1, e2, e3⟩, _, _⟩ := HI4.out
  go_wp2_with fail
  refine (H5.out _).mono ?_
  rintro e w5 ⟨rfl, kk⟩
  have HI5 := Lib.hid (HI4.out.step kk)
  clear kk c0 c1 c2 c3 d0 d1 d2 d3 e0 e1 e2 e3
  obtain ⟨⟨c0, c1, c2, c3⟩, ⟨d0, d1, d2, d3⟩, ⟨e0, e1, e2, e3⟩, _, _⟩ := HI5.out
  go_wp2_with fail
  refine (H6.out _).mono ?_
  rintro e w6 ⟨rfl, kk⟩
  have HI6 := Lib.hid (HI5.out.step kk)
  clear kk c0 c1 c2 c3 d0 d1 d2 d3 e0 e1 e2 e3
  obtain ⟨⟨c0, c1, c2, c3⟩, ⟨d0, d1, d2, d3⟩, ⟨e0, e1, e2, e3⟩, _, _⟩ := HI6.out
  go_wp2_with fail
  refine (HAw.out _ HI6.out.below).mono ?_
  rintro e wz ⟨rfl, kk⟩
  go_wp2_with fail
  go_ret
  exact ⟨rfl, HI6.out.below.trans (kk.mono HI6.out.below.size)⟩

set_option maxHeartbeats 2000000 in
set_option maxRecDepth 100000 in
theorem yesA (ka ia : Int) (sa : ByteArray) (ba : Bool) (kb ib : Int) (sb : ByteArray) (bb : Bool) (kc ic : Int) (sc : ByteArray) (bc : Bool) (w : World) (hA : sa.size ≤ 9223372036854775807) (hB : sb.size ≤ 9223372036854775807) (hC : sc.size ≤ 9223372036854775807) (hAw : Aw w) (t1 : decide ((sa.size : Int) ≤ 5000) = true) (t2 : decide ((sb.size : Int) ≤ 5000) = true) (t3 : decide ((sc.size : Int) ≤ 5000) = true) (t4 : rightB ka ia sa ba = true) (t5 : rightB kb ib sb bb = true) (t6 : rightB kc ic sc bc = true) (hx : lessB ka ia sa ba kb ib sb bb = false) (hy : lessB kb ib sb bb ka ia sa ba = true) (hq : eqB ka ia sa ba kb ib sb bb = false) :
    Calls Tryd.prog 5 #[.agg #[.int .i64 ka, .int .i64 ia, .string sa, .bool ba], .agg #[.int .i64 kb, .int .i64 ib, .string sb, .bool bb], .agg #[.int .i64 kc, .int .i64 ic, .string sc, .bool bc]] w fun e w' => e = .returned (.bool true) ∧ Below w.heap.size w w' := by
  have HI0 := Lib.hid (In3.new ka ia sa ba kb ib sb bb kc ic sc bc w)
  have HAw := Lib.hid hAw
  have h1 := fun w1 => few_calls ka ia sa ba w1 (by omega)
  rw [t1] at h1
  have H1 := Lib.hid h1
  have h2 := fun w1 => few_calls kb ib sb bb w1 (by omega)
  rw [t2] at h2
  have H2 := Lib.hid h2
  have h3 := fun w1 => few_calls kc ic sc bc w1 (by omega)
  rw [t3] at h3
  have H3 := Lib.hid h3
  have h4 := fun w1 => refVRight_calls ka ia sa ba w1 (by omega)
  rw [t4] at h4
  have H4 := Lib.hid h4
  have h5 := fun w1 => refVRight_calls kb ib sb bb w1 (by omega)
  rw [t5] at h5
  have H5 := Lib.hid h5
  have h6 := fun w1 => refVRight_calls kc ic sc bc w1 (by omega)
  rw [t6] at h6
  have H6 := Lib.hid h6
  have hX := fun w1 => vLess_calls ka ia sa ba kb ib sb bb w1
  have hY := fun w1 => vLess_calls kb ib sb bb ka ia sa ba w1
  have hR := fun w1 => refVLess_calls ka ia sa ba kb ib sb bb w1 hA hB (right_kind t4)
  rw [hx] at hX hR
  rw [hy] at hY
  have HX := Lib.hid hX
  have HY := Lib.hid hY
  have HR := Lib.hid hR
  have q1 := fun w => eqIn ka ia sa ba kb ib sb bb w
  rw [hq] at q1
  have q2 := guardV
  clear h1 h2 h3 h4 h5 h6 t1 t2 t3 t4 t5 t6 hX hY hR hx hy hq
  clear hAw
  go_enter Tryd.func5, Tryd.ntmps5
  go_wp2_with fail
  refine (H1.out _).mono ?_
  rintro e w1 ⟨rfl, kk⟩
  have HI1 := Lib.hid (HI0.out.step kk)
  clear kk
  obtain ⟨⟨c0, c1, c2, c3⟩, ⟨d0, d1, d2, d3⟩, ⟨e0, e1, e2, e3⟩, _, _⟩ := HI1.out
  go_wp2_with fail
  refine (H2.out _).mono ?_
  rintro e w2 ⟨rfl, kk⟩
  have HI2 := Lib.hid (HI1.out.step kk)
  clear kk c0 c1 c2 c3 d0 d1 d2 d3 e0 e1 e2 e3
  obtain ⟨⟨c0, c1, c2, c3⟩, ⟨d0, d1, d2, d3⟩, ⟨e0, e1, e2, e3⟩, _, _⟩ := HI2.out
  go_wp2_with fail
  refine (H3.out _).mono ?_
  rintro e w3 ⟨rfl, kk⟩
  have HI3 := Lib.hid (HI2.out.step kk)
  clear kk c0 c1 c2 c3 d0 d1 d2 d3 e0 e1 e2 e3
  obtain ⟨⟨c0, c1, c2, c3⟩, ⟨d0, d1, d2, d3⟩, ⟨e0, e1, e2, e3⟩, _, _⟩ := HI3.out
  go_wp2_with fail
  refine (H4.out _).mono ?_
  rintro e w4 ⟨rfl, kk⟩
  have HI4 := Lib.hid (HI3.out.step kk)
  clear kk c0 c1 c2 c3 d0 d1 d2 d3 e0 e1 e2 e3
  obtain ⟨⟨c0, c1, c2, c3⟩, ⟨d0, d1, d2, d3⟩, ⟨e0, e1, e2, e3⟩, _, _⟩ := HI4.out
  go_wp2_with fail
  refine (H5.out _).mono ?_
  rintro e w5 ⟨rfl, kk⟩
  have HI5 := Lib.hid (HI4.out.step kk)
  clear kk c0 c1 c2 c3 d0 d1 d2 d3 e0 e1 e2 e3
  obtain ⟨⟨c0, c1, c2, c3⟩, ⟨d0, d1, d2, d3⟩, ⟨e0, e1, e2, e3⟩, _, _⟩ := HI5.out
  go_wp2_with fail
  refine (H6.out _).mono ?_
  rintro e w6 ⟨rfl, kk⟩
  have HI6 := Lib.hid (HI5.out.step kk)
  clear kk c0 c1 c2 c3 d0 d1 d2 d3 e0 e1 e2 e3
  obtain ⟨⟨c0, c1, c2, c3⟩, ⟨d0, d1, d2, d3⟩, ⟨e0, e1, e2, e3⟩, _, _⟩ := HI6.out
  go_wp2_with fail
  refine (HX.out _).mono ?_
  rintro e w7 ⟨rfl, kk⟩
  have HI7 := Lib.hid (HI6.out.step kk)
  clear kk c0 c1 c2 c3 d0 d1 d2 d3 e0 e1 e2 e3
  obtain ⟨⟨c0, c1, c2, c3⟩, ⟨d0, d1, d2, d3⟩, ⟨e0, e1, e2, e3⟩, _, _⟩ := HI7.out
  go_wp2_with fail
  refine (HY.out _).mono ?_
  rintro e w8 ⟨rfl, kk⟩
  have HI8 := Lib.hid (HI7.out.step kk)
  clear kk c0 c1 c2 c3 d0 d1 d2 d3 e0 e1 e2 e3
  obtain ⟨⟨c0, c1, c2, c3⟩, ⟨d0, d1, d2, d3⟩, ⟨e0, e1, e2, e3⟩, _, _⟩ := HI8.out
  go_wp2_with fail
  refine (HR.out _).mono ?_
  rintro e w9 ⟨rfl, kk⟩
  have HI9 := Lib.hid (HI8.out.step kk)
  clear kk c0 c1 c2 c3 d0 d1 d2 d3 e0 e1 e2 e3
  obtain ⟨⟨c0, c1, c2, c3⟩, ⟨d0, d1, d2, d3⟩, ⟨e0, e1, e2, e3⟩, _, _⟩ := HI9.out
  go_wp2_with fail
  refine (HAw.out _ HI9.out.below).mono ?_
  rintro e wz ⟨rfl, kk⟩
  go_wp2_with fail
  go_ret
  exact ⟨rfl, HI9.out.below.trans (kk.mono HI9.out.below.size)⟩

set_option maxHeartbeats 2000000 in
set_option maxRecDepth 100000 in
theorem yesB (ka ia : Int) (sa : ByteArray) (ba : Bool) (kb ib : Int) (sb : ByteArray) (bb : Bool) (kc ic : Int) (sc : ByteArray) (bc : Bool) (w : World) (hA : sa.size ≤ 9223372036854775807) (hB : sb.size ≤ 9223372036854775807) (hC : sc.size ≤ 9223372036854775807) (hAw : Aw w) (t1 : decide ((sa.size : Int) ≤ 5000) = true) (t2 : decide ((sb.size : Int) ≤ 5000) = true) (t3 : decide ((sc.size : Int) ≤ 5000) = true) (t4 : rightB ka ia sa ba = true) (t5 : rightB kb ib sb bb = true) (t6 : rightB kc ic sc bc = true) (hx : lessB ka ia sa ba kb ib sb bb = false) (hy : lessB kb ib sb bb ka ia sa ba = false) (hq : eqB ka ia sa ba kb ib sb bb = true) :
    Calls Tryd.prog 5 #[.agg #[.int .i64 ka, .int .i64 ia, .string sa, .bool ba], .agg #[.int .i64 kb, .int .i64 ib, .string sb, .bool bb], .agg #[.int .i64 kc, .int .i64 ic, .string sc, .bool bc]] w fun e w' => e = .returned (.bool true) ∧ Below w.heap.size w w' := by
  have HI0 := Lib.hid (In3.new ka ia sa ba kb ib sb bb kc ic sc bc w)
  have HAw := Lib.hid hAw
  have h1 := fun w1 => few_calls ka ia sa ba w1 (by omega)
  rw [t1] at h1
  have H1 := Lib.hid h1
  have h2 := fun w1 => few_calls kb ib sb bb w1 (by omega)
  rw [t2] at h2
  have H2 := Lib.hid h2
  have h3 := fun w1 => few_calls kc ic sc bc w1 (by omega)
  rw [t3] at h3
  have H3 := Lib.hid h3
  have h4 := fun w1 => refVRight_calls ka ia sa ba w1 (by omega)
  rw [t4] at h4
  have H4 := Lib.hid h4
  have h5 := fun w1 => refVRight_calls kb ib sb bb w1 (by omega)
  rw [t5] at h5
  have H5 := Lib.hid h5
  have h6 := fun w1 => refVRight_calls kc ic sc bc w1 (by omega)
  rw [t6] at h6
  have H6 := Lib.hid h6
  have hX := fun w1 => vLess_calls ka ia sa ba kb ib sb bb w1
  have hY := fun w1 => vLess_calls kb ib sb bb ka ia sa ba w1
  have hR := fun w1 => refVLess_calls ka ia sa ba kb ib sb bb w1 hA hB (right_kind t4)
  rw [hx] at hX hR
  rw [hy] at hY
  have HX := Lib.hid hX
  have HY := Lib.hid hY
  have HR := Lib.hid hR
  have q1 := fun w => eqIn ka ia sa ba kb ib sb bb w
  rw [hq] at q1
  have q2 := guardV
  clear h1 h2 h3 h4 h5 h6 t1 t2 t3 t4 t5 t6 hX hY hR hx hy hq
  clear hAw
  go_enter Tryd.func5, Tryd.ntmps5
  go_wp2_with fail
  refine (H1.out _).mono ?_
  rintro e w1 ⟨rfl, kk⟩
  have HI1 := Lib.hid (HI0.out.step kk)
  clear kk
  obtain ⟨⟨c0, c1, c2, c3⟩, ⟨d0, d1, d2, d3⟩, ⟨e0, e1, e2, e3⟩, _, _⟩ := HI1.out
  go_wp2_with fail
  refine (H2.out _).mono ?_
  rintro e w2 ⟨rfl, kk⟩
  have HI2 := Lib.hid (HI1.out.step kk)
  clear kk c0 c1 c2 c3 d0 d1 d2 d3 e0 e1 e2 e3
  obtain ⟨⟨c0, c1, c2, c3⟩, ⟨d0, d1, d2, d3⟩, ⟨e0, e1, e2, e3⟩, _, _⟩ := HI2.out
  go_wp2_with fail
  refine (H3.out _).mono ?_
  rintro e w3 ⟨rfl, kk⟩
  have HI3 := Lib.hid (HI2.out.step kk)
  clear kk c0 c1 c2 c3 d0 d1 d2 d3 e0 e1 e2 e3
  obtain ⟨⟨c0, c1, c2, c3⟩, ⟨d0, d1, d2, d3⟩, ⟨e0, e1, e2, e3⟩, _, _⟩ := HI3.out
  go_wp2_with fail
  refine (H4.out _).mono ?_
  rintro e w4 ⟨rfl, kk⟩
  have HI4 := Lib.hid (HI3.out.step kk)
  clear kk c0 c1 c2 c3 d0 d1 d2 d3 e0 e1 e2 e3
  obtain ⟨⟨c0, c1, c2, c3⟩, ⟨d0, d1, d2, d3⟩, ⟨e0, e1, e2, e3⟩, _, _⟩ := HI4.out
  go_wp2_with fail
  refine (H5.out _).mono ?_
  rintro e w5 ⟨rfl, kk⟩
  have HI5 := Lib.hid (HI4.out.step kk)
  clear kk c0 c1 c2 c3 d0 d1 d2 d3 e0 e1 e2 e3
  obtain ⟨⟨c0, c1, c2, c3⟩, ⟨d0, d1, d2, d3⟩, ⟨e0, e1, e2, e3⟩, _, _⟩ := HI5.out
  go_wp2_with fail
  refine (H6.out _).mono ?_
  rintro e w6 ⟨rfl, kk⟩
  have HI6 := Lib.hid (HI5.out.step kk)
  clear kk c0 c1 c2 c3 d0 d1 d2 d3 e0 e1 e2 e3
  obtain ⟨⟨c0, c1, c2, c3⟩, ⟨d0, d1, d2, d3⟩, ⟨e0, e1, e2, e3⟩, _, _⟩ := HI6.out
  go_wp2_with fail
  refine (HX.out _).mono ?_
  rintro e w7 ⟨rfl, kk⟩
  have HI7 := Lib.hid (HI6.out.step kk)
  clear kk c0 c1 c2 c3 d0 d1 d2 d3 e0 e1 e2 e3
  obtain ⟨⟨c0, c1, c2, c3⟩, ⟨d0, d1, d2, d3⟩, ⟨e0, e1, e2, e3⟩, _, _⟩ := HI7.out
  go_wp2_with fail
  refine (HY.out _).mono ?_
  rintro e w8 ⟨rfl, kk⟩
  have HI8 := Lib.hid (HI7.out.step kk)
  clear kk c0 c1 c2 c3 d0 d1 d2 d3 e0 e1 e2 e3
  obtain ⟨⟨c0, c1, c2, c3⟩, ⟨d0, d1, d2, d3⟩, ⟨e0, e1, e2, e3⟩, _, _⟩ := HI8.out
  go_wp2_with fail
  refine (HR.out _).mono ?_
  rintro e w9 ⟨rfl, kk⟩
  have HI9 := Lib.hid (HI8.out.step kk)
  clear kk c0 c1 c2 c3 d0 d1 d2 d3 e0 e1 e2 e3
  obtain ⟨⟨c0, c1, c2, c3⟩, ⟨d0, d1, d2, d3⟩, ⟨e0, e1, e2, e3⟩, _, _⟩ := HI9.out
  go_wp2_with fail
  refine (HAw.out _ HI9.out.below).mono ?_
  rintro e wz ⟨rfl, kk⟩
  go_wp2_with fail
  go_ret
  exact ⟨rfl, HI9.out.below.trans (kk.mono HI9.out.below.size)⟩

set_option maxHeartbeats 2000000 in
set_option maxRecDepth 100000 in
theorem yesC (ka ia : Int) (sa : ByteArray) (ba : Bool) (kb ib : Int) (sb : ByteArray) (bb : Bool) (kc ic : Int) (sc : ByteArray) (bc : Bool) (w : World) (hA : sa.size ≤ 9223372036854775807) (hB : sb.size ≤ 9223372036854775807) (hC : sc.size ≤ 9223372036854775807) (hAw : Aw w) (t1 : decide ((sa.size : Int) ≤ 5000) = true) (t2 : decide ((sb.size : Int) ≤ 5000) = true) (t3 : decide ((sc.size : Int) ≤ 5000) = true) (t4 : rightB ka ia sa ba = true) (t5 : rightB kb ib sb bb = true) (t6 : rightB kc ic sc bc = true) (hx : lessB ka ia sa ba kb ib sb bb = true) (hy : lessB kb ib sb bb ka ia sa ba = false) (hq : eqB ka ia sa ba kb ib sb bb = false) (hz : lessB kb ib sb bb kc ic sc bc = false) :
    Calls Tryd.prog 5 #[.agg #[.int .i64 ka, .int .i64 ia, .string sa, .bool ba], .agg #[.int .i64 kb, .int .i64 ib, .string sb, .bool bb], .agg #[.int .i64 kc, .int .i64 ic, .string sc, .bool bc]] w fun e w' => e = .returned (.bool true) ∧ Below w.heap.size w w' := by
  have HI0 := Lib.hid (In3.new ka ia sa ba kb ib sb bb kc ic sc bc w)
  have HAw := Lib.hid hAw
  have h1 := fun w1 => few_calls ka ia sa ba w1 (by omega)
  rw [t1] at h1
  have H1 := Lib.hid h1
  have h2 := fun w1 => few_calls kb ib sb bb w1 (by omega)
  rw [t2] at h2
  have H2 := Lib.hid h2
  have h3 := fun w1 => few_calls kc ic sc bc w1 (by omega)
  rw [t3] at h3
  have H3 := Lib.hid h3
  have h4 := fun w1 => refVRight_calls ka ia sa ba w1 (by omega)
  rw [t4] at h4
  have H4 := Lib.hid h4
  have h5 := fun w1 => refVRight_calls kb ib sb bb w1 (by omega)
  rw [t5] at h5
  have H5 := Lib.hid h5
  have h6 := fun w1 => refVRight_calls kc ic sc bc w1 (by omega)
  rw [t6] at h6
  have H6 := Lib.hid h6
  have hX := fun w1 => vLess_calls ka ia sa ba kb ib sb bb w1
  have hY := fun w1 => vLess_calls kb ib sb bb ka ia sa ba w1
  have hR := fun w1 => refVLess_calls ka ia sa ba kb ib sb bb w1 hA hB (right_kind t4)
  rw [hx] at hX hR
  rw [hy] at hY
  have HX := Lib.hid hX
  have HY := Lib.hid hY
  have HR := Lib.hid hR
  have q1 := fun w => eqIn ka ia sa ba kb ib sb bb w
  rw [hq] at q1
  have q2 := guardV
  have hZ := fun w1 => vLess_calls kb ib sb bb kc ic sc bc w1
  rw [hz] at hZ
  have HZ := Lib.hid hZ
  clear h1 h2 h3 h4 h5 h6 t1 t2 t3 t4 t5 t6 hX hY hR hx hy hq hZ hz
  clear hAw
  go_enter Tryd.func5, Tryd.ntmps5
  go_wp2_with fail
  refine (H1.out _).mono ?_
  rintro e w1 ⟨rfl, kk⟩
  have HI1 := Lib.hid (HI0.out.step kk)
  clear kk
  obtain ⟨⟨c0, c1, c2, c3⟩, ⟨d0, d1, d2, d3⟩, ⟨e0, e1, e2, e3⟩, _, _⟩ := HI1.out
  go_wp2_with fail
  refine (H2.out _).mono ?_
  rintro e w2 ⟨rfl, kk⟩
  have HI2 := Lib.hid (HI1.out.step kk)
  clear kk c0 c1 c2 c3 d0 d1 d2 d3 e0 e1 e2 e3
  obtain ⟨⟨c0, c1, c2, c3⟩, ⟨d0, d1, d2, d3⟩, ⟨e0, e1, e2, e3⟩, _, _⟩ := HI2.out
  go_wp2_with fail
  refine (H3.out _).mono ?_
  rintro e w3 ⟨rfl, kk⟩
  have HI3 := Lib.hid (HI2.out.step kk)
  clear kk c0 c1 c2 c3 d0 d1 d2 d3 e0 e1 e2 e3
  obtain ⟨⟨c0, c1, c2, c3⟩, ⟨d0, d1, d2, d3⟩, ⟨e0, e1, e2, e3⟩, _, _⟩ := HI3.out
  go_wp2_with fail
  refine (H4.out _).mono ?_
  rintro e w4 ⟨rfl, kk⟩
  have HI4 := Lib.hid (HI3.out.step kk)
  clear kk c0 c1 c2 c3 d0 d1 d2 d3 e0 e1 e2 e3
  obtain ⟨⟨c0, c1, c2, c3⟩, ⟨d0, d1, d2, d3⟩, ⟨e0, e1, e2, e3⟩, _, _⟩ := HI4.out
  go_wp2_with fail
  refine (H5.out _).mono ?_
  rintro e w5 ⟨rfl, kk⟩
  have HI5 := Lib.hid (HI4.out.step kk)
  clear kk c0 c1 c2 c3 d0 d1 d2 d3 e0 e1 e2 e3
  obtain ⟨⟨c0, c1, c2, c3⟩, ⟨d0, d1, d2, d3⟩, ⟨e0, e1, e2, e3⟩, _, _⟩ := HI5.out
  go_wp2_with fail
  refine (H6.out _).mono ?_
  rintro e w6 ⟨rfl, kk⟩
  have HI6 := Lib.hid (HI5.out.step kk)
  clear kk c0 c1 c2 c3 d0 d1 d2 d3 e0 e1 e2 e3
  obtain ⟨⟨c0, c1, c2, c3⟩, ⟨d0, d1, d2, d3⟩, ⟨e0, e1, e2, e3⟩, _, _⟩ := HI6.out
  go_wp2_with fail
  refine (HX.out _).mono ?_
  rintro e w7 ⟨rfl, kk⟩
  have HI7 := Lib.hid (HI6.out.step kk)
  clear kk c0 c1 c2 c3 d0 d1 d2 d3 e0 e1 e2 e3
  obtain ⟨⟨c0, c1, c2, c3⟩, ⟨d0, d1, d2, d3⟩, ⟨e0, e1, e2, e3⟩, _, _⟩ := HI7.out
  go_wp2_with fail
  refine (HY.out _).mono ?_
  rintro e w8 ⟨rfl, kk⟩
  have HI8 := Lib.hid (HI7.out.step kk)
  clear kk c0 c1 c2 c3 d0 d1 d2 d3 e0 e1 e2 e3
  obtain ⟨⟨c0, c1, c2, c3⟩, ⟨d0, d1, d2, d3⟩, ⟨e0, e1, e2, e3⟩, _, _⟩ := HI8.out
  go_wp2_with fail
  refine (HR.out _).mono ?_
  rintro e w9 ⟨rfl, kk⟩
  have HI9 := Lib.hid (HI8.out.step kk)
  clear kk c0 c1 c2 c3 d0 d1 d2 d3 e0 e1 e2 e3
  obtain ⟨⟨c0, c1, c2, c3⟩, ⟨d0, d1, d2, d3⟩, ⟨e0, e1, e2, e3⟩, _, _⟩ := HI9.out
  go_wp2_with fail
  refine (HZ.out _).mono ?_
  rintro e w10 ⟨rfl, kk⟩
  have HI10 := Lib.hid (HI9.out.step kk)
  clear kk c0 c1 c2 c3 d0 d1 d2 d3 e0 e1 e2 e3
  obtain ⟨⟨c0, c1, c2, c3⟩, ⟨d0, d1, d2, d3⟩, ⟨e0, e1, e2, e3⟩, _, _⟩ := HI10.out
  go_wp2_with fail
  refine (HAw.out _ HI10.out.below).mono ?_
  rintro e wz ⟨rfl, kk⟩
  go_wp2_with fail
  go_ret
  exact ⟨rfl, HI10.out.below.trans (kk.mono HI10.out.below.size)⟩

set_option maxHeartbeats 2000000 in
set_option maxRecDepth 100000 in
theorem yesD (ka ia : Int) (sa : ByteArray) (ba : Bool) (kb ib : Int) (sb : ByteArray) (bb : Bool) (kc ic : Int) (sc : ByteArray) (bc : Bool) (w : World) (hA : sa.size ≤ 9223372036854775807) (hB : sb.size ≤ 9223372036854775807) (hC : sc.size ≤ 9223372036854775807) (hAw : Aw w) (t1 : decide ((sa.size : Int) ≤ 5000) = true) (t2 : decide ((sb.size : Int) ≤ 5000) = true) (t3 : decide ((sc.size : Int) ≤ 5000) = true) (t4 : rightB ka ia sa ba = true) (t5 : rightB kb ib sb bb = true) (t6 : rightB kc ic sc bc = true) (hx : lessB ka ia sa ba kb ib sb bb = true) (hy : lessB kb ib sb bb ka ia sa ba = false) (hq : eqB ka ia sa ba kb ib sb bb = false) (hz : lessB kb ib sb bb kc ic sc bc = true) (hu : lessB ka ia sa ba kc ic sc bc = true) :
    Calls Tryd.prog 5 #[.agg #[.int .i64 ka, .int .i64 ia, .string sa, .bool ba], .agg #[.int .i64 kb, .int .i64 ib, .string sb, .bool bb], .agg #[.int .i64 kc, .int .i64 ic, .string sc, .bool bc]] w fun e w' => e = .returned (.bool true) ∧ Below w.heap.size w w' := by
  have HI0 := Lib.hid (In3.new ka ia sa ba kb ib sb bb kc ic sc bc w)
  have HAw := Lib.hid hAw
  have h1 := fun w1 => few_calls ka ia sa ba w1 (by omega)
  rw [t1] at h1
  have H1 := Lib.hid h1
  have h2 := fun w1 => few_calls kb ib sb bb w1 (by omega)
  rw [t2] at h2
  have H2 := Lib.hid h2
  have h3 := fun w1 => few_calls kc ic sc bc w1 (by omega)
  rw [t3] at h3
  have H3 := Lib.hid h3
  have h4 := fun w1 => refVRight_calls ka ia sa ba w1 (by omega)
  rw [t4] at h4
  have H4 := Lib.hid h4
  have h5 := fun w1 => refVRight_calls kb ib sb bb w1 (by omega)
  rw [t5] at h5
  have H5 := Lib.hid h5
  have h6 := fun w1 => refVRight_calls kc ic sc bc w1 (by omega)
  rw [t6] at h6
  have H6 := Lib.hid h6
  have hX := fun w1 => vLess_calls ka ia sa ba kb ib sb bb w1
  have hY := fun w1 => vLess_calls kb ib sb bb ka ia sa ba w1
  have hR := fun w1 => refVLess_calls ka ia sa ba kb ib sb bb w1 hA hB (right_kind t4)
  rw [hx] at hX hR
  rw [hy] at hY
  have HX := Lib.hid hX
  have HY := Lib.hid hY
  have HR := Lib.hid hR
  have q1 := fun w => eqIn ka ia sa ba kb ib sb bb w
  rw [hq] at q1
  have q2 := guardV
  have hZ := fun w1 => vLess_calls kb ib sb bb kc ic sc bc w1
  rw [hz] at hZ
  have HZ := Lib.hid hZ
  have hU := fun w1 => vLess_calls ka ia sa ba kc ic sc bc w1
  rw [hu] at hU
  have HU := Lib.hid hU
  clear h1 h2 h3 h4 h5 h6 t1 t2 t3 t4 t5 t6 hX hY hR hx hy hq hZ hz hU hu
  clear hAw
  go_enter Tryd.func5, Tryd.ntmps5
  go_wp2_with fail
  refine (H1.out _).mono ?_
  rintro e w1 ⟨rfl, kk⟩
  have HI1 := Lib.hid (HI0.out.step kk)
  clear kk
  obtain ⟨⟨c0, c1, c2, c3⟩, ⟨d0, d1, d2, d3⟩, ⟨e0, e1, e2, e3⟩, _, _⟩ := HI1.out
  go_wp2_with fail
  refine (H2.out _).mono ?_
  rintro e w2 ⟨rfl, kk⟩
  have HI2 := Lib.hid (HI1.out.step kk)
  clear kk c0 c1 c2 c3 d0 d1 d2 d3 e0 e1 e2 e3
  obtain ⟨⟨c0, c1, c2, c3⟩, ⟨d0, d1, d2, d3⟩, ⟨e0, e1, e2, e3⟩, _, _⟩ := HI2.out
  go_wp2_with fail
  refine (H3.out _).mono ?_
  rintro e w3 ⟨rfl, kk⟩
  have HI3 := Lib.hid (HI2.out.step kk)
  clear kk c0 c1 c2 c3 d0 d1 d2 d3 e0 e1 e2 e3
  obtain ⟨⟨c0, c1, c2, c3⟩, ⟨d0, d1, d2, d3⟩, ⟨e0, e1, e2, e3⟩, _, _⟩ := HI3.out
  go_wp2_with fail
  refine (H4.out _).mono ?_
  rintro e w4 ⟨rfl, kk⟩
  have HI4 := Lib.hid (HI3.out.step kk)
  clear kk c0 c1 c2 c3 d0 d1 d2 d3 e0 e1 e2 e3
  obtain ⟨⟨c0, c1, c2, c3⟩, ⟨d0, d1, d2, d3⟩, ⟨e0, e1, e2, e3⟩, _, _⟩ := HI4.out
  go_wp2_with fail
  refine (H5.out _).mono ?_
  rintro e w5 ⟨rfl, kk⟩
  have HI5 := Lib.hid (HI4.out.step kk)
  clear kk c0 c1 c2 c3 d0 d1 d2 d3 e0 e1 e2 e3
  obtain ⟨⟨c0, c1, c2, c3⟩, ⟨d0, d1, d2, d3⟩, ⟨e0, e1, e2, e3⟩, _, _⟩ := HI5.out
  go_wp2_with fail
  refine (H6.out _).mono ?_
  rintro e w6 ⟨rfl, kk⟩
  have HI6 := Lib.hid (HI5.out.step kk)
  clear kk c0 c1 c2 c3 d0 d1 d2 d3 e0 e1 e2 e3
  obtain ⟨⟨c0, c1, c2, c3⟩, ⟨d0, d1, d2, d3⟩, ⟨e0, e1, e2, e3⟩, _, _⟩ := HI6.out
  go_wp2_with fail
  refine (HX.out _).mono ?_
  rintro e w7 ⟨rfl, kk⟩
  have HI7 := Lib.hid (HI6.out.step kk)
  clear kk c0 c1 c2 c3 d0 d1 d2 d3 e0 e1 e2 e3
  obtain ⟨⟨c0, c1, c2, c3⟩, ⟨d0, d1, d2, d3⟩, ⟨e0, e1, e2, e3⟩, _, _⟩ := HI7.out
  go_wp2_with fail
  refine (HY.out _).mono ?_
  rintro e w8 ⟨rfl, kk⟩
  have HI8 := Lib.hid (HI7.out.step kk)
  clear kk c0 c1 c2 c3 d0 d1 d2 d3 e0 e1 e2 e3
  obtain ⟨⟨c0, c1, c2, c3⟩, ⟨d0, d1, d2, d3⟩, ⟨e0, e1, e2, e3⟩, _, _⟩ := HI8.out
  go_wp2_with fail
  refine (HR.out _).mono ?_
  rintro e w9 ⟨rfl, kk⟩
  have HI9 := Lib.hid (HI8.out.step kk)
  clear kk c0 c1 c2 c3 d0 d1 d2 d3 e0 e1 e2 e3
  obtain ⟨⟨c0, c1, c2, c3⟩, ⟨d0, d1, d2, d3⟩, ⟨e0, e1, e2, e3⟩, _, _⟩ := HI9.out
  go_wp2_with fail
  refine (HZ.out _).mono ?_
  rintro e w10 ⟨rfl, kk⟩
  have HI10 := Lib.hid (HI9.out.step kk)
  clear kk c0 c1 c2 c3 d0 d1 d2 d3 e0 e1 e2 e3
  obtain ⟨⟨c0, c1, c2, c3⟩, ⟨d0, d1, d2, d3⟩, ⟨e0, e1, e2, e3⟩, _, _⟩ := HI10.out
  go_wp2_with fail
  refine (HU.out _).mono ?_
  rintro e w11 ⟨rfl, kk⟩
  have HI11 := Lib.hid (HI10.out.step kk)
  clear kk c0 c1 c2 c3 d0 d1 d2 d3 e0 e1 e2 e3
  obtain ⟨⟨c0, c1, c2, c3⟩, ⟨d0, d1, d2, d3⟩, ⟨e0, e1, e2, e3⟩, _, _⟩ := HI11.out
  go_wp2_with fail
  refine (HAw.out _ HI11.out.below).mono ?_
  rintro e wz ⟨rfl, kk⟩
  go_wp2_with fail
  go_ret
  exact ⟨rfl, HI11.out.below.trans (kk.mono HI11.out.below.size)⟩

theorem walk (ka ia : Int) (sa : ByteArray) (ba : Bool) (kb ib : Int) (sb : ByteArray) (bb : Bool) (kc ic : Int) (sc : ByteArray) (bc : Bool) (w : World) (_ : -9223372036854775808 ≤ ia ∧ ia ≤ 9223372036854775807) (hA : sa.size ≤ maxLen) (_ : -9223372036854775808 ≤ ib ∧ ib ≤ 9223372036854775807) (hB : sb.size ≤ maxLen) (_ : -9223372036854775808 ≤ ic ∧ ic ≤ 9223372036854775807) (hC : sc.size ≤ maxLen) (hL : Laid w) :
    Calls Tryd.prog 5 #[.agg #[.int .i64 ka, .int .i64 ia, .string sa, .bool ba], .agg #[.int .i64 kb, .int .i64 ib, .string sb, .bool bb], .agg #[.int .i64 kc, .int .i64 ic, .string sc, .bool bc]] w fun e w' => e = .returned (.bool true) ∧ Below w.heap.size w w' := by
  unfold maxLen at hA hB hC
  have hAw : Aw w := fun w1 hb => awake_calls w1 (hL.below hb)
  have gA : sa.size ≤ 9223372036854775807 := by omega
  have gB : sb.size ≤ 9223372036854775807 := by omega
  have gC : sc.size ≤ 9223372036854775807 := by omega
  cases t1 : decide ((sa.size : Int) ≤ 5000)
  · exact no1 ka ia sa ba kb ib sb bb kc ic sc bc w gA gB gC hAw t1
  cases t2 : decide ((sb.size : Int) ≤ 5000)
  · exact no2 ka ia sa ba kb ib sb bb kc ic sc bc w gA gB gC hAw t1 t2
  cases t3 : decide ((sc.size : Int) ≤ 5000)
  · exact no3 ka ia sa ba kb ib sb bb kc ic sc bc w gA gB gC hAw t1 t2 t3
  cases t4 : rightB ka ia sa ba
  · exact no4 ka ia sa ba kb ib sb bb kc ic sc bc w gA gB gC hAw t1 t2 t3 t4
  cases t5 : rightB kb ib sb bb
  · exact no5 ka ia sa ba kb ib sb bb kc ic sc bc w gA gB gC hAw t1 t2 t3 t4 t5
  cases t6 : rightB kc ic sc bc
  · exact no6 ka ia sa ba kb ib sb bb kc ic sc bc w gA gB gC hAw t1 t2 t3 t4 t5 t6
  cases hx : lessB ka ia sa ba kb ib sb bb
  · cases hy : lessB kb ib sb bb ka ia sa ba
    · exact yesB ka ia sa ba kb ib sb bb kc ic sc bc w gA gB gC hAw t1 t2 t3 t4 t5 t6 hx hy (less_tri t4 t5 hx hy)
    · exact yesA ka ia sa ba kb ib sb bb kc ic sc bc w gA gB gC hAw t1 t2 t3 t4 t5 t6 hx hy (by rw [eqB_comm]; exact less_ne hy)
  · cases hz : lessB kb ib sb bb kc ic sc bc
    · exact yesC ka ia sa ba kb ib sb bb kc ic sc bc w gA gB gC hAw t1 t2 t3 t4 t5 t6 hx (less_asym hx) (less_ne hx) hz
    · exact yesD ka ia sa ba kb ib sb bb kc ic sc bc w gA gB gC hAw t1 t2 t3 t4 t5 t6 hx (less_asym hx) (less_ne hx) hz (less_trans hx hz)
end Go.Proofs.YtmpoloninpakbaaDoor.valueOrder
