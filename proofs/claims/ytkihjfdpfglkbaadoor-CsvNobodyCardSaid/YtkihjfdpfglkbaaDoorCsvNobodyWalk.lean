/- The walk of the law CsvNobody. -/
import Derived.Test.YtkihjfdpfglkbaaDoorCsvAwake
namespace Go.Proofs.YtkihjfdpfglkbaaDoor.csvNobody
open Go.RowKit
set_option linter.unusedVariables false

set_option maxHeartbeats 4000000 in
set_option maxRecDepth 100000 in
theorem walk (s : ByteArray) (w : World) (hm : MaxC w) (het : ErrT w) :
    Calls Tryd.prog 6 #[.string s] w fun e w' => e = .returned (.bool true) ∧ Below w.heap.size w w' := by
  have HM := Lib.hid hm
  have HT := Lib.hid het
  have HAw := Lib.hid (fun w1 h1 h2 => csAwake_calls w1 h1 h2)
  clear hm het
  by_cases hs : 20000 < s.size
  case pos =>
    have t1 : decide ((20000 : Int) < (s.size : Int)) = true := decide_eq_true (by omega)
    have H1 := Lib.hid (HAw.out w HM.out HT.out)
    go_enter Tryd.func6, Tryd.ntmps6
    go_wp2_with fail
    refine H1.out.mono ?_
    rintro e w1 ⟨rfl, k1⟩
    have HB := Lib.hid k1
    clear k1
    go_wp2_with fail
    go_ret
    exact ⟨by rfl, HB.out⟩
  case neg =>
    have t1 : decide ((20000 : Int) < (s.size : Int)) = false := decide_eq_false (by omega)
    have H1 := Lib.hid (new_calls s w)
    have H2 := Lib.hid (fun w1 => nextNil_calls w1)
    have H3 : Hid (∀ w1, Calls Tryd.prog 15 #[.pointer none] w1 fun ev w' => ev = .returned (.agg #[.int .i64 0, .int .i64 0, .int .i64 0]) ∧ Below w1.heap.size w1 w') := Lib.hid (fun w1 => failNil_calls w1)
    have H4 := Lib.hid (fun R P w1 (h : RdAt w1 R P 0 s 0 0 0) => row_calls R P 0 0 0 0 s w1 h)
    have H5 := Lib.hid (fun R P w1 (h : RdAt w1 R P 0 s 0 0 0) => rest_calls R P 0 0 0 0 s w1 h)
    have q1 : ∀ w1, (Op.equalIn 10000 26 (.agg #[.int .i64 0, .int .i64 0, .int .i64 0]) (.agg #[.int .i64 0, .int .i64 0, .int .i64 0])).run Tryd.prog w1 = .ok true w1 := fun w1 => failEq 0 0 0 0 0 0 w1
    have q2 := failGuard
    clear hs
    go_enter Tryd.func6, Tryd.ntmps6
    go_wp2_with fail
    refine H1.out.mono ?_
    rintro e w1 ⟨rfl, h1, k1⟩
    obtain ⟨R, hR⟩ : ∃ R, R = w.heap.size + 1 := ⟨_, rfl⟩
    obtain ⟨P, hP⟩ : ∃ P, P = w.heap.size := ⟨_, rfl⟩
    rw [← hR] at h1 ⊢
    have HR1 : Hid (RdAt w1 R P 0 s 0 0 0) := Lib.hid (by rw [hP]; exact h1)
    have HB1 := Lib.hid k1
    clear h1 k1 hR hP H1
    go_wp2_with fail
    refine (H2.out _).mono ?_
    rintro e w2 ⟨rfl, hw2⟩
    subst hw2
    go_wp2_with fail
    refine (H3.out _).mono ?_
    rintro e w3 ⟨rfl, k3⟩
    have h3 := HR1.out.below k3
    have HR3 := Lib.hid h3
    have HB3 := Lib.hid (HB1.out.trans (k3.mono HB1.out.size))
    obtain ⟨c0, c1, c2, c3, p0, p1⟩ := h3.cells
    clear h3 k3
    go_wp2_with fail
    refine (H4.out R P _ HR3.out).mono ?_
    rintro e w4 ⟨rfl, hw4⟩
    subst hw4
    go_wp2_with fail
    refine (H5.out R P _ HR3.out).mono ?_
    rintro e w4 ⟨rfl, hw4⟩
    subst hw4
    have H6 := Lib.hid (HAw.out w3 (HM.out.below HB3.out) (HT.out.below HB3.out))
    go_wp2_with fail
    refine H6.out.mono ?_
    rintro e w5 ⟨rfl, k5⟩
    have HB5 := Lib.hid (HB3.out.trans (k5.mono HB3.out.size))
    clear k5
    go_wp2_with fail
    go_ret
    exact ⟨by rfl, HB5.out⟩
end Go.Proofs.YtkihjfdpfglkbaaDoor.csvNobody
