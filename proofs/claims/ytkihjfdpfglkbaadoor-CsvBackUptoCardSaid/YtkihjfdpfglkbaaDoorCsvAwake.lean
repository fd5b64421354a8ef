/- What is told of the chapter's example; and a law's own awake. -/
import Derived.Test.YtkihjfdpfglkbaaDoorCsvAll
import Derived.Laws.StructEq
namespace Go.Proofs.YtkihjfdpfglkbaaDoor
open Go.RowKit
set_option linter.unusedVariables false

set_option maxRecDepth 100000 in
theorem failEq (e l c e' l' c' : Nat) (w : World) : (Op.equalIn 10000 26 (.agg #[.int .i64 (e : Nat), .int .i64 (l : Nat), .int .i64 (c : Nat)]) (.agg #[.int .i64 (e' : Nat), .int .i64 (l' : Nat), .int .i64 (c' : Nat)])).run Tryd.prog w = .ok (decide (e = e' ∧ l = l' ∧ c = c')) w := by
  rw [run_equalIn_agg w 9999 _ _ _ (by simp only [Program.fieldsOf, Tryd.underlying26]) (by kernel_rfl)]
  simp only [Program.fieldsOf, Tryd.underlying26]
  go_simp
  repeat' split
  all_goals simp_all
  all_goals omega
theorem failGuard : Tryd.prog.eqGuardType Tryd.prog.depth 26 = false := by kernel_rfl

def ex0 : List UInt8 := [97, 44, 34, 98, 34, 34, 99, 34]
theorem ex_all : allR ex0 = ([[[97], [98, 34, 99]]], 0, 0, 0) := by
  have h1 : rowR ex0 = .ok ([[97], [98, 34, 99]], []) := by rfl
  rw [allR_ok (by decide) h1, allR_nil]
  rfl

set_option maxHeartbeats 4000000 in
set_option maxRecDepth 100000 in
theorem csAwake_calls (w : World) (hm : MaxC w) (het : ErrT w) :
    Calls Tryd.prog 7 #[] w fun e w' => e = .returned (.bool true) ∧ Below w.heap.size w w' := by
  have H1 : Hid (Calls Tryd.prog 8 #[.string ⟨#[97, 44, 34, 98, 34, 34, 99, 34]⟩] w fun e w' => ∃ a cap vs, e = .returned (.tuple #[.slice a 1 cap, .agg #[.int .i64 0, .int .i64 0, .int .i64 0]]) ∧ RIn w' a 1 [[[97], [98, 34, 99]]] vs ∧ Below w.heap.size w w') := Lib.hid ((all_calls ⟨#[97, 44, 34, 98, 34, 34, 99, 34]⟩ w (by decide) hm het).mono (by
    intro e w' h
    rw [AllPost, show (⟨#[97, 44, 34, 98, 34, 34, 99, 34]⟩ : ByteArray).data.toList = ex0 from rfl, ex_all] at h
    exact h))
  have q1 : ∀ w1, (Op.equalIn 10000 26 (.agg #[.int .i64 0, .int .i64 0, .int .i64 0]) (.agg #[.int .i64 0, .int .i64 0, .int .i64 0])).run Tryd.prog w1 = .ok true w1 := fun w1 => failEq 0 0 0 0 0 0 w1
  have q2 := failGuard
  have n1 : (⟨#[97]⟩ : ByteArray).toList = [97] := by rw [cs_tl]
  have n2 : (⟨#[98, 34, 99]⟩ : ByteArray).toList = [98, 34, 99] := by rw [cs_tl]
  clear hm het
  go_enter Tryd.func7, Tryd.ntmps7
  go_wp2_with fail
  refine H1.out.mono ?_
  rintro e w1 ⟨a, cap, vs, rfl, hR, k1⟩
  have hA := (Below.refl w1.heap.size w1).alloc (Nat.le_refl _) (.cells #[.int .i64 0, .int .i64 0, .int .i64 0] 26)
  obtain ⟨g, off, b, c, rfl, d0, hT⟩ := hR.at' hA (n := 0) (by omega)
  have d0' : (w1.alloc (.cells #[.int .i64 0, .int .i64 0, .int .i64 0] 26)).cell? ⟨g, off, none⟩ = some (.slice b 2 c) := d0
  obtain ⟨g', off', rfl, e0⟩ := hT.at' (Below.refl _ _) (n := 0) (by decide)
  obtain ⟨g2, off2, h2, e1⟩ := hT.at' (Below.refl _ _) (n := 1) (by decide)
  cases h2
  have e0' : (w1.alloc (.cells #[.int .i64 0, .int .i64 0, .int .i64 0] 26)).cell? ⟨g', off', none⟩ = some (.string ⟨#[97]⟩) := e0
  have e1' : (w1.alloc (.cells #[.int .i64 0, .int .i64 0, .int .i64 0] 26)).cell? ⟨g', off' + 1, none⟩ = some (.string ⟨#[98, 34, 99]⟩) := e1
  have HB := Lib.hid (k1.trans (hA.mono k1.size))
  clear hR hA hT d0 e0 e1 k1
  go_wp2_with fail
  go_ret
  exact ⟨by rfl, HB.out⟩
end Go.Proofs.YtkihjfdpfglkbaaDoor
