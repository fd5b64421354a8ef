/- What is told of the chapter's example; tokens compared; and a law's own awake. -/
import Derived.Test.YtbojhcfofgdoeaaDoorLexAllF
import Derived.Test.YtbojhcfofgdoeaaDoorCsvFail
namespace Go.Proofs.YtbojhcfofgdoeaaDoor
open Go.RowKit
set_option linter.unusedVariables false

set_option maxRecDepth 100000 in
theorem tkEq (k : Nat) (t : ByteArray) (l c : Nat) (w : World) : (Op.equalIn 10000 33 (.agg #[.int .i64 (k : Nat), .string t, .int .i64 (l : Nat), .int .i64 (c : Nat)]) (.agg #[.int .i64 (k : Nat), .string t, .int .i64 (l : Nat), .int .i64 (c : Nat)])).run Tryd.prog w = .ok true w := by
  rw [run_equalIn_agg w 9999 _ _ _ (by simp only [Program.fieldsOf, Tryd.underlying33]) (by kernel_rfl)]
  simp only [Program.fieldsOf, Tryd.underlying33]
  go_simp
  repeat' split
  all_goals simp_all
theorem tkGuard : Tryd.prog.eqGuardType Tryd.prog.depth 33 = false := by kernel_rfl

def lxEx : List UInt8 := [120, 60, 61, 45, 53]
def lxExT : List Tk := [⟨1, [120], 1, 1⟩, ⟨5, [60, 61], 1, 2⟩, ⟨5, [45], 1, 4⟩, ⟨3, [53], 1, 5⟩]
theorem ex_w1 : wordT [120] = .ok (1, [120], 1) := by
  unfold wordT
  rw [if_neg (by decide), if_neg (by decide), if_pos (by decide +kernel)]; rfl
theorem ex_f1 : firstT [120, 60, 61, 45, 53] = .ok (1, [120], 1) := by
  rw [firstT, if_neg (by decide), if_neg (by decide)]; exact ex_w1
theorem ex_f2 : firstT [60, 61, 45, 53] = .ok (5, [60, 61], 2) := by
  rw [firstT, if_neg (by decide), if_pos (by decide), if_neg (by decide)]; rfl
theorem ex_f3 : firstT [45, 53] = .ok (5, [45], 1) := by
  rw [firstT, if_neg (by decide), if_pos (by decide), if_neg (by decide)]; rfl
theorem ex_w4 : wordT [53] = .ok (3, [53], 1) := by
  unfold wordT
  rw [if_pos (by decide), if_neg (by decide), if_neg (by decide), if_neg (by decide)]; rfl
theorem ex_f4 : firstT [53] = .ok (3, [53], 1) := by
  rw [firstT, if_neg (by decide), if_neg (by decide)]; exact ex_w4
theorem ex_tok : tokL lxEx = .ok lxExT := by
  have s1 : stepT [120, 60, 61, 45, 53] (1, 1) = .ok (some (⟨1, [120], 1, 1⟩, [60, 61, 45, 53], (1, 2))) := stepT_ok (l := [120, 60, 61, 45, 53]) (p := (1, 1)) (by decide) ex_f1
  have s2 : stepT [60, 61, 45, 53] (1, 2) = .ok (some (⟨5, [60, 61], 1, 2⟩, [45, 53], (1, 4))) := stepT_ok (l := [60, 61, 45, 53]) (p := (1, 2)) (by decide) ex_f2
  have s3 : stepT [45, 53] (1, 4) = .ok (some (⟨5, [45], 1, 4⟩, [53], (1, 5))) := stepT_ok (l := [45, 53]) (p := (1, 4)) (by decide) ex_f3
  have s4 : stepT [53] (1, 5) = .ok (some (⟨3, [53], 1, 5⟩, [], (1, 6))) := stepT_ok (l := [53]) (p := (1, 5)) (by decide) ex_f4
  rw [tokL, if_neg (by decide), lxEx, tok_more s1, tok_more s2, tok_more s3, tok_more s4, tok_end (step_none _)]
  rfl

set_option maxHeartbeats 4000000 in
set_option maxRecDepth 100000 in
theorem lxAwake_calls (w : World) (hT : LexT w) (het : ErrT w) :
    Calls Tryd.prog 6 #[] w fun e w' => e = .returned (.bool true) ∧ Below w.heap.size w w' := by
  have H1 : Hid (Calls Tryd.prog 7 #[.string ⟨#[120, 60, 61, 45, 53]⟩] w fun e w' => ∃ a cap, e = .returned (.tuple #[.slice a 4 cap, .agg #[.int .i64 0, .int .i64 0, .int .i64 0]]) ∧ TkIn w' 34 a 4 lxExT ∧ Below w.heap.size w w') := Lib.hid ((lexAll_calls ⟨#[120, 60, 61, 45, 53]⟩ w (by decide) hT het).mono (by
    intro e w' h
    rw [show (⟨#[120, 60, 61, 45, 53]⟩ : ByteArray).data.toList = lxEx from rfl, ex_tok] at h
    obtain ⟨⟨a, cap, he, ht⟩, hb⟩ := h
    exact ⟨a, cap, he, ht, hb⟩))
  have q1 : ∀ w1, (Op.equalIn 10000 26 (.agg #[.int .i64 0, .int .i64 0, .int .i64 0]) (.agg #[.int .i64 0, .int .i64 0, .int .i64 0])).run Tryd.prog w1 = .ok true w1 := fun w1 => failEq 0 0 0 0 0 0 w1
  have q2 := failGuard
  have n1 : (⟨#[60, 61]⟩ : ByteArray).toList = [60, 61] := by rw [cs_tl]
  clear hT het
  go_enter Tryd.func6, Tryd.ntmps6
  go_wp2_with fail
  refine H1.out.mono ?_
  rintro e w1 ⟨a, cap, rfl, hR, k1⟩
  have hA := (Below.refl w1.heap.size w1).alloc (Nat.le_refl _) (.cells #[.int .i64 0, .int .i64 0, .int .i64 0] 26)
  have hR2 := hR.below hA
  obtain ⟨g, off, rfl, hb, d0, d1, d2, d3⟩ := hR2.at' 0 _ rfl
  obtain ⟨g2, off2, h2, _, e0, e1, e2, e3⟩ := hR2.at' 1 _ rfl
  cases h2
  obtain ⟨g2, off2, h2, _, i0, i1, i2, i3⟩ := hR2.at' 3 _ rfl
  cases h2
  have z0 : (w1.alloc (.cells #[.int .i64 0, .int .i64 0, .int .i64 0] 26)).cell? ⟨g, off, none⟩ = some (.int .i64 1) := d0
  have z1 : (w1.alloc (.cells #[.int .i64 0, .int .i64 0, .int .i64 0] 26)).cell? ⟨g, off + 4 + 1, none⟩ = some (.string ⟨#[60, 61]⟩) := e1
  have z2 : (w1.alloc (.cells #[.int .i64 0, .int .i64 0, .int .i64 0] 26)).cell? ⟨g, off + 12, none⟩ = some (.int .i64 3) := i0
  have z3 : (w1.alloc (.cells #[.int .i64 0, .int .i64 0, .int .i64 0] 26)).cell? ⟨g, off + 12 + 3, none⟩ = some (.int .i64 5) := i3
  have HB := Lib.hid (k1.trans (hA.mono k1.size))
  clear hR hR2 hA hb d0 d1 d2 d3 e0 e1 e2 e3 i0 i1 i2 i3 k1
  go_wp2_with fail
  go_ret
  exact ⟨by rfl, HB.out⟩
end Go.Proofs.YtbojhcfofgdoeaaDoor
