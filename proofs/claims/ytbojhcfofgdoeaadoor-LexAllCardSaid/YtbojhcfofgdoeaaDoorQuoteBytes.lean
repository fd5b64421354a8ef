/- What the functions of package quote and of its reference that look at one byte do with any byte. -/
import Derived.Test.YtbojhcfofgdoeaaDoorBase
import Derived.Test.YtbojhcfofgdoeaaDoorQuoteMath
import Derived.WalkKit
import Derived.WalkSpells
import Derived.WalkLawsBesides
import Derived.Lib.Hide
import Derived.LoopTactic
import Derived.LaidLaws
namespace Go.Proofs.YtbojhcfofgdoeaaDoor
open Go.RowKit

theorem byte_ne {c : UInt8} {n : Nat} (hn : n < 256) : c = UInt8.ofNat n ↔ c.toNat = n := by
  constructor
  · rintro rfl; simp; omega
  · intro h; exact UInt8.toNat_inj.1 (by simp; omega)
theorem byte_beq (c : UInt8) (n : Nat) (hn : n < 256) : ((c.toNat : Int) == (n : Int)) = (c == UInt8.ofNat n) := by
  rw [Bool.eq_iff_iff, beq_iff_eq, beq_iff_eq, byte_ne hn]; omega

set_option maxHeartbeats 400000 in
theorem isPlain_calls (c : UInt8) (w : World) :
    Calls Tryd.prog 56 #[.int .u8 c.toNat] w fun e w' => e = .returned (.bool (plB c)) ∧ w = w' := by
  have e1 := byte_beq c 34 (by omega)
  have e2 := byte_beq c 92 (by omega)
  by_cases h1 : 32 ≤ c.toNat
  · by_cases h2 : c.toNat ≤ 126
    · by_cases h3 : c = 34
      · subst h3
        go_enter Tryd.func56, Tryd.ntmps56
        go_wp2
        go_ret
        exact ⟨rfl, rfl⟩
      by_cases h4 : c = 92
      · subst h4
        go_enter Tryd.func56, Tryd.ntmps56
        go_wp2
        go_ret
        exact ⟨rfl, rfl⟩
      have hp : plB c = true := by simp [plB, h1, h2, h3, h4]
      rw [hp]
      have t3 : ((c.toNat : Int) != 34) = true := by rw [bne, show ((c.toNat : Int) == 34) = (c == 34) from e1]; simp [h3]
      have t4 : ((c.toNat : Int) != 92) = true := by rw [bne, show ((c.toNat : Int) == 92) = (c == 92) from e2]; simp [h4]
      have t1 : decide ((32 : Int) ≤ (c.toNat : Int)) = true := by simp; omega
      have t2 : decide ((c.toNat : Int) ≤ 126) = true := by simp; omega
      clear e1 e2 h1 h2 h3 h4 hp
      go_enter Tryd.func56, Tryd.ntmps56
      go_wp2
      go_ret
      exact ⟨rfl, rfl⟩
    · have hp : plB c = false := by simp [plB, h2]
      rw [hp]
      have t1 : decide ((32 : Int) ≤ (c.toNat : Int)) = true := by simp; omega
      have t2 : decide ((c.toNat : Int) ≤ 126) = false := by simp; omega
      clear e1 e2 h1 h2 hp
      go_enter Tryd.func56, Tryd.ntmps56
      go_wp2
      go_ret
      exact ⟨rfl, rfl⟩
  · have hp : plB c = false := by simp [plB, h1]
    rw [hp]
    have t1 : decide ((32 : Int) ≤ (c.toNat : Int)) = false := by simp; omega
    clear e1 e2 h1 hp
    go_enter Tryd.func56, Tryd.ntmps56
    go_wp2
    go_ret
    exact ⟨rfl, rfl⟩

/-- The table of escapes lies in memory as the text of the program lays it. -/
abbrev Esc (w : World) : Prop := w.var? Tryd.prog "proctor/quote.escapes" = some #[.int .u8 34, .int .u8 34, .int .u8 92, .int .u8 92, .int .u8 10, .int .u8 110, .int .u8 13, .int .u8 114, .int .u8 9, .int .u8 116]
theorem gEsc : Tryd.prog.globalNamed "proctor/quote.escapes" = some 2 := by kernel_rfl
theorem esc_cell {w : World} (h : Esc w) (i : Nat) : w.cell? ⟨2, i, none⟩ = #[Value.int .u8 34, .int .u8 34, .int .u8 92, .int .u8 92, .int .u8 10, .int .u8 110, .int .u8 13, .int .u8 114, .int .u8 9, .int .u8 116][i]? :=
  World.var?_cell gEsc h i

theorem esc_at0 (w : World) : (Instr.index 123 (.agg #[.int .u8 34, .int .u8 34, .int .u8 92, .int .u8 92, .int .u8 10, .int .u8 110, .int .u8 13, .int .u8 114, .int .u8 9, .int .u8 116]) (.int .i64 0)).run Tryd.prog w = .ok (.agg #[.int .u8 34, .int .u8 34]) w := by kernel_rfl
theorem esc_at1 (w : World) : (Instr.index 123 (.agg #[.int .u8 34, .int .u8 34, .int .u8 92, .int .u8 92, .int .u8 10, .int .u8 110, .int .u8 13, .int .u8 114, .int .u8 9, .int .u8 116]) (.int .i64 1)).run Tryd.prog w = .ok (.agg #[.int .u8 92, .int .u8 92]) w := by kernel_rfl
theorem esc_at2 (w : World) : (Instr.index 123 (.agg #[.int .u8 34, .int .u8 34, .int .u8 92, .int .u8 92, .int .u8 10, .int .u8 110, .int .u8 13, .int .u8 114, .int .u8 9, .int .u8 116]) (.int .i64 2)).run Tryd.prog w = .ok (.agg #[.int .u8 10, .int .u8 110]) w := by kernel_rfl
theorem esc_at3 (w : World) : (Instr.index 123 (.agg #[.int .u8 34, .int .u8 34, .int .u8 92, .int .u8 92, .int .u8 10, .int .u8 110, .int .u8 13, .int .u8 114, .int .u8 9, .int .u8 116]) (.int .i64 3)).run Tryd.prog w = .ok (.agg #[.int .u8 13, .int .u8 114]) w := by kernel_rfl
theorem esc_at4 (w : World) : (Instr.index 123 (.agg #[.int .u8 34, .int .u8 34, .int .u8 92, .int .u8 92, .int .u8 10, .int .u8 110, .int .u8 13, .int .u8 114, .int .u8 9, .int .u8 116]) (.int .i64 4)).run Tryd.prog w = .ok (.agg #[.int .u8 9, .int .u8 116]) w := by kernel_rfl

set_option maxHeartbeats 1000000 in
theorem letterOf_calls (c : UInt8) (w : World) (h : Esc w) :
    Calls Tryd.prog 57 #[.int .u8 c.toNat] w fun e w' => e = .returned (.tuple #[.int .u8 (ltN c).toNat, .bool (ltB c)]) ∧ Below w.heap.size w w' := by
  have c0 := esc_cell h 0
  have c1 := esc_cell h 1
  have c2 := esc_cell h 2
  have c3 := esc_cell h 3
  have c4 := esc_cell h 4
  have c5 := esc_cell h 5
  have c6 := esc_cell h 6
  have c7 := esc_cell h 7
  have c8 := esc_cell h 8
  have c9 := esc_cell h 9
  simp at c0 c1 c2 c3 c4 c5 c6 c7 c8 c9
  clear h
  have i0 := esc_at0
  have i1 := esc_at1
  have i2 := esc_at2
  have i3 := esc_at3
  have i4 := esc_at4
  by_cases h0 : c = 34
  · subst h0
    go_enter Tryd.func57, Tryd.ntmps57
    go_wp2
    refine wp_loop_rounds 1 ?_
    rw [rounds_succ]
    go_wp2
    go_ret2
    exact ⟨rfl, by repeat (first | exact Below.refl _ _ | refine Below.alloc ?_ (by simp; try omega) _ | refine Below.setCell ?_ (by simp; try omega) _)⟩
  by_cases h1 : c = 92
  · subst h1
    clear h0
    go_enter Tryd.func57, Tryd.ntmps57
    go_wp2
    refine wp_loop_rounds 2 ?_
    rw [rounds_succ]
    go_wp2
    rw [rounds_succ]
    go_wp2
    go_ret2
    exact ⟨rfl, by repeat (first | exact Below.refl _ _ | refine Below.alloc ?_ (by simp; try omega) _ | refine Below.setCell ?_ (by simp; try omega) _)⟩
  by_cases h2 : c = 10
  · subst h2
    clear h0 h1
    go_enter Tryd.func57, Tryd.ntmps57
    go_wp2
    refine wp_loop_rounds 3 ?_
    rw [rounds_succ]
    go_wp2
    rw [rounds_succ]
    go_wp2
    rw [rounds_succ]
    go_wp2
    go_ret2
    exact ⟨rfl, by repeat (first | exact Below.refl _ _ | refine Below.alloc ?_ (by simp; try omega) _ | refine Below.setCell ?_ (by simp; try omega) _)⟩
  by_cases h3 : c = 13
  · subst h3
    clear h0 h1 h2
    go_enter Tryd.func57, Tryd.ntmps57
    go_wp2
    refine wp_loop_rounds 4 ?_
    rw [rounds_succ]
    go_wp2
    rw [rounds_succ]
    go_wp2
    rw [rounds_succ]
    go_wp2
    rw [rounds_succ]
    go_wp2
    go_ret2
    exact ⟨rfl, by repeat (first | exact Below.refl _ _ | refine Below.alloc ?_ (by simp; try omega) _ | refine Below.setCell ?_ (by simp; try omega) _)⟩
  by_cases h4 : c = 9
  · subst h4
    clear h0 h1 h2 h3
    go_enter Tryd.func57, Tryd.ntmps57
    go_wp2
    refine wp_loop_rounds 5 ?_
    rw [rounds_succ]
    go_wp2
    rw [rounds_succ]
    go_wp2
    rw [rounds_succ]
    go_wp2
    rw [rounds_succ]
    go_wp2
    rw [rounds_succ]
    go_wp2
    go_ret2
    exact ⟨rfl, by repeat (first | exact Below.refl _ _ | refine Below.alloc ?_ (by simp; try omega) _ | refine Below.setCell ?_ (by simp; try omega) _)⟩
  have e1 : ltN c = 0 := by unfold ltN; simp [h0, h1, h2, h3, h4]
  have e2 : ltB c = false := by unfold ltB; simp [h0, h1, h2, h3, h4]
  rw [e1, e2]
  have t0 : ((34 : Int) == (c.toNat : Int)) = false := by rw [beq_eq_false_iff_ne]; intro e; exact h0 (UInt8.toNat_inj.1 (by show c.toNat = 34; omega))
  have t1 : ((92 : Int) == (c.toNat : Int)) = false := by rw [beq_eq_false_iff_ne]; intro e; exact h1 (UInt8.toNat_inj.1 (by show c.toNat = 92; omega))
  have t2 : ((10 : Int) == (c.toNat : Int)) = false := by rw [beq_eq_false_iff_ne]; intro e; exact h2 (UInt8.toNat_inj.1 (by show c.toNat = 10; omega))
  have t3 : ((13 : Int) == (c.toNat : Int)) = false := by rw [beq_eq_false_iff_ne]; intro e; exact h3 (UInt8.toNat_inj.1 (by show c.toNat = 13; omega))
  have t4 : ((9 : Int) == (c.toNat : Int)) = false := by rw [beq_eq_false_iff_ne]; intro e; exact h4 (UInt8.toNat_inj.1 (by show c.toNat = 9; omega))
  clear e1 e2 h0 h1 h2 h3 h4
  go_enter Tryd.func57, Tryd.ntmps57
  go_wp2
  refine wp_loop_rounds 6 ?_
  rw [rounds_succ]
  go_wp2
  rw [rounds_succ]
  go_wp2
  rw [rounds_succ]
  go_wp2
  rw [rounds_succ]
  go_wp2
  rw [rounds_succ]
  go_wp2
  rw [rounds_succ]
  go_wp2
  go_ret2
  exact ⟨rfl, by repeat (first | exact Below.refl _ _ | refine Below.alloc ?_ (by simp; try omega) _ | refine Below.setCell ?_ (by simp; try omega) _)⟩

set_option maxHeartbeats 1000000 in
theorem charOf_calls (c : UInt8) (w : World) (h : Esc w) :
    Calls Tryd.prog 77 #[.int .u8 c.toNat] w fun e w' => e = .returned (.tuple #[.int .u8 (chN c).toNat, .bool (chB c)]) ∧ Below w.heap.size w w' := by
  have c0 := esc_cell h 0
  have c1 := esc_cell h 1
  have c2 := esc_cell h 2
  have c3 := esc_cell h 3
  have c4 := esc_cell h 4
  have c5 := esc_cell h 5
  have c6 := esc_cell h 6
  have c7 := esc_cell h 7
  have c8 := esc_cell h 8
  have c9 := esc_cell h 9
  simp at c0 c1 c2 c3 c4 c5 c6 c7 c8 c9
  clear h
  have i0 := esc_at0
  have i1 := esc_at1
  have i2 := esc_at2
  have i3 := esc_at3
  have i4 := esc_at4
  by_cases h0 : c = 34
  · subst h0
    go_enter Tryd.func77, Tryd.ntmps77
    go_wp2
    refine wp_loop_rounds 1 ?_
    rw [rounds_succ]
    go_wp2
    go_ret2
    exact ⟨rfl, by repeat (first | exact Below.refl _ _ | refine Below.alloc ?_ (by simp; try omega) _ | refine Below.setCell ?_ (by simp; try omega) _)⟩
  by_cases h1 : c = 92
  · subst h1
    clear h0
    go_enter Tryd.func77, Tryd.ntmps77
    go_wp2
    refine wp_loop_rounds 2 ?_
    rw [rounds_succ]
    go_wp2
    rw [rounds_succ]
    go_wp2
    go_ret2
    exact ⟨rfl, by repeat (first | exact Below.refl _ _ | refine Below.alloc ?_ (by simp; try omega) _ | refine Below.setCell ?_ (by simp; try omega) _)⟩
  by_cases h2 : c = 110
  · subst h2
    clear h0 h1
    go_enter Tryd.func77, Tryd.ntmps77
    go_wp2
    refine wp_loop_rounds 3 ?_
    rw [rounds_succ]
    go_wp2
    rw [rounds_succ]
    go_wp2
    rw [rounds_succ]
    go_wp2
    go_ret2
    exact ⟨rfl, by repeat (first | exact Below.refl _ _ | refine Below.alloc ?_ (by simp; try omega) _ | refine Below.setCell ?_ (by simp; try omega) _)⟩
  by_cases h3 : c = 114
  · subst h3
    clear h0 h1 h2
    go_enter Tryd.func77, Tryd.ntmps77
    go_wp2
    refine wp_loop_rounds 4 ?_
    rw [rounds_succ]
    go_wp2
    rw [rounds_succ]
    go_wp2
    rw [rounds_succ]
    go_wp2
    rw [rounds_succ]
    go_wp2
    go_ret2
    exact ⟨rfl, by repeat (first | exact Below.refl _ _ | refine Below.alloc ?_ (by simp; try omega) _ | refine Below.setCell ?_ (by simp; try omega) _)⟩
  by_cases h4 : c = 116
  · subst h4
    clear h0 h1 h2 h3
    go_enter Tryd.func77, Tryd.ntmps77
    go_wp2
    refine wp_loop_rounds 5 ?_
    rw [rounds_succ]
    go_wp2
    rw [rounds_succ]
    go_wp2
    rw [rounds_succ]
    go_wp2
    rw [rounds_succ]
    go_wp2
    rw [rounds_succ]
    go_wp2
    go_ret2
    exact ⟨rfl, by repeat (first | exact Below.refl _ _ | refine Below.alloc ?_ (by simp; try omega) _ | refine Below.setCell ?_ (by simp; try omega) _)⟩
  have e1 : chN c = 0 := by unfold chN; simp [h0, h1, h2, h3, h4]
  have e2 : chB c = false := by unfold chB; simp [h0, h1, h2, h3, h4]
  rw [e1, e2]
  have t0 : ((34 : Int) == (c.toNat : Int)) = false := by rw [beq_eq_false_iff_ne]; intro e; exact h0 (UInt8.toNat_inj.1 (by show c.toNat = 34; omega))
  have t1 : ((92 : Int) == (c.toNat : Int)) = false := by rw [beq_eq_false_iff_ne]; intro e; exact h1 (UInt8.toNat_inj.1 (by show c.toNat = 92; omega))
  have t2 : ((110 : Int) == (c.toNat : Int)) = false := by rw [beq_eq_false_iff_ne]; intro e; exact h2 (UInt8.toNat_inj.1 (by show c.toNat = 110; omega))
  have t3 : ((114 : Int) == (c.toNat : Int)) = false := by rw [beq_eq_false_iff_ne]; intro e; exact h3 (UInt8.toNat_inj.1 (by show c.toNat = 114; omega))
  have t4 : ((116 : Int) == (c.toNat : Int)) = false := by rw [beq_eq_false_iff_ne]; intro e; exact h4 (UInt8.toNat_inj.1 (by show c.toNat = 116; omega))
  clear e1 e2 h0 h1 h2 h3 h4
  go_enter Tryd.func77, Tryd.ntmps77
  go_wp2
  refine wp_loop_rounds 6 ?_
  rw [rounds_succ]
  go_wp2
  rw [rounds_succ]
  go_wp2
  rw [rounds_succ]
  go_wp2
  rw [rounds_succ]
  go_wp2
  rw [rounds_succ]
  go_wp2
  rw [rounds_succ]
  go_wp2
  go_ret2
  exact ⟨rfl, by repeat (first | exact Below.refl _ _ | refine Below.alloc ?_ (by simp; try omega) _ | refine Below.setCell ?_ (by simp; try omega) _)⟩
end Go.Proofs.YtbojhcfofgdoeaaDoor
