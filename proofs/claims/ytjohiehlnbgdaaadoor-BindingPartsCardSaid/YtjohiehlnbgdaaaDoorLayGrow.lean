/- A structure of the library's contract of slices.Grow, laid at this program's slots; and what Grow makes of nil. -/
import Derived.Shelf.Spec.SlicesGrow
import Derived.Test.YtjohiehlnbgdaaaDoorSlot
namespace Go.Proofs.YtjohiehlnbgdaaaDoor
open Go.Shelf Go.RowKit
set_option linter.unusedVariables false
def layGrow_ren : Go.Shelf.Ren := ⟨fun | 4 => 55 | n => n, fun | 22 => 22 | 25 => 36 | 20 => 20 | 9 => 9 | 4 => 4 | 3 => 3 | 0 => 0 | n => n, fun | n => n⟩
theorem layGrow : Go.Proofs.Lays8.n4 Tryd.prog layGrow_ren := {
  mixed := by kernel_rfl
  f4 := ⟨Tryd.f55.name, by decide, Tryd.func55.trans (congrArg some (by kernel_rfl))⟩
  t0 := Tryd.underlying0
  a0 := Tryd.isAgg0
  z0 := Tryd.sizeOf0
  v0 := Tryd.zeroValue0
  t3 := Tryd.underlying3
  a3 := Tryd.isAgg3
  z3 := Tryd.sizeOf3
  v3 := Tryd.zeroValue3
  t4 := Tryd.underlying4
  a4 := Tryd.isAgg4
  z4 := Tryd.sizeOf4
  v4 := Tryd.zeroValue4
  t9 := Tryd.underlying9
  a9 := Tryd.isAgg9
  z9 := Tryd.sizeOf9
  v9 := Tryd.zeroValue9
  t20 := Tryd.underlying20
  a20 := Tryd.isAgg20
  z20 := Tryd.sizeOf20
  v20 := Tryd.zeroValue20
  t22 := Tryd.underlying22
  a22 := Tryd.isAgg22
  z22 := Tryd.sizeOf22
  v22 := Tryd.zeroValue22 }
/-- What slices.Grow makes of nil: room for n slots. -/
theorem growNil_calls (n : Nat) (w : World) (hn : n ≤ 100000) :
    Calls Tryd.prog 55 #[.slice none 0 0, .int .i64 (n : Int)] w fun e w' => ∃ o, e = .returned o ∧ w'.ownsRow w.heap.size 36 5 o 0 [] ∧ Below w.heap.size w w' := by
  rcases Nat.eq_zero_or_pos n with h0 | h0
  · subst h0
    refine (Any8.slices_Grow_room layGrow none 0 0 0 w (Nat.le_refl _) (by omega) (by omega) (by omega)).mono ?_
    rintro e w' ⟨rfl, rfl⟩
    exact ⟨_, rfl, World.ownsRow_nil _ _ _ _, Below.refl _ _⟩
  · have hinfo := infoS
    cases hi : Tryd.prog.info? 36 with
    | none => rw [hi] at hinfo; cases hinfo
    | some i0 =>
      rw [hi] at hinfo
      simp only [Option.map_some, Option.some.injEq, Prod.mk.injEq] at hinfo
      obtain ⟨hz, hs, hb⟩ := hinfo
      refine (Any8.slices_Grow_grow layGrow i0 _ hi hz (by omega) none 0 0 n [] w (Nat.le_refl _) (by omega) (by rw [hb]; omega) (by omega) (by simp) (fun _ => rfl) (fun a h => by cases h)).mono ?_
      rintro e w' ⟨rfl, rfl⟩
      have hG := grownCap_ge w (0 + n) 0 36
      have hM := grownCap_le_maxLen w (0 + n) 0 36 (by unfold maxLen; omega)
      refine ⟨_, rfl, ?_, (Below.refl _ w).drew.alloc (Nat.le_refl _) _⟩
      refine World.ownsRow_made (base := w.heap.size) (e := 36) (size := 5) w.drew _ (grownCap w (0 + n) 0 36) (Nat.le_refl _) hM ?_
      simp only [Array.size_append, size_zeroCells]
      have : (Value.agg #[.int .i64 0, .int .i64 0, .int .i64 0, .string ⟨#[]⟩, .bool false]).cells.size = 5 := rfl
      rw [this]
      change 0 + (0 + n - 0) * 5 + (grownCap w (0 + n) 0 36 - (0 + n)) * 5 = _
      omega
end Go.Proofs.YtjohiehlnbgdaaaDoor
