/- Values as plain data: which may be; their cells in a block. -/
import Derived.Test.YtojabkhfkbfeaaaGreatDoorBase
namespace Go.Proofs.YtojabkhfkbfeaaaGreatDoor
open Go.RowKit
set_option linter.unusedVariables false

/-- Whether a value may be. -/
def rightB (k i : Int) (s : ByteArray) (b : Bool) : Bool :=
  if k = 1 then s.toList.isEmpty && !b else if k = 2 then (i == 0) && !b && decide ((s.size : Int) ≤ 4096) else (k == 3) && (i == 0) && s.toList.isEmpty

/-- A value's cells lie in a block. -/
def Boxed (g : Nat) (k i : Int) (s : ByteArray) (b : Bool) (w : World) : Prop :=
  w.cell? ⟨g, 0, none⟩ = some (.int .i64 k) ∧ w.cell? ⟨g, 1, none⟩ = some (.int .i64 i) ∧ w.cell? ⟨g, 2, none⟩ = some (.string s) ∧ w.cell? ⟨g, 3, none⟩ = some (.bool b)
theorem Boxed.below {g B : Nat} {k i : Int} {s : ByteArray} {b : Bool} {w w' : World} (h : Boxed g k i s b w) (hb : Below B w w') (hg : g < B) : Boxed g k i s b w' :=
  ⟨(hb.cell (p := ⟨g, 0, none⟩) hg).trans h.1, (hb.cell (p := ⟨g, 1, none⟩) hg).trans h.2.1, (hb.cell (p := ⟨g, 2, none⟩) hg).trans h.2.2.1, (hb.cell (p := ⟨g, 3, none⟩) hg).trans h.2.2.2⟩
theorem Boxed.drew {g : Nat} {k i : Int} {s : ByteArray} {b : Bool} {w : World} (h : Boxed g k i s b w) : Boxed g k i s b w.drew := h
theorem Boxed.new (k i : Int) (s : ByteArray) (b : Bool) (w : World) (t : TypeId) : Boxed w.heap.size k i s b (w.alloc (.cells #[.int .i64 k, .int .i64 i, .string s, .bool b] t)) := by
  refine ⟨?_, ?_, ?_, ?_⟩ <;> (rw [World.cell?_alloc_at (hn := rfl)]; rfl)
/-- No string shares the bytes of a value's cells. -/
def Free4 (g : Nat) (w : World) : Prop :=
  w.frozen? ⟨g, 0, none⟩ = false ∧ w.frozen? ⟨g, 1, none⟩ = false ∧ w.frozen? ⟨g, 2, none⟩ = false ∧ w.frozen? ⟨g, 3, none⟩ = false
theorem Free4.below {g B : Nat} {w w' : World} (h : Free4 g w) (hb : Below B w w') (hg : g < B) : Free4 g w' :=
  ⟨(hb.frozen (p := ⟨g, 0, none⟩) hg).trans h.1, (hb.frozen (p := ⟨g, 1, none⟩) hg).trans h.2.1, (hb.frozen (p := ⟨g, 2, none⟩) hg).trans h.2.2.1, (hb.frozen (p := ⟨g, 3, none⟩) hg).trans h.2.2.2⟩
theorem Free4.new (cs : Array Value) (w : World) (t : TypeId) : Free4 w.heap.size (w.alloc (.cells cs t)) := by
  refine ⟨?_, ?_, ?_, ?_⟩ <;> rw [World.frozen?_alloc_at (hn := rfl)]

/-- Whether two values are the same. -/
def eqB (k i : Int) (s : ByteArray) (b : Bool) (k' i' : Int) (s' : ByteArray) (b' : Bool) : Bool := (k == k') && (i == i') && (s.toList == s'.toList) && (b == b')
theorem eqB_iff (k i : Int) (s : ByteArray) (b : Bool) (k' i' : Int) (s' : ByteArray) (b' : Bool) : eqB k i s b k' i' s' b' = true ↔ k = k' ∧ i = i' ∧ s.toList = s'.toList ∧ b = b' := by
  unfold eqB
  simp [and_assoc]
theorem none_list : (⟨#[]⟩ : ByteArray).toList = [] := by rw [ByteArray.toList_eq]
theorem list_none (l : List UInt8) : (l == (⟨#[]⟩ : ByteArray).toList) = l.isEmpty := by rw [none_list]; cases l <;> rfl
theorem right1 (i : Int) (s : ByteArray) (b : Bool) : eqB 1 i s b 1 i ⟨#[]⟩ false = rightB 1 i s b := by
  unfold eqB rightB; rw [list_none]; cases b <;> simp
theorem right3 (i : Int) (s : ByteArray) (b : Bool) : eqB 3 i s b 3 0 ⟨#[]⟩ b = rightB 3 i s b := by
  unfold eqB rightB; rw [list_none]; simp
theorem right2 (i : Int) (s : ByteArray) (b : Bool) : rightB 2 i s b = (eqB 2 i s b 2 0 s false && decide ((s.size : Int) ≤ 4096)) := by
  unfold eqB rightB; cases b <;> simp
end Go.Proofs.YtojabkhfkbfeaaaGreatDoor
