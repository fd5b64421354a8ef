/- Which of two values is ahead, as plain mathematics. -/
import Derived.Test.YtojabkhfkbfeaaaGreatDoorValBox
namespace Go.Proofs.YtojabkhfkbfeaaaGreatDoor
open Go.RowKit
set_option linter.unusedVariables false

/-- Whether a value is ahead of another one. -/
def lessB (k i : Int) (s : ByteArray) (b : Bool) (k' i' : Int) (s' : ByteArray) (b' : Bool) : Bool :=
  if k = k' then (if k = 1 then decide (i < i') else if k = 2 then Op.bytesLess s.toList s'.toList else if k = 3 then !b && b' else false) else decide (k < k')

theorem below_drewN {B : Nat} {a w : World} (n : Nat) (h : Below B a w) : Below B a (w.drewN n) := ⟨h.os, h.tape, h.output, h.size, h.block⟩
theorem bl_same (a : UInt8) (x y : List UInt8) : Op.bytesLess (a :: x) (a :: y) = Op.bytesLess x y := by
  simp [Op.bytesLess]
theorem bl_drop : ∀ (k : Nat) (l m : List UInt8), k ≤ l.length → k ≤ m.length → l.take k = m.take k → Op.bytesLess l m = Op.bytesLess (l.drop k) (m.drop k)
  | 0, _, _, _, _, _ => by simp
  | k + 1, [], _, h, _, _ => by simp at h
  | k + 1, _ :: _, [], _, h, _ => by simp at h
  | k + 1, a :: x, c :: y, h1, h2, h => by
    simp only [List.take_succ_cons, List.cons.injEq] at h
    obtain ⟨rfl, h⟩ := h
    rw [bl_same, List.drop_succ_cons, List.drop_succ_cons]
    exact bl_drop k x y (by simpa using h1) (by simpa using h2) h
theorem bl_nil (l : List UInt8) : Op.bytesLess l [] = false := by cases l <;> rfl
theorem bl_ne {a c : UInt8} (h : a ≠ c) (x y : List UInt8) : Op.bytesLess (a :: x) (c :: y) = decide (a.toNat < c.toNat) := by
  simp only [Op.bytesLess]
  rw [show (a == c) = false by simpa using h]
  simp [UInt8.lt_iff_toNat_lt]
theorem bl_end (l m : List UInt8) (h : l.length ≤ m.length) (e : l = m.take l.length) : Op.bytesLess l m = decide (l.length < m.length) := by
  rw [bl_drop l.length l m (Nat.le_refl _) h (by rw [List.take_length]; exact e), List.drop_length]
  by_cases hl : l.length < m.length
  · rw [List.drop_eq_getElem_cons hl]; simp [Op.bytesLess, hl]
  · rw [List.drop_eq_nil_iff.2 (by omega)]; simp [Op.bytesLess, hl]
theorem bl_end' (l m : List UInt8) (h : m.length ≤ l.length) (e : l.take m.length = m) : Op.bytesLess l m = false := by
  rw [bl_drop m.length l m h (Nat.le_refl _) (by rw [List.take_length]; exact e), List.drop_length, bl_nil]

theorem tl_len (a : ByteArray) : a.toList.length = a.size := by rw [ByteArray.toList_eq, Array.length_toList]; rfl
theorem tl_at (a : ByteArray) (k : Nat) (h : k < a.size) : a.toList[k]'(by rw [tl_len]; exact h) = a[k] := by
  simp only [ByteArray.toList_eq]
  rfl
end Go.Proofs.YtojabkhfkbfeaaaGreatDoor
