/- Values in a row of memory, and what may be said of values that may be. -/
import Derived.Test.YtojabkhfkbfeaaaGreatDoorValLessMath
namespace Go.Proofs.YtojabkhfkbfeaaaGreatDoor
open Go.RowKit
set_option linter.unusedVariables false

theorem right_kind {k i : Int} {s : ByteArray} {b : Bool} (h : rightB k i s b = true) : k = 1 ∨ k = 2 ∨ k = 3 := by
  unfold rightB at h
  by_cases h1 : k = 1
  · exact .inl h1
  · rw [if_neg h1] at h
    by_cases h2 : k = 2
    · exact .inr (.inl h2)
    · rw [if_neg h2] at h
      simp only [Bool.and_eq_true, beq_iff_eq] at h
      exact .inr (.inr h.1.1)
theorem right2_size {i : Int} {s : ByteArray} {b : Bool} (h : rightB 2 i s b = true) : s.size ≤ 4096 := by
  simp only [rightB] at h
  simp at h
  omega
theorem right_cases {k i : Int} {s : ByteArray} {b : Bool} (h : rightB k i s b = true) : (k = 1 ∧ s.toList = [] ∧ b = false) ∨ (k = 2 ∧ i = 0 ∧ b = false) ∨ (k = 3 ∧ i = 0 ∧ s.toList = []) := by
  rcases right_kind h with rfl | rfl | rfl
  · simp [rightB] at h
    exact .inl ⟨rfl, h⟩
  · simp [rightB] at h
    exact .inr (.inl ⟨rfl, h.1⟩)
  · simp [rightB] at h
    exact .inr (.inr ⟨rfl, h⟩)
theorem right_size {k i : Int} {s : ByteArray} {b : Bool} (h : rightB k i s b = true) : s.size ≤ 4096 := by
  rcases right_cases h with ⟨rfl, e, _⟩ | ⟨rfl, _⟩ | ⟨rfl, _, e⟩
  · rw [← tl_len, e]; simp
  · exact right2_size h
  · rw [← tl_len, e]; simp

structure Vd where
  (k i : Int) (s : ByteArray) (b : Bool)
instance : Inhabited Vd := ⟨⟨0, 0, ⟨#[]⟩, false⟩⟩
def lessD (x y : Vd) : Bool := lessB x.k x.i x.s x.b y.k y.i y.s y.b
/-- A value's cells lie at a place of a block. -/
def Lies (g o : Nat) (v : Vd) (w : World) : Prop :=
  w.cell? ⟨g, o, none⟩ = some (.int .i64 v.k) ∧ w.cell? ⟨g, o + 1, none⟩ = some (.int .i64 v.i) ∧ w.cell? ⟨g, o + 2, none⟩ = some (.string v.s) ∧ w.cell? ⟨g, o + 3, none⟩ = some (.bool v.b)
theorem Lies.below {g o B : Nat} {v : Vd} {w w' : World} (h : Lies g o v w) (hb : Below B w w') (hg : g < B) : Lies g o v w' :=
  ⟨(hb.cell (p := ⟨g, o, none⟩) hg).trans h.1, (hb.cell (p := ⟨g, o + 1, none⟩) hg).trans h.2.1, (hb.cell (p := ⟨g, o + 2, none⟩) hg).trans h.2.2.1, (hb.cell (p := ⟨g, o + 3, none⟩) hg).trans h.2.2.2⟩
/-- A list of values lies in a row. -/
structure VRow (w : World) (g off : Nat) (L : List Vd) : Prop where
  at' : ∀ n, n < L.length → Lies g (off + n * 4) (L.getD n default) w
  lt : g < w.heap.size
theorem VRow.below {w w' : World} {g off : Nat} {L : List Vd} (h : VRow w g off L) (hb : Below w.heap.size w w') : VRow w' g off L :=
  ⟨fun n hn => (h.at' n hn).below hb h.lt, Nat.lt_of_lt_of_le h.lt hb.size⟩

theorem Boxed.set {g : Nat} {k i : Int} {s : ByteArray} {b : Bool} {w : World} (h : Boxed g k i s b w) (k' i' : Int) (s' : ByteArray) (b' : Bool) :
    Boxed g k' i' s' b' ((((w.setCell ⟨g, 0, none⟩ (.int .i64 k')).setCell ⟨g, 1, none⟩ (.int .i64 i')).setCell ⟨g, 2, none⟩ (.string s')).setCell ⟨g, 3, none⟩ (.bool b')) := by
  obtain ⟨h0, h1, h2, h3⟩ := h
  refine ⟨?_, ?_, ?_, ?_⟩
  · rw [World.cell?_setCell_other _ _ _ _ (by simp), World.cell?_setCell_other _ _ _ _ (by simp), World.cell?_setCell_other _ _ _ _ (by simp)]
    exact World.cell?_setCell_same _ _ _ (h0)
  · rw [World.cell?_setCell_other _ _ _ _ (by simp), World.cell?_setCell_other _ _ _ _ (by simp)]
    exact World.cell?_setCell_same _ _ _ ((World.cell?_setCell_other _ _ _ _ (by simp)).trans h1)
  · rw [World.cell?_setCell_other _ _ _ _ (by simp)]
    exact World.cell?_setCell_same _ _ _ (((World.cell?_setCell_other _ _ _ _ (by simp)).trans (World.cell?_setCell_other _ _ _ _ (by simp))).trans h2)
  · exact World.cell?_setCell_same _ _ _ ((((World.cell?_setCell_other _ _ _ _ (by simp)).trans (World.cell?_setCell_other _ _ _ _ (by simp))).trans (World.cell?_setCell_other _ _ _ _ (by simp))).trans h3)
theorem Free4.set {g : Nat} {w : World} (h : Free4 g w) (a b c d : Addr) (x y z u : Value) : Free4 g ((((w.setCell a x).setCell b y).setCell c z).setCell d u) := by
  obtain ⟨h0, h1, h2, h3⟩ := h
  refine ⟨?_, ?_, ?_, ?_⟩ <;> simp [*]
theorem below_set4 {B g : Nat} {a w : World} (h : Below B a w) (hg : B ≤ g) (x y z u : Value) : Below B a ((((w.setCell ⟨g, 0, none⟩ x).setCell ⟨g, 1, none⟩ y).setCell ⟨g, 2, none⟩ z).setCell ⟨g, 3, none⟩ u) :=
  (((h.setCell hg _).setCell hg _).setCell hg _).setCell hg _
theorem size_set4 (w : World) (g : Nat) (x y z u : Value) : ((((w.setCell ⟨g, 0, none⟩ x).setCell ⟨g, 1, none⟩ y).setCell ⟨g, 2, none⟩ z).setCell ⟨g, 3, none⟩ u).heap.size = w.heap.size := by simp
end Go.Proofs.YtojabkhfkbfeaaaGreatDoor
