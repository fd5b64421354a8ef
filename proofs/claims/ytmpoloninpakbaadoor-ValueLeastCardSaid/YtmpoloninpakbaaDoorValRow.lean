/- Lists of values: the place of the first least, and values in a row of memory. -/
import Derived.Test.YtmpoloninpakbaaDoorValLess
import Derived.Test.YtmpoloninpakbaaDoorValText
namespace Go.Proofs.YtmpoloninpakbaaDoor
open Go.RowKit
set_option linter.unusedVariables false

structure Vd where
  (k i : Int) (s : ByteArray) (b : Bool)
instance : Inhabited Vd := ⟨⟨0, 0, ⟨#[]⟩, false⟩⟩
def lessD (x y : Vd) : Bool := lessB x.k x.i x.s x.b y.k y.i y.s y.b
/-- The place of the first least of the first n. -/
def leastTo (L : List Vd) : Nat → Int
  | 0 => -1
  | n + 1 => if leastTo L n < 0 ∨ lessD (L.getD n default) (L.getD (leastTo L n).toNat default) = true then n else leastTo L n
theorem least_bounds (L : List Vd) : ∀ n, -1 ≤ leastTo L n ∧ leastTo L n < n ∧ (0 < n → 0 ≤ leastTo L n)
  | 0 => by simp [leastTo]
  | n + 1 => by
    obtain ⟨h1, h2, h3⟩ := least_bounds L n
    unfold leastTo
    split
    · omega
    · rename_i h
      have : ¬ leastTo L n < 0 := fun e => h (.inl e)
      omega
theorem least_new {L : List Vd} {n : Nat} (h : leastTo L n < 0) : leastTo L (n + 1) = n := by
  rw [leastTo, if_pos (.inl h)]
theorem least_less {L : List Vd} {n : Nat} (h : lessD (L.getD n default) (L.getD (leastTo L n).toNat default) = true) : leastTo L (n + 1) = n := by
  rw [leastTo, if_pos (.inr h)]
theorem least_keep {L : List Vd} {n : Nat} (h0 : ¬ leastTo L n < 0) (h : lessD (L.getD n default) (L.getD (leastTo L n).toNat default) = false) : leastTo L (n + 1) = leastTo L n := by
  rw [leastTo, if_neg (by rintro (h' | h'); exact h0 h'; rw [h] at h'; cases h')]

/-- A value's cells lie at a place of a block. -/
def Lies (g o : Nat) (v : Vd) (w : World) : Prop :=
  w.cell? ⟨g, o, none⟩ = some (.int .i64 v.k) ∧ w.cell? ⟨g, o + 1, none⟩ = some (.int .i64 v.i) ∧ w.cell? ⟨g, o + 2, none⟩ = some (.string v.s) ∧ w.cell? ⟨g, o + 3, none⟩ = some (.bool v.b)
theorem Lies.below {g o B : Nat} {v : Vd} {w w' : World} (h : Lies g o v w) (hb : Below B w w') (hg : g < B) : Lies g o v w' :=
  ⟨(hb.cell (p := ⟨g, o, none⟩) hg).trans h.1, (hb.cell (p := ⟨g, o + 1, none⟩) hg).trans h.2.1, (hb.cell (p := ⟨g, o + 2, none⟩) hg).trans h.2.2.1, (hb.cell (p := ⟨g, o + 3, none⟩) hg).trans h.2.2.2⟩
/-- A list of values lies in a row. -/
structure VRow (w : World) (g off : Nat) (L : List Vd) : Prop where
  at' : ∀ n, n < L.length → Lies g (off + n * 4) (L.getD n default) w
  lt : g < w.heap.size
theorem VRow.below {w w' : World} {g off : Nat} {L : List Vd} (h : VRow w g off L) (hb : Below w.heap.size w w') : VRow w' g off L :=
  ⟨fun n hn => (h.at' n hn).below hb h.lt, Nat.lt_of_lt_of_le h.lt hb.size⟩

theorem Boxed.set {g : Nat} {k i : Int} {s : ByteArray} {b : Bool} {w : World} (h : Boxed g k i s b w) (k' i' : Int) (s' : ByteArray) (b' : Bool) :
    Boxed g k' i' s' b' ((((w.setCell ⟨g, 0, none⟩ (.int .i64 k')).setCell ⟨g, 1, none⟩ (.int .i64 i')).setCell ⟨g, 2, none⟩ (.string s')).setCell ⟨g, 3, none⟩ (.bool b')) := by
  obtain ⟨h0, h1, h2, h3⟩ := h
  refine ⟨?_, ?_, ?_, ?_⟩
  · rw [World.cell?_setCell_other _ _ _ _ (by simp), World.cell?_setCell_other _ _ _ _ (by simp), World.cell?_setCell_other _ _ _ _ (by simp)]
    exact World.cell?_setCell_same _ _ _ (h0)
  · rw [World.cell?_setCell_other _ _ _ _ (by simp), World.cell?_setCell_other _ _ _ _ (by simp)]
    exact World.cell?_setCell_same _ _ _ ((World.cell?_setCell_other _ _ _ _ (by simp)).trans h1)
  · rw [World.cell?_setCell_other _ _ _ _ (by simp)]
    exact World.cell?_setCell_same _ _ _ (((World.cell?_setCell_other _ _ _ _ (by simp)).trans (World.cell?_setCell_other _ _ _ _ (by simp))).trans h2)
  · exact World.cell?_setCell_same _ _ _ ((((World.cell?_setCell_other _ _ _ _ (by simp)).trans (World.cell?_setCell_other _ _ _ _ (by simp))).trans (World.cell?_setCell_other _ _ _ _ (by simp))).trans h3)
theorem Free4.set {g : Nat} {w : World} (h : Free4 g w) (a b c d : Addr) (x y z u : Value) : Free4 g ((((w.setCell a x).setCell b y).setCell c z).setCell d u) := by
  obtain ⟨h0, h1, h2, h3⟩ := h
  refine ⟨?_, ?_, ?_, ?_⟩ <;> simp [*]
theorem below_set4 {B g : Nat} {a w : World} (h : Below B a w) (hg : B ≤ g) (x y z u : Value) : Below B a ((((w.setCell ⟨g, 0, none⟩ x).setCell ⟨g, 1, none⟩ y).setCell ⟨g, 2, none⟩ z).setCell ⟨g, 3, none⟩ u) :=
  (((h.setCell hg _).setCell hg _).setCell hg _).setCell hg _
theorem size_set4 (w : World) (g : Nat) (x y z u : Value) : ((((w.setCell ⟨g, 0, none⟩ x).setCell ⟨g, 1, none⟩ y).setCell ⟨g, 2, none⟩ z).setCell ⟨g, 3, none⟩ u).heap.size = w.heap.size := by simp
end Go.Proofs.YtmpoloninpakbaaDoor
