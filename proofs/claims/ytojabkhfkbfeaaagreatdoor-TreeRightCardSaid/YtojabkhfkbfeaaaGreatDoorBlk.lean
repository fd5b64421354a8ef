/- Blocks told by their types; rows of a call's own. No program. -/
import Derived.Test.YtojabkhfkbfeaaaGreatDoorBase
import Derived.Maps.AppendAt
import Derived.OwnWalk
namespace Go.Proofs.YtojabkhfkbfeaaaGreatDoor
open Go.RowKit
set_option linter.unusedVariables false

theorem cs_parts {i : Option TypeInfo} {z : Value} {s b : Nat} (h : i.map (fun i => (i.zero, i.size, i.bytes)) = some (some z, s, b)) : ∃ i0, i = some i0 ∧ i0.zero = some z ∧ i0.size = s ∧ i0.bytes = b := by
  cases i with
  | none => cases h
  | some i0 =>
    simp only [Option.map_some, Option.some.injEq, Prod.mk.injEq] at h
    exact ⟨i0, rfl, h.1, h.2.1, h.2.2⟩
theorem cs_own {W : World} {base : Nat} {e : TypeId} {size : Nat} {v : Value} {k : Nat} {xs : List Value} (h : W.ownsRow base e size v k xs) : ∃ a c, v = .slice a k c := by
  rcases h.2 with ⟨rfl, rfl⟩ | ⟨g, cap, cur, rfl, _⟩
  · exact ⟨_, _, rfl⟩
  · exact ⟨_, _, rfl⟩
theorem cs_ownBelow {B : Nat} {t : TypeId} {k : Nat} {v : Value} {n : Nat} {xs : List Value} {w w' : World} (h : w.ownsRow B t k v n xs) (hb : Below w.heap.size w w') : w'.ownsRow B t k v n xs := by
  obtain ⟨hl, hown⟩ := h
  refine ⟨hl, ?_⟩
  rcases hown with hn | ⟨g, cap, cur, rfl, h1, hg, rest⟩
  · exact .inl hn
  · have hglt : g < w.heap.size := (Array.getElem?_eq_some_iff.1 hg).1
    exact .inr ⟨g, cap, cur, rfl, h1, by rw [hb.block g hglt]; exact hg, rest⟩
theorem cs_ownBase {B B' : Nat} {t : TypeId} {k : Nat} {v : Value} {n : Nat} {xs : List Value} {w : World} (h : w.ownsRow B t k v n xs) (hb : B' ≤ B) : w.ownsRow B' t k v n xs := by
  obtain ⟨hl, hown⟩ := h
  refine ⟨hl, ?_⟩
  rcases hown with hn | ⟨g, cap, cur, rfl, h1, rest⟩
  · exact .inl hn
  · exact .inr ⟨g, cap, cur, rfl, Nat.le_trans hb h1, rest⟩
theorem cs_new (w : World) (v : Value) (t : TypeId) : ∀ j u, [v][j]? = some u → (w.alloc (.cells #[v] t)).cell? ((⟨w.heap.size, 0, none⟩ : Addr).add j) = some u := by
  intro j u hj
  rw [show (⟨w.heap.size, 0, none⟩ : Addr).add j = ⟨w.heap.size, j, none⟩ by unfold Addr.add; split <;> simp_all, World.cell?_alloc_at (hn := rfl)]
  simpa using hj
theorem cs_set {w : World} {a : Addr} {u : Value} : w.grownBy (w.setCell a u) (some a.block) :=
  ⟨rfl, rfl, rfl, by rw [World.size_setCell]; exact Nat.le_refl _, fun k _ hne => heap_setCell_other w _ k u (fun e => hne (by rw [e]))⟩
/-- A block of a type lies at a place. -/
def CBlk (w : World) (g : Nat) (t : TypeId) : Prop := ∃ cs f, w.heap[g]? = some (.cells cs t f)
theorem CBlk.lt {w : World} {g : Nat} {t : TypeId} (h : CBlk w g t) : g < w.heap.size := by
  obtain ⟨cs, f, e⟩ := h
  exact (Array.getElem?_eq_some_iff.1 e).1
theorem CBlk.below {w w' : World} {g : Nat} {t : TypeId} (h : CBlk w g t) (hb : Below w.heap.size w w') : CBlk w' g t := by
  have hl := h.lt
  obtain ⟨cs, f, e⟩ := h
  exact ⟨cs, f, (hb.block g hl).trans e⟩
theorem CBlk.ne {w : World} {g h : Nat} {t u : TypeId} (a : CBlk w g t) (b : CBlk w h u) (hne : t ≠ u) : g ≠ h := by
  rintro rfl
  obtain ⟨cs, f, e⟩ := a
  obtain ⟨ds, f', e'⟩ := b
  rw [e] at e'
  simp only [Option.some.injEq, Obj.cells.injEq] at e'
  exact hne e'.2.1
theorem CBlk.row {w : World} {B : Nat} {t : TypeId} {k : Nat} {v : Value} {n : Nat} {xs : List Value} (h : w.ownsRow B t k v n xs) {g : Nat} (e : v.ownBlock = some g) : CBlk w g t := by
  rcases h.2 with ⟨rfl, _⟩ | ⟨g', cap, cur, rfl, _, hg, _⟩
  · cases e
  · obtain rfl : g' = g := Option.some.inj e
    exact ⟨cur, _, hg⟩
theorem CBlk.grown {w w' : World} {g : Nat} {t : TypeId} {row : Option Nat} (h : CBlk w g t) (hg : w.grownBy w' row) (hne : some g ≠ row) : CBlk w' g t := by
  have hl := h.lt
  obtain ⟨cs, f, e⟩ := h
  exact ⟨cs, f, (hg.block g hl hne).trans e⟩
/-- A block keeps apart from a row of another type. -/
theorem CBlk.far {w : World} {g : Nat} {t u : TypeId} (h : CBlk w g t) {B : Nat} {k : Nat} {v : Value} {n : Nat} {xs : List Value} (ho : w.ownsRow B u k v n xs) (hne : t ≠ u) : some g ≠ v.ownBlock := fun e =>
  h.ne (CBlk.row ho e.symm) hne rfl
/-- A row of the call's own keeps over a change of a block of another type. -/
theorem cs_ownKept {w w' : World} {B : Nat} {t u : TypeId} {k : Nat} {v : Value} {n : Nat} {xs : List Value} {g : Nat} (ho : w.ownsRow B t k v n xs) (hb : CBlk w g u) (hne : t ≠ u) (hg : w.grownBy w' (some g)) : w'.ownsRow B t k v n xs :=
  ho.kept hg (.inr fun e => (CBlk.row ho e).ne hb hne rfl)
end Go.Proofs.YtojabkhfkbfeaaaGreatDoor
