/- The slots' order by compareSlots is a weak one, whatever the slots; and, of slots that may be, a total one. -/
import Derived.Test.YtjohiehlnbgdaaaDoorSlotCmp
import Derived.Test.YtjohiehlnbgdaaaDoorSlotRight
import Derived.Test.YtjohiehlnbgdaaaDoorLowVal
namespace Go.Proofs.YtjohiehlnbgdaaaDoor
open Go.RowKit
set_option linter.unusedVariables false

theorem bl_ntrans {l m n : List UInt8} (h : Op.bytesLess l m = false) (g : Op.bytesLess m n = false) : Op.bytesLess l n = false := by
  cases e : Op.bytesLess l n
  · rfl
  · cases f : Op.bytesLess m l
    · rw [bl_tri h f] at e
      rw [e] at g; cases g
    · rw [bl_trans f e] at g; cases g
theorem less_ntrans {v u t : Vd} (h : lessD v u = false) (g : lessD u t = false) : lessD v t = false := by
  obtain ⟨k, i, s, b⟩ := v
  obtain ⟨k', i', s', b'⟩ := u
  obtain ⟨k'', i'', s'', b''⟩ := t
  simp only [lessD, lessB] at *
  by_cases h1 : k = k'
  · subst h1
    rw [if_pos rfl] at h
    by_cases h2 : k = k''
    · subst h2
      rw [if_pos rfl] at g ⊢
      split
      · simp_all; omega
      · split
        · simp_all
          exact bl_ntrans h g
        · split
          · simp_all
          · rfl
    · rw [if_neg h2] at g ⊢
      exact g
  · rw [if_neg h1] at h
    by_cases h2 : k' = k''
    · subst h2
      rw [if_neg h1]
      exact h
    · rw [if_neg h2] at g
      have a1 := of_decide_eq_false h
      have a2 := of_decide_eq_false g
      rw [if_neg (by omega)]
      exact decide_eq_false (by omega)
theorem lessD_irrefl (v : Vd) : lessD v v = false := by
  cases h : lessD v v
  · rfl
  · have := less_asym h; rw [show lessB v.k v.i v.s v.b v.k v.i v.s v.b = lessD v v from rfl, h] at this; cases this

/-- A slot is ahead of another one. -/
def ltS (a b : Sd) : Bool := decide (a.x < b.x) || (decide (a.x = b.x) && lessD a.v b.v)
theorem ltS_iff (a b : Sd) : ltS a b = true ↔ a.x < b.x ∨ (a.x = b.x ∧ lessD a.v b.v = true) := by simp [ltS]
theorem ltS_no (a b : Sd) : ltS a b = false ↔ b.x < a.x ∨ (a.x = b.x ∧ lessD a.v b.v = false) := by
  cases h : lessD a.v b.v <;> simp [ltS, h] <;> omega
theorem cmpS_lt (a b : Sd) : decide (cmpS a b < 0) = ltS a b := by
  unfold cmpS ltS
  by_cases h : a.x = b.x
  · rw [if_pos h]
    cases h1 : lessD a.v b.v
    · cases h2 : lessD b.v a.v <;> simp [h]
    · simp [h]
  · rw [if_neg h]
    unfold Lib.compareInt
    by_cases h1 : a.x < b.x
    · simp [h1]
    · by_cases h2 : b.x < a.x
      · simp [h1, h2]; omega
      · omega
theorem ltS_swo : Go.Sort.SWO ltS where
  irrefl x := by rw [ltS_no]; exact .inr ⟨rfl, lessD_irrefl _⟩
  trans x y z h1 h2 := by
    rw [ltS_iff] at *
    rcases h1 with h1 | ⟨h1, h3⟩ <;> rcases h2 with h2 | ⟨h2, h4⟩
    · exact .inl (by omega)
    · exact .inl (by omega)
    · exact .inl (by omega)
    · exact .inr ⟨by omega, less_trans h3 h4⟩
  ntrans x y z h1 h2 := by
    rw [ltS_no] at *
    rcases h1 with h1 | ⟨h1, h3⟩ <;> rcases h2 with h2 | ⟨h2, h4⟩
    · exact .inl (by omega)
    · exact .inl (by omega)
    · exact .inl (by omega)
    · exact .inr ⟨by omega, less_ntrans h3 h4⟩
theorem ltS_tri {a b : Sd} (ha : rV a.v = true) (hb : rV b.v = true) (h : ltS a b = false) (g : ltS b a = false) : a = b := by
  rw [ltS_no] at *
  rcases h with h | ⟨h, h1⟩
  · rcases g with g | ⟨g, _⟩ <;> omega
  · rcases g with g | ⟨g, g1⟩
    · omega
    · obtain ⟨x, v⟩ := a
      obtain ⟨y, u⟩ := b
      simp only at h
      have e : v = u := Vd.same (less_tri ha hb h1 g1)
      rw [h, e]
end Go.Proofs.YtjohiehlnbgdaaaDoor
