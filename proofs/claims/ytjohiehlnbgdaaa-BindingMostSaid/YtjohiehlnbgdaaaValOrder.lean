/- The values' order is one: of two that are not the same just one is ahead, and what is ahead of what is ahead is ahead. -/
import Derived.Test.YtjohiehlnbgdaaaValLess
import Derived.Test.YtjohiehlnbgdaaaValCells
namespace Go.Proofs.Ytjohiehlnbgdaaa
open Go.RowKit
set_option linter.unusedVariables false

theorem bl_cons (a c : UInt8) (x y : List UInt8) : Op.bytesLess (a :: x) (c :: y) = true ↔ a.toNat < c.toNat ∨ (a = c ∧ Op.bytesLess x y = true) := by
  simp [Op.bytesLess, UInt8.lt_iff_toNat_lt]
theorem bl_irrefl : ∀ l : List UInt8, Op.bytesLess l l = false
  | [] => rfl
  | a :: x => by rw [bl_same, bl_irrefl x]
theorem bl_trans : ∀ {l m n : List UInt8}, Op.bytesLess l m = true → Op.bytesLess m n = true → Op.bytesLess l n = true
  | _, [], _, h, _ => by rw [bl_nil] at h; cases h
  | _, _ :: _, [], _, h => by rw [bl_nil] at h; cases h
  | [], _ :: _, _ :: _, _, _ => rfl
  | a :: x, b :: y, c :: z, h1, h2 => by
    rw [bl_cons] at h1 h2 ⊢
    rcases h1 with h1 | ⟨rfl, h1⟩
    · rcases h2 with h2 | ⟨rfl, _⟩
      · exact .inl (by omega)
      · exact .inl h1
    · rcases h2 with h2 | ⟨rfl, h2⟩
      · exact .inl h2
      · exact .inr ⟨rfl, bl_trans h1 h2⟩
theorem bl_asym {l m : List UInt8} (h : Op.bytesLess l m = true) : Op.bytesLess m l = false := by
  cases h2 : Op.bytesLess m l
  · rfl
  · have := bl_trans h h2
    rw [bl_irrefl] at this
    cases this
theorem bl_tri : ∀ {l m : List UInt8}, Op.bytesLess l m = false → Op.bytesLess m l = false → l = m
  | [], [], _, _ => rfl
  | [], _ :: _, h, _ => by simp [Op.bytesLess] at h
  | _ :: _, [], _, h => by simp [Op.bytesLess] at h
  | a :: x, c :: y, h1, h2 => by
    have n1 : ¬ (a.toNat < c.toNat ∨ (a = c ∧ Op.bytesLess x y = true)) := by rw [← bl_cons, h1]; simp
    have n2 : ¬ (c.toNat < a.toNat ∨ (c = a ∧ Op.bytesLess y x = true)) := by rw [← bl_cons, h2]; simp
    have e : a = c := UInt8.toNat_inj.1 (by omega)
    subst e
    rw [bl_tri (l := x) (m := y) (by simpa using n1) (by simpa using n2)]

theorem less_asym {k i : Int} {s : ByteArray} {b : Bool} {k' i' : Int} {s' : ByteArray} {b' : Bool} (h : lessB k i s b k' i' s' b' = true) : lessB k' i' s' b' k i s b = false := by
  unfold lessB at h ⊢
  by_cases hk : k = k'
  · subst hk
    rw [if_pos rfl] at h ⊢
    by_cases h1 : k = 1
    · rw [if_pos h1] at h ⊢; simp at h ⊢; omega
    · rw [if_neg h1] at h ⊢
      by_cases h2 : k = 2
      · rw [if_pos h2] at h ⊢; exact bl_asym h
      · rw [if_neg h2] at h ⊢
        by_cases h3 : k = 3
        · rw [if_pos h3] at h ⊢; cases b <;> cases b' <;> simp_all
        · rw [if_neg h3] at h; cases h
  · rw [if_neg hk] at h; rw [if_neg (fun e => hk e.symm)]; simp at h ⊢; omega
theorem less_trans {k i : Int} {s : ByteArray} {b : Bool} {k' i' : Int} {s' : ByteArray} {b' : Bool} {k'' i'' : Int} {s'' : ByteArray} {b'' : Bool} (h : lessB k i s b k' i' s' b' = true) (g : lessB k' i' s' b' k'' i'' s'' b'' = true) : lessB k i s b k'' i'' s'' b'' = true := by
  unfold lessB at h g ⊢
  by_cases hk : k = k'
  · subst hk
    rw [if_pos rfl] at h
    by_cases hg : k = k''
    · subst hg
      rw [if_pos rfl] at g ⊢
      by_cases h1 : k = 1
      · rw [if_pos h1] at h g ⊢; simp at h g ⊢; omega
      · rw [if_neg h1] at h g ⊢
        by_cases h2 : k = 2
        · rw [if_pos h2] at h g ⊢; exact bl_trans h g
        · rw [if_neg h2] at h g ⊢
          by_cases h3 : k = 3
          · rw [if_pos h3] at h g ⊢; cases b <;> cases b' <;> simp_all
          · rw [if_neg h3] at h; cases h
    · rw [if_neg hg] at g ⊢; exact g
  · rw [if_neg hk] at h
    by_cases hg : k' = k''
    · subst hg; rw [if_neg hk]; exact h
    · rw [if_neg hg] at g
      simp at h g
      rw [if_neg (by omega)]
      simp; omega
theorem less_tri {k i : Int} {s : ByteArray} {b : Bool} {k' i' : Int} {s' : ByteArray} {b' : Bool} (r : rightB k i s b = true) (r' : rightB k' i' s' b' = true) (h : lessB k i s b k' i' s' b' = false) (g : lessB k' i' s' b' k i s b = false) : eqB k i s b k' i' s' b' = true := by
  rw [eqB_iff]
  unfold lessB at h g
  by_cases hk : k = k'
  · subst hk
    rw [if_pos rfl] at h g
    rcases right_cases r with ⟨rfl, e1, e2⟩ | ⟨rfl, e1, e2⟩ | ⟨rfl, e1, e2⟩
    · rcases right_cases r' with ⟨_, f1, f2⟩ | ⟨f0, _, _⟩ | ⟨f0, _, _⟩
      · rw [if_pos rfl] at h g
        simp at h g
        exact ⟨rfl, by omega, by rw [e1, f1], by rw [e2, f2]⟩
      · omega
      · omega
    · rcases right_cases r' with ⟨f0, _, _⟩ | ⟨_, f1, f2⟩ | ⟨f0, _, _⟩
      · omega
      · rw [if_neg (by decide), if_pos rfl] at h g
        exact ⟨rfl, by rw [e1, f1], bl_tri h g, by rw [e2, f2]⟩
      · omega
    · rcases right_cases r' with ⟨f0, _, _⟩ | ⟨f0, _, _⟩ | ⟨_, f1, f2⟩
      · omega
      · omega
      · rw [if_neg (by decide), if_neg (by decide), if_pos rfl] at h g
        exact ⟨rfl, by rw [e1, f1], by rw [e2, f2], by cases b <;> cases b' <;> simp_all⟩
  · rw [if_neg hk] at h
    rw [if_neg (fun e => hk e.symm)] at g
    simp at h g
    omega
theorem less_ne {k i : Int} {s : ByteArray} {b : Bool} {k' i' : Int} {s' : ByteArray} {b' : Bool} (h : lessB k i s b k' i' s' b' = true) : eqB k i s b k' i' s' b' = false := by
  cases he : eqB k i s b k' i' s' b'
  · rfl
  · obtain ⟨rfl, rfl, hs, rfl⟩ := (eqB_iff _ _ _ _ _ _ _ _).1 he
    have h2 := less_asym h
    unfold lessB at h h2
    rw [hs] at h
    rw [hs] at h2
    rw [h2] at h
    cases h
theorem eqB_comm (k i : Int) (s : ByteArray) (b : Bool) (k' i' : Int) (s' : ByteArray) (b' : Bool) : eqB k i s b k' i' s' b' = eqB k' i' s' b' k i s b := by
  refine Bool.eq_iff_iff.2 ?_
  rw [eqB_iff, eqB_iff]
  exact ⟨fun ⟨a, b, c, d⟩ => ⟨a.symm, b.symm, c.symm, d.symm⟩, fun ⟨a, b, c, d⟩ => ⟨a.symm, b.symm, c.symm, d.symm⟩⟩
end Go.Proofs.Ytjohiehlnbgdaaa
