/- The order of bindings; and lists of bindings that stand in it, each once. -/
import Derived.Test.YtjohiehlnbgdaaaDoorSlotPair
namespace Go.Proofs.YtjohiehlnbgdaaaDoor
open Go.RowKit
set_option linter.unusedVariables false

/-- All values may be. -/
def RVs (A : List Sd) : Prop := ∀ z ∈ A, rV z.v = true
theorem RVs.tl {z : Sd} {A : List Sd} (h : RVs (z :: A)) : rV z.v = true ∧ RVs A := ⟨h z (by simp), fun y hy => h y (by simp [hy])⟩
theorem RVs.of {A : List Sd} (h : rightL A = true) : RVs A := fun z hz => (rf_mem h z hz).2.2
theorem lexc {a b : Sd} {A B : List Sd} (ha : rV a.v = true) (hb : rV b.v = true) (h : cmpLex (a :: A) (b :: B) < 0) : (a = b ∧ cmpLex A B < 0) ∨ ltS a b = true := by
  rw [cmpLex] at h
  by_cases e : cmpS a b = 0
  · rw [if_pos e] at h
    exact .inl ⟨(cmpS_zero ha hb).1 e, h⟩
  · rw [if_neg e] at h
    exact .inr (by rw [← cmpS_lt]; exact decide_eq_true h)
theorem lexi {a b : Sd} {A B : List Sd} (ha : rV a.v = true) (hb : rV b.v = true) (h : (a = b ∧ cmpLex A B < 0) ∨ ltS a b = true) : cmpLex (a :: A) (b :: B) < 0 := by
  rw [cmpLex]
  rcases h with ⟨rfl, h⟩ | h
  · rw [if_pos ((cmpS_zero ha ha).2 rfl)]; exact h
  · rw [← cmpS_lt] at h
    have := of_decide_eq_true h
    rw [if_neg (by omega)]
    exact this
theorem lex_irrefl : ∀ {A : List Sd}, RVs A → ¬ cmpLex A A < 0
  | [], _ => by simp [cmpLex]
  | a :: A, h => fun g => by
    rcases lexc h.tl.1 h.tl.1 g with ⟨_, k⟩ | k
    · exact lex_irrefl h.tl.2 k
    · rw [ltS_swo.irrefl] at k; cases k
theorem lex_trans : ∀ {A B C : List Sd}, A.length = B.length → B.length = C.length → RVs A → RVs B → RVs C → cmpLex A B < 0 → cmpLex B C < 0 → cmpLex A C < 0
  | [], [], [], _, _, _, _, _, h, _ => h
  | a :: A, b :: B, c :: C, h1, h2, hA, hB, hC, g1, g2 => by
    rcases lexc hA.tl.1 hB.tl.1 g1 with ⟨rfl, k1⟩ | k1
    · rcases lexc hB.tl.1 hC.tl.1 g2 with ⟨rfl, k2⟩ | k2
      · exact lexi hA.tl.1 hC.tl.1 (.inl ⟨rfl, lex_trans (by simpa using h1) (by simpa using h2) hA.tl.2 hB.tl.2 hC.tl.2 k1 k2⟩)
      · exact lexi hA.tl.1 hC.tl.1 (.inr k2)
    · rcases lexc hB.tl.1 hC.tl.1 g2 with ⟨rfl, k2⟩ | k2
      · exact lexi hA.tl.1 hC.tl.1 (.inr k1)
      · exact lexi hA.tl.1 hC.tl.1 (.inr (ltS_swo.trans _ _ _ k1 k2))
  | [], [], _ :: _, _, h, _, _, _, _, _ => by simp at h
  | [], _ :: _, _, h, _, _, _, _, _, _ => by simp at h
  | _ :: _, [], _, h, _, _, _, _, _, _ => by simp at h
  | _ :: _, _ :: _, [], _, h, _, _, _, _, _ => by simp at h
theorem lex_tri : ∀ {A B : List Sd}, A.length = B.length → RVs A → RVs B → ¬ cmpLex A B < 0 → ¬ cmpLex B A < 0 → A = B
  | [], [], _, _, _, _, _ => rfl
  | a :: A, b :: B, h, hA, hB, g1, g2 => by
    have e : a = b := ltS_tri hA.tl.1 hB.tl.1 (by cases k : ltS a b; rfl; exact absurd (lexi hA.tl.1 hB.tl.1 (.inr k)) g1) (by cases k : ltS b a; rfl; exact absurd (lexi hB.tl.1 hA.tl.1 (.inr k)) g2)
    subst e
    rw [lex_tri (A := A) (B := B) (by simpa using h) hA.tl.2 hB.tl.2 (fun k => g1 (lexi hA.tl.1 hA.tl.1 (.inl ⟨rfl, k⟩))) (fun k => g2 (lexi hA.tl.1 hA.tl.1 (.inl ⟨rfl, k⟩)))]
  | [], _ :: _, h, _, _, _, _ => by simp at h
  | _ :: _, [], h, _, _, _, _ => by simp at h

/-- Ahead of. -/
def Lt (A B : List Sd) : Prop := cmpL A B < 0
theorem Lt_iff (A B : List Sd) : Lt A B ↔ A.length < B.length ∨ (A.length = B.length ∧ cmpLex A B < 0) := by
  unfold Lt cmpL
  by_cases h : A.length = B.length
  · rw [if_pos h]
    exact ⟨fun k => .inr ⟨h, k⟩, fun k => k.elim (fun k => by omega) (·.2)⟩
  · rw [if_neg h]
    unfold Lib.compareInt
    constructor
    · intro k
      split at k
      · left; omega
      · split at k <;> omega
    · rintro (k | k)
      · rw [if_pos (by omega)]; omega
      · exact absurd k.1 h
theorem Lt.irrefl {A : List Sd} (h : RVs A) : ¬ Lt A A := fun g => by
  rcases (Lt_iff _ _).1 g with k | k
  · omega
  · exact lex_irrefl h k.2
theorem Lt.trans {A B C : List Sd} (hA : RVs A) (hB : RVs B) (hC : RVs C) (h : Lt A B) (g : Lt B C) : Lt A C := by
  rw [Lt_iff] at h g ⊢
  rcases h with h | ⟨h, h'⟩
  · rcases g with g | ⟨g, g'⟩ <;> (left; omega)
  · rcases g with g | ⟨g, g'⟩
    · left; omega
    · exact .inr ⟨h.trans g, lex_trans h g hA hB hC h' g'⟩
theorem Lt.tri {A B : List Sd} (hA : RVs A) (hB : RVs B) (h : ¬ Lt A B) (g : ¬ Lt B A) : A = B := by
  rw [Lt_iff] at h g
  have e : A.length = B.length := by omega
  exact lex_tri e hA hB (fun k => h (.inr ⟨e, k⟩)) (fun k => g (.inr ⟨e.symm, k⟩))
theorem Lt.ntrans {A B C : List Sd} (hA : RVs A) (hB : RVs B) (hC : RVs C) (h : ¬ Lt A B) (g : ¬ Lt B C) : ¬ Lt A C := fun k => by
  by_cases e : Lt B A
  · exact g (Lt.trans hB hA hC e k)
  · exact g (by rw [← Lt.tri hA hB h e]; exact k)
theorem lt_ref {A B : List Sd} (hA : RVs A) (hB : RVs B) : refLessL A B = true ↔ Lt A B := by
  rw [← less_ref hA hB]
  unfold Lt
  exact decide_eq_true_iff

/-- Bindings in their order, each once. -/
def Rise (LL : List (List Sd)) : Prop := LL.Pairwise Lt
theorem rise_same : ∀ {LL MM : List (List Sd)}, (∀ A ∈ LL, RVs A) → (∀ A ∈ MM, RVs A) → Rise LL → Rise MM → (∀ A, A ∈ LL ↔ A ∈ MM) → LL = MM
  | [], [], _, _, _, _, _ => rfl
  | [], B :: MM, _, _, _, _, h => by have := (h B).2 (by simp); simp at this
  | A :: LL, [], _, _, _, _, h => by have := (h A).1 (by simp); simp at this
  | A :: LL, B :: MM, hL, hM, rL, rM, h => by
    have rL' := List.pairwise_cons.1 rL
    have rM' := List.pairwise_cons.1 rM
    have e : A = B := by
      rcases List.mem_cons.1 ((h A).1 (by simp)) with e | e
      · exact e
      · rcases List.mem_cons.1 ((h B).2 (by simp)) with k | k
        · exact k.symm
        · exact absurd (Lt.trans (hL A (by simp)) (hM B (by simp)) (hL A (by simp)) (rL'.1 B k) (rM'.1 A e)) (Lt.irrefl (hL A (by simp)))
    subst e
    rw [rise_same (LL := LL) (MM := MM) (fun C hC => hL C (by simp [hC])) (fun C hC => hM C (by simp [hC])) rL'.2 rM'.2 (fun C => ?_)]
    constructor
    · intro hC
      rcases List.mem_cons.1 ((h C).1 (by simp [hC])) with k | k
      · exact absurd (k ▸ rL'.1 C hC) (Lt.irrefl (hL _ (by simp)))
      · exact k
    · intro hC
      rcases List.mem_cons.1 ((h C).2 (by simp [hC])) with k | k
      · exact absurd (k ▸ rM'.1 C hC) (Lt.irrefl (hM _ (by simp)))
      · exact k
/-- Of bindings that may be, the one under the other has fewer slots. -/
theorem sub_len : ∀ {B A : List Sd} {lo : Int}, rightFrom lo A = true → rightFrom lo B = true → (∀ z ∈ A, z ∈ B) → A.length ≤ B.length ∧ (A.length = B.length → A = B)
  | [], [], _, _, _, _ => ⟨Nat.le_refl _, fun _ => rfl⟩
  | [], a :: A, _, _, _, h => by have := h a (by simp); simp at this
  | b :: B, [], _, _, _, _ => ⟨by simp, fun h => by simp at h⟩
  | b :: B, a :: A, lo, hA, hB, h => by
    obtain ⟨a1, a2, a3, a4⟩ := rf_parts hA
    obtain ⟨b1, b2, b3, b4⟩ := rf_parts hB
    have hm : ∀ z ∈ A, a.x + 1 ≤ z.x := fun z hz => (rf_mem a4 z hz).1
    by_cases e : a = b
    · subst e
      have k := sub_len (B := B) (A := A) a4 b4 (fun z hz => by
        rcases List.mem_cons.1 (h z (by simp [hz])) with k | k
        · have := hm z hz; rw [k] at this; omega
        · exact k)
      exact ⟨by simpa using k.1, fun g => by rw [k.2 (by simpa using g)]⟩
    · have ha : a ∈ B := (List.mem_cons.1 (h a (by simp))).resolve_left e
      have hx := (rf_mem b4 a ha).1
      have k := sub_len (B := B) (A := a :: A) (rf_up hA hx) b4 (fun z hz => by
        rcases List.mem_cons.1 (h z hz) with k | k
        · rcases List.mem_cons.1 hz with g | g
          · exact absurd (g.symm.trans k) e
          · have := hm z g; rw [k] at this; omega
        · exact k)
      exact ⟨by have := k.1; simp at this ⊢; omega, fun g => by have := k.1; simp at this g; omega⟩
theorem under_iff (A B : List Sd) : underL A B = true ↔ ∀ z ∈ A, z ∈ B := by simp [underL]
theorem under_len {A B : List Sd} (hA : rightL A = true) (hB : rightL B = true) (h : underL A B = true) (hne : A ≠ B) : A.length < B.length := by
  have k := sub_len hA hB ((under_iff A B).1 h)
  rcases Nat.lt_or_ge A.length B.length with g | g
  · exact g
  · exact absurd (k.2 (by omega)) hne
theorem under_refl (A : List Sd) : underL A A = true := (under_iff A A).2 (fun _ h => h)
end Go.Proofs.YtjohiehlnbgdaaaDoor
