/- Which bindings Most asks for, and that they stand in one order only. -/
import Derived.Test.YtjohiehlnbgdaaaDoorSlotLt
import Derived.Test.YtjohiehlnbgdaaaDoorSlotPut
namespace Go.Proofs.YtjohiehlnbgdaaaDoor
open Go.RowKit
set_option linter.unusedVariables false

/-- Put keeps the order, and adds the one. -/
theorem atL_told (B : List Sd) (LL : List (List Sd)) : ∀ n, (∀ j, atL B LL n ≤ j → j < n → refLessL B (LL.getD j []) = true) ∧ (atL B LL n = 0 ∨ refLessL B (LL.getD (atL B LL n - 1) []) = false)
  | 0 => ⟨fun j _ h => by omega, .inl rfl⟩
  | n + 1 => by
    rw [atL]
    cases h : refLessL B (LL.getD n [])
    · refine ⟨fun j h1 h2 => ?_, .inr ?_⟩
      · simp at h1; omega
      · simpa using h
    · have k := atL_told B LL n
      simp only [if_true]
      refine ⟨fun j h1 h2 => ?_, k.2⟩
      rcases Nat.lt_or_ge j n with g | g
      · exact k.1 j h1 g
      · obtain rfl : j = n := by omega
        exact h
theorem put_mem (LL : List (List Sd)) (B A : List Sd) : A ∈ putL LL B ↔ A = B ∨ A ∈ LL := by
  unfold putL
  split
  · rename_i h
    exact ⟨.inr, fun k => k.elim (fun k => k ▸ h) id⟩
  · rw [List.mem_append, List.mem_append, List.mem_singleton]
    conv => rhs; rw [← List.take_append_drop (atL B LL LL.length) LL, List.mem_append]
    constructor
    · rintro ((h | h) | h)
      · exact .inr (.inl h)
      · exact .inl h
      · exact .inr (.inr h)
    · rintro (h | h | h)
      · exact .inl (.inr h)
      · exact .inl (.inl h)
      · exact .inr h
theorem put_rise {LL : List (List Sd)} {B : List Sd} (hL : ∀ A ∈ LL, RVs A) (hB : RVs B) (h : Rise LL) : Rise (putL LL B) := by
  unfold putL
  split
  · exact h
  · rename_i hm
    have hat := atL_told B LL LL.length
    have hle := atL_le B LL LL.length
    generalize atL B LL LL.length = m at hat hle
    have hge : ∀ j (hj : j < LL.length), LL.getD j [] = LL[j] := fun j hj => by simp [List.getD, hj]
    have hdrop : ∀ A ∈ LL.drop m, Lt B A := by
      intro A hA
      obtain ⟨j, hj, rfl⟩ := List.getElem_of_mem hA
      rw [List.length_drop] at hj
      rw [List.getElem_drop]
      have := hat.1 (m + j) (by omega) (by omega)
      rw [hge _ (by omega)] at this
      exact (lt_ref hB (hL _ (List.getElem_mem _))).1 this
    have htake : ∀ A ∈ LL.take m, Lt A B := by
      intro A hA
      obtain ⟨j, hj, rfl⟩ := List.getElem_of_mem hA
      rw [List.length_take] at hj
      rw [List.getElem_take]
      have hm0 : m ≠ 0 := by omega
      have h1 := hat.2.resolve_left hm0
      rw [hge _ (by omega)] at h1
      have hl : Lt LL[m - 1] B := by
        by_cases k : Lt LL[m - 1] B
        · exact k
        · exact absurd (Lt.tri (hL _ (List.getElem_mem _)) hB k (fun g => by rw [(lt_ref hB (hL _ (List.getElem_mem _))).2 g] at h1; cases h1)) (fun e => hm (e ▸ List.getElem_mem _))
      rcases Nat.lt_or_ge j (m - 1) with g | g
      · exact Lt.trans (hL _ (List.getElem_mem _)) (hL _ (List.getElem_mem _)) hB (List.pairwise_iff_getElem.1 h j (m - 1) (by omega) (by omega) g) hl
      · have e : j = m - 1 := by omega
        subst e; exact hl
    rw [Rise, List.append_assoc, List.pairwise_append]
    have h2 : (LL.take m ++ LL.drop m).Pairwise Lt := by rw [List.take_append_drop]; exact h
    rw [List.pairwise_append] at h2
    refine ⟨h2.1, List.pairwise_cons.2 ⟨hdrop, h2.2.1⟩, fun A hA C hC => ?_⟩
    rcases List.mem_cons.1 hC with k | k
    · rw [k]; exact htake A hA
    · exact h2.2.2 A hA C k

/-- One that Most keeps. -/
def isMost (LL : List (List Sd)) (B A : List Sd) : Prop := underL A B = true ∧ ∀ C ∈ LL, underL C B = true → A.length < C.length → underL A C = false
/-- Most's second loop: those of sorted bindings that are under none behind them. -/
def keepL : List (List Sd) → List (List Sd)
  | [] => []
  | A :: SS => if SS.any (underL A) then keepL SS else A :: keepL SS
theorem keep_mem : ∀ {SS : List (List Sd)} {A : List Sd}, A ∈ keepL SS → A ∈ SS
  | [], _, h => h
  | C :: SS, A, h => by
    rw [keepL] at h
    split at h
    · exact List.mem_cons_of_mem _ (keep_mem h)
    · rcases List.mem_cons.1 h with k | k
      · rw [k]; simp
      · exact List.mem_cons_of_mem _ (keep_mem k)
/-- Bindings in their order. -/
def SortL (SS : List (List Sd)) : Prop := SS.Pairwise (fun A B => ¬ Lt B A)
theorem keep_rise : ∀ {SS : List (List Sd)}, (∀ A ∈ SS, RVs A) → SortL SS → Rise (keepL SS)
  | [], _, _ => List.Pairwise.nil
  | A :: SS, hR, h => by
    have h' := List.pairwise_cons.1 h
    have k := keep_rise (fun C hC => hR C (by simp [hC])) h'.2
    rw [keepL]
    split
    · exact k
    · rename_i hn
      refine List.pairwise_cons.2 ⟨fun C hC => ?_, k⟩
      have hC' := keep_mem hC
      by_cases g : Lt A C
      · exact g
      · exact absurd (List.any_eq_true.2 ⟨C, hC', by rw [Lt.tri (hR A (by simp)) (hR C (by simp [hC'])) g (h'.1 C hC')]; exact under_refl C⟩) hn
theorem keep_iff : ∀ {SS : List (List Sd)}, (∀ A ∈ SS, rightL A = true) → SortL SS → ∀ A, A ∈ keepL SS ↔ A ∈ SS ∧ ∀ C ∈ SS, A.length < C.length → underL A C = false
  | [], _, _, A => by simp [keepL]
  | D :: SS, hR, h, A => by
    have h' := List.pairwise_cons.1 h
    have hR' : ∀ C ∈ SS, rightL C = true := fun C hC => hR C (by simp [hC])
    have k := keep_iff hR' h'.2 A
    have hno : ∀ C ∈ SS, C.length < D.length → False := fun C hC hl => h'.1 C hC ((Lt_iff _ _).2 (.inl hl))
    rw [keepL]
    split
    · rename_i hs
      obtain ⟨E, hE, hu⟩ := List.any_eq_true.1 hs
      rw [k]
      constructor
      · rintro ⟨h1, h2⟩
        refine ⟨by simp [h1], fun C hC hl => ?_⟩
        rcases List.mem_cons.1 hC with g | g
        · subst g; exact (hno A h1 hl).elim
        · exact h2 C g hl
      · rintro ⟨h1, h2⟩
        refine ⟨?_, fun C hC => h2 C (by simp [hC])⟩
        rcases List.mem_cons.1 h1 with g | g
        · by_cases e : A = E
          · rw [e]; exact hE
          · have := h2 E (by simp [hE]) (under_len (hR A (by rw [g]; simp)) (hR' E hE) (g ▸ hu) e)
            rw [g, hu] at this; cases this
        · exact g
    · rename_i hs
      have hs' : ∀ C ∈ SS, underL D C = false := fun C hC => by
        cases g : underL D C
        · rfl
        · exact absurd (List.any_eq_true.2 ⟨C, hC, g⟩) hs
      rw [List.mem_cons, k]
      constructor
      · rintro (h1 | ⟨h1, h2⟩)
        · subst h1
          refine ⟨by simp, fun C hC hl => ?_⟩
          rcases List.mem_cons.1 hC with g | g
          · rw [g] at hl; omega
          · exact hs' C g
        · refine ⟨by simp [h1], fun C hC hl => ?_⟩
          rcases List.mem_cons.1 hC with g | g
          · subst g; exact (hno A h1 hl).elim
          · exact h2 C g hl
      · rintro ⟨h1, h2⟩
        rcases List.mem_cons.1 h1 with g | g
        · exact .inl g
        · exact .inr ⟨g, fun C hC => h2 C (by simp [hC])⟩
/-- Two ways to Most. -/
theorem most_same {LL SS WW : List (List Sd)} {B : List Sd} (hR : ∀ A ∈ LL, rightL A = true) (hp : SS.Perm (LL.filter (fun A => underL A B))) (hs : SortL SS) (hw : Rise WW) (hm : ∀ A, A ∈ WW ↔ A ∈ LL ∧ isMost LL B A) : keepL SS = WW := by
  have hin : ∀ A, A ∈ SS ↔ A ∈ LL ∧ underL A B = true := fun A => by rw [hp.mem_iff, List.mem_filter]
  have hRS : ∀ A ∈ SS, rightL A = true := fun A hA => hR A ((hin A).1 hA).1
  refine rise_same (fun A hA => RVs.of (hRS A (keep_mem hA))) (fun A hA => RVs.of (hR A ((hm A).1 hA).1)) (keep_rise (fun A hA => RVs.of (hRS A hA)) hs) hw (fun A => ?_)
  rw [keep_iff hRS hs, hm, hin]
  unfold isMost
  constructor
  · rintro ⟨⟨h1, h2⟩, h3⟩
    exact ⟨h1, h2, fun C hC hu hl => h3 C ((hin C).2 ⟨hC, hu⟩) hl⟩
  · rintro ⟨h1, h2, h3⟩
    exact ⟨⟨h1, h2⟩, fun C hC hl => h3 C ((hin C).1 hC).1 ((hin C).1 hC).2 hl⟩
end Go.Proofs.YtjohiehlnbgdaaaDoor
