/- The bindings that lack one slot, as plain data: the one that lacks a later slot is ahead. -/
import Derived.Test.YtjohiehlnbgdaaaDoorSlotMostMath
namespace Go.Proofs.YtjohiehlnbgdaaaDoor
open Go.RowKit
set_option linter.unusedVariables false

/-- A binding without one of its slots. -/
def outL (L : List Sd) (i : Nat) : List Sd := L.eraseIdx i
theorem outL_eq (L : List Sd) (i : Nat) : outL L i = L.take i ++ L.drop (i + 1) := List.eraseIdx_eq_take_drop_succ L i
theorem outL_len {L : List Sd} {i : Nat} (h : i < L.length) : (outL L i).length = L.length - 1 := by
  rw [outL, List.length_eraseIdx_of_lt h]
theorem outL_rv {L : List Sd} {lo : Int} (h : rightFrom lo L = true) (i : Nat) : RVs (outL L i) := fun z hz => (rf_mem h z (List.mem_of_mem_eraseIdx hz)).2.2
theorem out_lex : ∀ {L : List Sd} {lo : Int} {i j : Nat}, rightFrom lo L = true → j < i → i < L.length → cmpLex (L.eraseIdx i) (L.eraseIdx j) < 0
  | [], _, _, _, _, _, h => by simp at h
  | z :: M, lo, i, j, h, hji, hi => by
    obtain ⟨h1, h2, h3, h4⟩ := rf_parts h
    obtain ⟨i', rfl⟩ : ∃ i', i = i' + 1 := ⟨i - 1, by omega⟩
    cases j with
    | zero =>
      cases M with
      | nil => simp at hi
      | cons y M =>
        obtain ⟨g1, _, g3, _⟩ := rf_parts h4
        rw [List.eraseIdx_cons_succ, List.eraseIdx_cons_zero]
        exact lexi h3 g3 (.inr ((ltS_iff z y).2 (.inl (by omega))))
    | succ j =>
      rw [List.eraseIdx_cons_succ, List.eraseIdx_cons_succ]
      exact lexi h3 h3 (.inl ⟨rfl, out_lex h4 (by omega) (by simpa using hi)⟩)
theorem out_lt {L : List Sd} {i j : Nat} (h : rightL L = true) (hji : j < i) (hi : i < L.length) : Lt (outL L i) (outL L j) := by
  rw [Lt_iff]
  exact .inr ⟨by rw [outL_len hi, outL_len (by omega)], out_lex h hji hi⟩
/-- Those that lack one of the first n slots, the later one ahead. -/
def outsL (L : List Sd) : Nat → List (List Sd)
  | 0 => []
  | n + 1 => outL L n :: outsL L n
theorem outs_mem {L : List Sd} : ∀ {n : Nat} {A : List Sd}, A ∈ outsL L n → ∃ j, j < n ∧ A = outL L j
  | 0, _, h => by simp [outsL] at h
  | n + 1, A, h => by
    rcases List.mem_cons.1 h with e | e
    · exact ⟨n, by omega, e⟩
    · obtain ⟨j, hj, k⟩ := outs_mem e
      exact ⟨j, by omega, k⟩
theorem outs_len (L : List Sd) : ∀ n, (outsL L n).length = n
  | 0 => rfl
  | n + 1 => by rw [outsL, List.length_cons, outs_len L n]
theorem atL_zero {B : List Sd} {LL : List (List Sd)} (h : ∀ A ∈ LL, refLessL B A = true) : ∀ n, n ≤ LL.length → atL B LL n = 0
  | 0, _ => rfl
  | n + 1, hn => by
    have hm : LL.getD n [] ∈ LL := by
      have : LL.getD n [] = LL[n] := by simp [List.getD, show n < LL.length by omega]
      rw [this]; exact List.getElem_mem _
    rw [atL, h _ hm]
    exact atL_zero h n (by omega)
/-- Put puts the next one ahead of all. -/
theorem put_out {L : List Sd} {n : Nat} (h : rightL L = true) (hn : n < L.length) : putL (outsL L n) (outL L n) = outsL L (n + 1) := by
  have hlt : ∀ A ∈ outsL L n, Lt (outL L n) A := fun A hA => by
    obtain ⟨j, hj, rfl⟩ := outs_mem hA
    exact out_lt h hj hn
  have hno : outL L n ∉ outsL L n := fun hm => Lt.irrefl (outL_rv h n) (hlt _ hm)
  rw [putL, if_neg hno, atL_zero (fun A hA => by
    obtain ⟨j, hj, e⟩ := outs_mem hA
    exact (lt_ref (outL_rv h n) (by rw [e]; exact outL_rv h j)).2 (hlt A hA)) _ (Nat.le_refl _)]
  rfl
end Go.Proofs.YtjohiehlnbgdaaaDoor
