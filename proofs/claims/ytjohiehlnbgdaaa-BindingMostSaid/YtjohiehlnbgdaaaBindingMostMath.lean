/- The law BindingMost's own loops, as plain data. -/
import Derived.Test.YtjohiehlnbgdaaaSlotMost
import Derived.Test.YtjohiehlnbgdaaaBindFew
import Derived.Test.YtjohiehlnbgdaaaBindSame
namespace Go.Proofs.Ytjohiehlnbgdaaa.bindingMost
open Go.RowKit
set_option linter.unusedVariables false

theorem put_len (WW : List (List Sd)) (X : List Sd) : (putL WW X).length ≤ WW.length + 1 ∧ 0 < (putL WW X).length := by
  unfold putL
  split
  · rename_i h
    exact ⟨by omega, List.length_pos_of_mem h⟩
  · have := atL_le X WW WW.length
    simp
    omega
theorem step_yes {LL WW : List (List Sd)} {B X : List Sd} {n : Nat} (hT : LL.take (n + 1) = LL.take n ++ [X]) (hm : ∀ A, A ∈ WW ↔ A ∈ LL.take n ∧ isMost LL B A) (hX : isMost LL B X) : ∀ A, A ∈ putL WW X ↔ A ∈ LL.take (n + 1) ∧ isMost LL B A := by
  intro A
  rw [put_mem, hm, hT, List.mem_append, List.mem_singleton]
  constructor
  · rintro (h | h)
    · exact ⟨.inr h, h ▸ hX⟩
    · exact ⟨.inl h.1, h.2⟩
  · rintro ⟨h | h, g⟩
    · exact .inr ⟨h, g⟩
    · exact .inl h
theorem step_no {LL WW : List (List Sd)} {B X : List Sd} {n : Nat} (hT : LL.take (n + 1) = LL.take n ++ [X]) (hm : ∀ A, A ∈ WW ↔ A ∈ LL.take n ∧ isMost LL B A) (hX : ¬ isMost LL B X) : ∀ A, A ∈ WW ↔ A ∈ LL.take (n + 1) ∧ isMost LL B A := by
  intro A
  rw [hm, hT, List.mem_append, List.mem_singleton]
  constructor
  · rintro ⟨h, g⟩
    exact ⟨.inl h, g⟩
  · rintro ⟨h | h, g⟩
    · exact ⟨h, g⟩
    · exact absurd (h ▸ g) hX
/-- What the inner loop has found of a binding. -/
def Found (LL : List (List Sd)) (B X : List Sd) (k : Nat) (r : Bool) : Prop := r = true ↔ underL X B = true ∧ ∀ C ∈ LL.take k, underL C B = true → X.length < C.length → underL X C = false
theorem found_keep {LL : List (List Sd)} {B X Y : List Sd} {k : Nat} {r : Bool} (hT : LL.take (k + 1) = LL.take k ++ [Y]) (h : Found LL B X k r) (hY : underL Y B = true → X.length < Y.length → underL X Y = false) : Found LL B X (k + 1) r := by
  unfold Found at *
  rw [h, hT]
  constructor
  · rintro ⟨h1, h2⟩
    refine ⟨h1, fun C hC => ?_⟩
    rcases List.mem_append.1 hC with g | g
    · exact h2 C g
    · rw [List.mem_singleton.1 g]; exact hY
  · rintro ⟨h1, h2⟩
    exact ⟨h1, fun C hC => h2 C (by simp [hC])⟩
theorem found_out {LL : List (List Sd)} {B X Y : List Sd} {k : Nat} (hT : LL.take (k + 1) = LL.take k ++ [Y]) (h1 : underL Y B = true) (h2 : X.length < Y.length) (h3 : underL X Y = true) : Found LL B X (k + 1) false := by
  unfold Found
  rw [hT]
  constructor
  · intro h; cases h
  · rintro ⟨_, h⟩
    have := h Y (by simp) h1 h2
    rw [h3] at this; cases this
theorem found_most {LL : List (List Sd)} {B X : List Sd} {k : Nat} {r : Bool} (hk : LL.length = k) (h : Found LL B X k r) : r = true ↔ isMost LL B X := by
  unfold Found at h
  rw [h, List.take_of_length_le (by omega)]
  rfl
end Go.Proofs.Ytjohiehlnbgdaaa.bindingMost
