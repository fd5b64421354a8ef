/- Bindings as plain data: what may be is one by its slots, and how the reference's Union makes it. -/
import Derived.Test.YtjohiehlnbgdaaaDoorSlotRefUnion
import Derived.Test.YtjohiehlnbgdaaaDoorSlotRight
namespace Go.Proofs.YtjohiehlnbgdaaaDoor
open Go.RowKit
set_option linter.unusedVariables false

theorem rf_parts {lo : Int} {z : Sd} {M : List Sd} (h : rightFrom lo (z :: M) = true) : lo ≤ z.x ∧ z.x ≤ 7 ∧ rV z.v = true ∧ rightFrom (z.x + 1) M = true := by
  simp only [rightFrom, Bool.and_eq_true, decide_eq_true_eq] at h
  exact ⟨h.1.1.1, h.1.1.2, h.1.2, h.2⟩
theorem rf_mem : ∀ {M : List Sd} {lo : Int}, rightFrom lo M = true → ∀ z ∈ M, lo ≤ z.x ∧ z.x ≤ 7 ∧ rV z.v = true
  | [], _, _, _, h => by simp at h
  | a :: M, lo, h, z, hz => by
    obtain ⟨h1, h2, h3, h4⟩ := rf_parts h
    rcases List.mem_cons.1 hz with rfl | hz
    · exact ⟨h1, h2, h3⟩
    · obtain ⟨g1, g2, g3⟩ := rf_mem h4 z hz
      exact ⟨by omega, g2, g3⟩
/-- The least variable that may come behind slots. -/
def endX (lo : Int) (M : List Sd) : Int := match M.getLast? with
  | none => lo
  | some z => z.x + 1
theorem endX_cons (lo : Int) (z : Sd) (M : List Sd) : endX lo (z :: M) = endX (z.x + 1) M := by
  unfold endX
  cases M with
  | nil => rfl
  | cons y M => rw [List.getLast?_cons_cons, ← List.getLast?_cons_cons (a := y)]; simp [List.getLast?_cons]
theorem rf_snoc : ∀ (M : List Sd) (lo : Int) (z : Sd), rightFrom lo (M ++ [z]) = (rightFrom lo M && (decide (endX lo M ≤ z.x) && decide (z.x ≤ 7) && rV z.v))
  | [], lo, z => by
    rw [List.nil_append]
    simp only [rightFrom, Bool.and_true, Bool.true_and]
    rfl
  | a :: M, lo, z => by
    rw [List.cons_append, rightFrom, rf_snoc M (a.x + 1) z, rightFrom, endX_cons]
    simp only [Bool.and_assoc]
theorem right_same : ∀ {M N : List Sd} {lo lo' : Int}, rightFrom lo M = true → rightFrom lo' N = true → (∀ z, z ∈ M ↔ z ∈ N) → M = N
  | [], [], _, _, _, _, _ => rfl
  | [], b :: N, _, _, _, _, h => by have := (h b).2 (by simp); simp at this
  | a :: M, [], _, _, _, _, h => by have := (h a).1 (by simp); simp at this
  | a :: M, b :: N, lo, lo', hM, hN, h => by
    obtain ⟨_, _, _, h4⟩ := rf_parts hM
    obtain ⟨_, _, _, g4⟩ := rf_parts hN
    have e : a = b := by
      rcases List.mem_cons.1 ((h a).1 (by simp)) with e | e
      · exact e
      · rcases List.mem_cons.1 ((h b).2 (by simp)) with e' | e'
        · exact e'.symm
        · have := (rf_mem g4 a e).1
          have := (rf_mem h4 b e').1
          omega
    subst e
    rw [right_same h4 g4 (fun z => ?_)]
    constructor
    · intro hz
      rcases List.mem_cons.1 ((h z).1 (by simp [hz])) with rfl | e
      · have := (rf_mem h4 z hz).1; omega
      · exact e
    · intro hz
      rcases List.mem_cons.1 ((h z).2 (by simp [hz])) with rfl | e
      · have := (rf_mem g4 z hz).1; omega
      · exact e
theorem get_iff : ∀ {M : List Sd} {lo : Int}, rightFrom lo M = true → ∀ (x : Int) (v : Vd), getL M x = some v ↔ (⟨x, v⟩ : Sd) ∈ M
  | [], _, _, x, v => by simp [getL]
  | a :: M, lo, h, x, v => by
    obtain ⟨h1, h2, h3, h4⟩ := rf_parts h
    rw [get_cons, List.mem_cons]
    by_cases hx : a.x = x
    · rw [if_pos hx]
      constructor
      · intro e
        cases e
        exact .inl (by cases a; simp_all)
      · rintro (rfl | e)
        · rfl
        · have := (rf_mem h4 _ e).1
          simp only at this
          omega
    · rw [if_neg hx, get_iff h4 x v]
      constructor
      · exact .inr
      · rintro (rfl | e)
        · exact absurd rfl hx
        · exact e
theorem get_mem : ∀ {M : List Sd} {x : Int} {v : Vd}, getL M x = some v → (⟨x, v⟩ : Sd) ∈ M
  | [], _, _, h => by simp [getL] at h
  | a :: M, x, v, h => by
    rw [get_cons] at h
    split at h
    · rename_i hx
      cases h
      subst hx
      simp
    · exact List.mem_cons_of_mem _ (get_mem h)
theorem getB_eq (M : List Sd) (x : Int) : getB M x = true ↔ ∃ v, getL M x = some v := by
  unfold getB; rw [Option.isSome_iff_exists]

theorem uniOne_mem (A B : List Sd) (n : Nat) (z : Sd) : z ∈ uniOne A B n ↔ z.x = n ∧ (getL A z.x = some z.v ∨ getL A z.x = none ∧ getL B z.x = some z.v) := by
  obtain ⟨x, v⟩ := z
  unfold uniOne getB getV
  cases ha : getL A n with
  | some p =>
    simp only [Option.isSome_some, if_true, Option.getD_some, List.mem_singleton, Sd.mk.injEq]
    constructor
    · rintro ⟨rfl, rfl⟩; exact ⟨rfl, .inl ha⟩
    · rintro ⟨rfl, h⟩
      rcases h with h | ⟨h, _⟩
      · rw [ha] at h; cases h; exact ⟨rfl, rfl⟩
      · rw [ha] at h; cases h
  | none =>
    cases hb : getL B n with
    | some p =>
      simp only [Option.isSome_none, Option.isSome_some, if_true, Option.getD_some, List.mem_singleton, Sd.mk.injEq, Bool.false_eq_true, if_false]
      constructor
      · rintro ⟨rfl, rfl⟩; exact ⟨rfl, .inr ⟨ha, hb⟩⟩
      · rintro ⟨rfl, h⟩
        rcases h with h | ⟨_, h⟩
        · rw [ha] at h; cases h
        · rw [hb] at h; cases h; exact ⟨rfl, rfl⟩
    | none =>
      simp only [Option.isSome_none, Bool.false_eq_true, if_false, List.not_mem_nil, false_iff]
      rintro ⟨rfl, h⟩
      rcases h with h | ⟨_, h⟩
      · rw [ha] at h; cases h
      · rw [hb] at h; cases h
theorem unionR_mem (A B : List Sd) : ∀ (n : Nat) (z : Sd), z ∈ unionR A B n ↔ (0 ≤ z.x ∧ z.x < n) ∧ (getL A z.x = some z.v ∨ getL A z.x = none ∧ getL B z.x = some z.v)
  | 0, z => by simp [unionR]; omega
  | n + 1, z => by
    rw [unionR, List.mem_append, unionR_mem A B n z, uniOne_mem]
    constructor
    · rintro (⟨h1, h2⟩ | ⟨h1, h2⟩)
      · exact ⟨by omega, h2⟩
      · exact ⟨by omega, h2⟩
    · rintro ⟨h1, h2⟩
      by_cases e : z.x = n
      · exact .inr ⟨e, h2⟩
      · exact .inl ⟨by omega, h2⟩
theorem unionR_end (A B : List Sd) : ∀ n : Nat, endX 0 (unionR A B n) ≤ n
  | 0 => by simp [unionR, endX]
  | n + 1 => by
    have h1 := unionR_end A B n
    rw [unionR]
    unfold uniOne
    split
    · simp [endX]
    · split
      · simp [endX]
      · rw [List.append_nil]; omega
theorem unionR_right {A B : List Sd} (hA : ∀ z ∈ A, rV z.v = true) (hB : ∀ z ∈ B, rV z.v = true) : ∀ n : Nat, n ≤ 8 → rightFrom 0 (unionR A B n) = true
  | 0, _ => rfl
  | n + 1, hn => by
    have h1 := unionR_right hA hB n (by omega)
    have h2 := unionR_end A B n
    rw [unionR]
    unfold uniOne
    split
    · rename_i hg
      obtain ⟨v, hv⟩ := (getB_eq _ _).1 hg
      rw [rf_snoc, h1, getV_some hv, hA _ (get_mem hv)]
      simp
      omega
    · split
      · rename_i hg
        obtain ⟨v, hv⟩ := (getB_eq _ _).1 hg
        rw [rf_snoc, h1, getV_some hv, hB _ (get_mem hv)]
        simp
        omega
      · rw [List.append_nil]; exact h1
end Go.Proofs.YtjohiehlnbgdaaaDoor
