/- Two bindings that may be, as plain data: what is told of them by the code is what the reference tells. -/
import Derived.Test.YtjohiehlnbgdaaaDoorSlotPlain
import Derived.Test.YtjohiehlnbgdaaaDoorSlotUnder
import Derived.Test.YtjohiehlnbgdaaaDoorSlotRefUnder
import Derived.Test.YtjohiehlnbgdaaaDoorSlotUnion
import Derived.Test.YtjohiehlnbgdaaaDoorSlotCompare
import Derived.Test.YtjohiehlnbgdaaaDoorSlotRefLess
import Derived.Test.YtjohiehlnbgdaaaDoorSlotOrder
namespace Go.Proofs.YtjohiehlnbgdaaaDoor
open Go.RowKit
set_option linter.unusedVariables false

theorem refOk_iff {B : List Sd} (h : rightL B = true) (z : Sd) : refUnderOk B z = true ↔ z ∈ B := by
  have := get_iff h z.x z.v
  unfold refUnderOk
  rw [Bool.and_eq_true, decide_eq_true_eq]
  constructor
  · rintro ⟨h1, h2⟩
    obtain ⟨v, hv⟩ := (getB_eq _ _).1 h1
    rw [getV_some hv] at h2
    subst h2
    exact this.1 hv
  · intro hz
    have h1 := this.2 hz
    exact ⟨getB_some h1, getV_some h1⟩
theorem under_ref {A B : List Sd} (h : rightL B = true) : underL A B = refUnderL A B := by
  unfold underL refUnderL
  rw [Bool.eq_iff_iff, List.all_eq_true, List.all_eq_true]
  exact ⟨fun g z hz => (refOk_iff h z).2 (by simpa using g z hz), fun g z hz => by simpa using (refOk_iff h z).1 (g z hz)⟩

theorem cmpS_zero {a b : Sd} (ha : rV a.v = true) (hb : rV b.v = true) : cmpS a b = 0 ↔ a = b := by
  constructor
  · intro h
    refine ltS_tri ha hb ?_ ?_
    · rw [← cmpS_lt, h]; rfl
    · unfold cmpS at h
      by_cases e : a.x = b.x
      · rw [if_pos e] at h
        rw [ltS_no]
        cases h1 : lessD a.v b.v
        · cases h2 : lessD b.v a.v
          · exact .inr ⟨e.symm, rfl⟩
          · rw [h1, h2] at h; simp at h
        · rw [h1] at h; simp at h
      · rw [if_neg e] at h
        unfold Lib.compareInt at h
        split at h
        · omega
        · split at h
          · omega
          · omega
  · rintro rfl
    unfold cmpS
    rw [if_pos rfl, lessD_irrefl]
    rfl
theorem lex_ref : ∀ {A B : List Sd}, A.length = B.length → (∀ z ∈ A, rV z.v = true) → (∀ z ∈ B, rV z.v = true) → decide (cmpLex A B < 0) = refLex A B
  | [], [], _, _, _ => by simp [cmpLex, refLex]
  | a :: A, b :: B, h, hA, hB => by
    have ha := hA a (by simp)
    have hb := hB b (by simp)
    have ih := lex_ref (A := A) (B := B) (by simpa using h) (fun z hz => hA z (by simp [hz])) (fun z hz => hB z (by simp [hz]))
    rw [cmpLex, refLex]
    by_cases e : a = b
    · rw [if_pos ((cmpS_zero ha hb).2 e), ih]
      subst e
      rw [if_pos rfl, if_pos rfl]
    · rw [if_neg (fun h => e ((cmpS_zero ha hb).1 h)), cmpS_lt]
      unfold ltS
      by_cases hx : a.x = b.x
      · have hv : a.v ≠ b.v := fun hv => e (by cases a; cases b; simp_all)
        rw [if_pos hx, if_neg hv]
        simp [hx]
      · rw [if_neg hx]
        simp [hx]
  | [], _ :: _, h, _, _ => by simp at h
  | _ :: _, [], h, _, _ => by simp at h
theorem less_ref {A B : List Sd} (hA : ∀ z ∈ A, rV z.v = true) (hB : ∀ z ∈ B, rV z.v = true) : decide (cmpL A B < 0) = refLessL A B := by
  unfold cmpL refLessL
  by_cases h : A.length = B.length
  · rw [if_pos h, if_pos h]; exact lex_ref h hA hB
  · rw [if_neg h, if_neg h]
    unfold Lib.compareInt
    by_cases h1 : A.length < B.length
    · rw [if_pos (by omega)]; simp [h1]
    · rw [if_neg (by omega), if_pos (by omega)]; simp [h1]

theorem rf_up {lo lo' : Int} {z : Sd} {M : List Sd} (h : rightFrom lo (z :: M) = true) (hz : lo' ≤ z.x) : rightFrom lo' (z :: M) = true := by
  obtain ⟨_, h2, h3, h4⟩ := rf_parts h
  simp [rightFrom, hz, h2, h3, h4]
/-- What is told of the slots of two bindings that may be. -/
theorem both_told : ∀ {A B : List Sd} {lo : Int}, rightFrom lo A = true → rightFrom lo B = true →
    rightFrom lo ((bothL A B).map Prod.fst) = true ∧ ((bothL A B).all (fun p => p.2) = true ↔ ∀ a ∈ A, ∀ b ∈ B, a.x = b.x → a = b) ∧ ((bothL A B).all (fun p => p.2) = true → ∀ z, z ∈ (bothL A B).map Prod.fst ↔ z ∈ A ∨ z ∈ B)
  | [], [], lo, _, _ => by simp [bothL, rightFrom]
  | a :: A, [], lo, hA, hB => by
    obtain ⟨h1, h2, h3, h4⟩ := rf_parts hA
    obtain ⟨i1, i2, i3⟩ := both_told (A := A) (B := []) (lo := a.x + 1) h4 rfl
    rw [bothL]
    refine ⟨?_, ?_, ?_⟩
    · rw [List.map_cons, rightFrom, i1]; simp [h1, h2, h3]
    · rw [List.all_cons, Bool.true_and, i2]; simp
    · rw [List.all_cons, Bool.true_and]
      intro h z
      rw [List.map_cons, List.mem_cons, i3 h z]
      simp
  | [], b :: B, lo, hA, hB => by
    obtain ⟨h1, h2, h3, h4⟩ := rf_parts hB
    obtain ⟨i1, i2, i3⟩ := both_told (A := []) (B := B) (lo := b.x + 1) rfl h4
    rw [bothL]
    refine ⟨?_, ?_, ?_⟩
    · rw [List.map_cons, rightFrom, i1]; simp [h1, h2, h3]
    · rw [List.all_cons, Bool.true_and, i2]; simp
    · rw [List.all_cons, Bool.true_and]
      intro h z
      rw [List.map_cons, List.mem_cons, i3 h z]
      simp
  | a :: A, b :: B, lo, hA, hB => by
    obtain ⟨h1, h2, h3, h4⟩ := rf_parts hA
    obtain ⟨g1, g2, g3, g4⟩ := rf_parts hB
    rw [bothL]
    by_cases c1 : a.x < b.x
    · obtain ⟨i1, i2, i3⟩ := both_told (A := A) (B := b :: B) (lo := a.x + 1) h4 (rf_up hB (by omega))
      have hno : ∀ y ∈ b :: B, a.x ≠ y.x := fun y hy e => by
        rcases List.mem_cons.1 hy with rfl | hy
        · omega
        · have := (rf_mem g4 y hy).1; omega
      rw [if_pos c1]
      refine ⟨?_, ?_, ?_⟩
      · rw [List.map_cons, rightFrom, i1]; simp [h1, h2, h3]
      · rw [List.all_cons, Bool.true_and, i2]
        constructor
        · intro h p hp q hq e
          rcases List.mem_cons.1 hp with rfl | hp
          · exact absurd e (hno q hq)
          · exact h p hp q hq e
        · intro h p hp q hq e
          exact h p (by simp [hp]) q hq e
      · rw [List.all_cons, Bool.true_and]
        intro h z
        rw [List.map_cons, List.mem_cons, i3 h z, List.mem_cons (a := z) (b := a), or_assoc]
    · rw [if_neg c1]
      by_cases c2 : b.x < a.x
      · obtain ⟨i1, i2, i3⟩ := both_told (A := a :: A) (B := B) (lo := b.x + 1) (rf_up hA (by omega)) g4
        have hno : ∀ y ∈ a :: A, y.x ≠ b.x := fun y hy e => by
          rcases List.mem_cons.1 hy with rfl | hy
          · omega
          · have := (rf_mem h4 y hy).1; omega
        rw [if_pos c2]
        refine ⟨?_, ?_, ?_⟩
        · rw [List.map_cons, rightFrom, i1]; simp [g1, g2, g3]
        · rw [List.all_cons, Bool.true_and, i2]
          constructor
          · intro h p hp q hq e
            rcases List.mem_cons.1 hq with rfl | hq
            · exact absurd e (hno p hp)
            · exact h p hp q hq e
          · intro h p hp q hq e
            exact h p hp q (by simp [hq]) e
        · rw [List.all_cons, Bool.true_and]
          intro h z
          rw [List.map_cons, List.mem_cons, i3 h z, List.mem_cons (a := z) (b := b), or_left_comm]
      · rw [if_neg c2]
        have c3 : a.x = b.x := by omega
        obtain ⟨i1, i2, i3⟩ := both_told (A := A) (B := B) (lo := a.x + 1) h4 (by rw [c3]; exact g4)
        refine ⟨?_, ?_, ?_⟩
        · rw [List.map_cons, rightFrom, i1]; simp [h1, h2, h3]
        · rw [List.all_cons, Bool.and_eq_true, i2, decide_eq_true_eq]
          constructor
          · rintro ⟨hab, h⟩ p hp q hq e
            rcases List.mem_cons.1 hp with e1 | hp1
            · rcases List.mem_cons.1 hq with e2 | hq1
              · rw [e1, e2, hab]
              · have := (rf_mem g4 q hq1).1
                rw [e1] at e
                omega
            · rcases List.mem_cons.1 hq with e2 | hq1
              · have := (rf_mem h4 p hp1).1
                rw [e2] at e
                omega
              · exact h p hp1 q hq1 e
          · intro h
            exact ⟨h a (by simp) b (by simp) c3, fun p hp q hq e => h p (by simp [hp]) q (by simp [hq]) e⟩
        · rw [List.all_cons, Bool.and_eq_true, decide_eq_true_eq]
          rintro ⟨rfl, h⟩ z
          rw [List.map_cons, List.mem_cons, i3 h z, List.mem_cons, List.mem_cons]
          constructor
          · rintro (e | e | e)
            · exact .inl (.inl e)
            · exact .inl (.inr e)
            · exact .inr (.inr e)
          · rintro ((e | e) | (e | e))
            · exact .inl e
            · exact .inr (.inl e)
            · exact .inl e
            · exact .inr (.inr e)
termination_by A B => A.length + B.length

theorem fitAll_iff {A B : List Sd} (hA : rightL A = true) (hB : rightL B = true) : fitAll A B = true ↔ ∀ a ∈ A, ∀ b ∈ B, a.x = b.x → a = b := (both_told hA hB).2.1
theorem uni_right {A B : List Sd} (hA : rightL A = true) (hB : rightL B = true) (h : fitAll A B = true) : rightL (uniL A B) = true := by
  unfold uniL
  rw [if_pos h]
  exact (both_told hA hB).1
theorem uni_mem {A B : List Sd} (hA : rightL A = true) (hB : rightL B = true) (h : fitAll A B = true) (z : Sd) : z ∈ uniL A B ↔ z ∈ A ∨ z ∈ B := by
  unfold uniL
  rw [if_pos h]
  exact (both_told hA hB).2.2 h z
theorem uni_ref {A B : List Sd} (hA : rightL A = true) (hB : rightL B = true) (h : fitAll A B = true) : uniL A B = unionR A B 8 := by
  refine right_same (uni_right hA hB h) (unionR_right (fun z hz => (rf_mem hA z hz).2.2) (fun z hz => (rf_mem hB z hz).2.2) 8 (by omega)) (fun z => ?_)
  rw [uni_mem hA hB h, unionR_mem]
  constructor
  · rintro (hz | hz)
    · have := rf_mem hA z hz
      exact ⟨by omega, .inl ((get_iff hA _ _).2 hz)⟩
    · have := rf_mem hB z hz
      refine ⟨by omega, ?_⟩
      cases hg : getL A z.x with
      | none => exact .inr ⟨rfl, (get_iff hB _ _).2 hz⟩
      | some u =>
        have e := (fitAll_iff hA hB).1 h _ ((get_iff hA _ _).1 hg) z hz rfl
        left
        rw [← e]
  · rintro ⟨_, hz | ⟨_, hz⟩⟩
    · exact .inl ((get_iff hA _ _).1 hz)
    · exact .inr ((get_iff hB _ _).1 hz)
end Go.Proofs.YtjohiehlnbgdaaaDoor
