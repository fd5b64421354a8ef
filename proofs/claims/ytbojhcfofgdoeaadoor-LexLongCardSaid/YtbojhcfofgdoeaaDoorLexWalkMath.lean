/- Blanks, places, runs and signs, gone through byte by byte. No program. -/
import Derived.Test.YtbojhcfofgdoeaaDoorLexMath
namespace Go.Proofs.YtbojhcfofgdoeaaDoor
set_option linter.unusedVariables false

theorem lx_drop {l : List UInt8} {i : Nat} {c : UInt8} (h : l[i]? = some c) : l.drop i = c :: l.drop (i + 1) := by
  obtain ⟨hi, rfl⟩ := List.getElem?_eq_some_iff.1 h
  exact List.drop_eq_getElem_cons hi
theorem lx_take {l : List UInt8} {i : Nat} {c : UInt8} (h : l[i]? = some c) : l.take (i + 1) = l.take i ++ [c] := by
  obtain ⟨hi, rfl⟩ := List.getElem?_eq_some_iff.1 h
  exact List.take_succ_eq_append_getElem hi
/-- How far blanks have been gone through (true: inside a remark). -/
def blX (l : List UInt8) (i : Nat) (b : Bool) : Prop := blankN l false = i + blankN (l.drop i) b
theorem blX_zero (l : List UInt8) : blX l 0 false := by rw [blX, List.drop_zero, Nat.zero_add]
theorem blX_hash {l : List UInt8} {i : Nat} (h : blX l i false) (hc : l[i]? = some 35) : blX l i true := by
  rw [blX, h, lx_drop hc, blankN, blankN, if_pos rfl, if_neg (by decide)]
theorem blX_in {l : List UInt8} {i : Nat} {c : UInt8} (h : blX l i true) (hc : l[i]? = some c) (h10 : c ≠ 10) : blX l (i + 1) true := by
  rw [blX, h, lx_drop hc, blankN, if_neg h10]; omega
theorem blX_out {l : List UInt8} {i : Nat} (h : blX l i true) (hc : l[i]? = some 10) : blX l i false := by
  rw [blX, h, lx_drop hc, blankN, blankN, if_pos rfl, if_neg (by decide), if_pos (by decide)]
theorem blX_blank {l : List UInt8} {i : Nat} {c : UInt8} (h : blX l i false) (hc : l[i]? = some c) (hb : blankB c = true) : blX l (i + 1) false := by
  have h35 : c ≠ 35 := by rintro rfl; exact absurd hb (by decide)
  rw [blX, h, lx_drop hc, blankN, if_neg h35, if_pos hb]; omega
theorem blX_stop {l : List UInt8} {i : Nat} {c : UInt8} (h : blX l i false) (hc : l[i]? = some c) (hb : blankB c = false) (h35 : c ≠ 35) : blankN l false = i := by
  rw [h, lx_drop hc, blankN, if_neg h35, if_neg (by rw [hb]; decide)]; rfl
theorem blX_end {l : List UInt8} {i : Nat} {b : Bool} (h : blX l i b) (hi : l.length ≤ i) : blankN l false = i := by
  rw [h, List.drop_eq_nil_iff.2 hi]; cases b <;> rfl
/-- The place, a byte further. -/
theorem adv_more {l : List UInt8} {i : Nat} {c : UInt8} (hc : l[i]? = some c) (p : Nat × Nat) : adv (l.take (i + 1)) p = if c = 10 then ((adv (l.take i) p).1 + 1, 1) else ((adv (l.take i) p).1, (adv (l.take i) p).2 + 1) := by
  rw [lx_take hc, adv_append]; rfl
theorem adv_line10 : ∀ (l : List UInt8) (p : Nat × Nat), (∀ c ∈ l, c ≠ 10) → adv l p = (p.1, p.2 + l.length)
  | [], p, _ => rfl
  | c :: r, p, h => by
    rw [adv, if_neg (h c (by simp)), adv_line10 r _ (fun d hd => h d (by simp [hd])), List.length_cons]
    simp only [Prod.mk.injEq, true_and]; omega
/-- How far a run has been gone through. -/
def runTo (l : List UInt8) (n : Nat) : Prop := ∀ c ∈ l.take n, nameC c = true
theorem runTo_zero (l : List UInt8) : runTo l 0 := fun c hc => by simp at hc
theorem runTo_more {l : List UInt8} {n : Nat} {c : UInt8} (h : runTo l n) (hc : l[n]? = some c) (e : nameC c = true) : runTo (l := l) (n + 1) := by
  intro d hd
  rw [lx_take hc, List.mem_append, List.mem_singleton] at hd
  rcases hd with h1 | rfl
  · exact h d h1
  · exact e
theorem run_take {l : List UInt8} {n : Nat} (h : runTo l n) : ∃ x, runL l = l.take n ++ runL x ∧ x = l.drop n := by
  refine ⟨_, ?_, rfl⟩
  have e : runL l = runL (l.take n ++ l.drop n) := by rw [List.take_append_drop]
  rw [e]
  exact List.takeWhile_append_of_pos h
theorem run_stop {l : List UInt8} {n : Nat} {c : UInt8} (h : runTo l n) (hc : l[n]? = some c) (e : nameC c = false) : runL l = l.take n := by
  obtain ⟨x, hx, rfl⟩ := run_take h
  rw [hx, lx_drop hc]
  unfold runL
  rw [List.takeWhile_cons_of_neg (by rw [e]; decide), List.append_nil]
theorem run_end {l : List UInt8} {n : Nat} (h : runTo l n) (hn : l.length ≤ n) : runL l = l.take n := by
  obtain ⟨x, hx, rfl⟩ := run_take h
  rw [hx, List.drop_eq_nil_iff.2 hn]
  exact List.append_nil _
/-- The signs, in an order in which the longer ones stand ahead. -/
def signsL : List (List UInt8) := [[61, 61], [33, 61], [60, 61], [62, 61], [60], [62], [61], [40], [41], [44], [58], [43], [45], [42], [47], [37]]
def signF (l : List UInt8) : List UInt8 := (signsL.find? (fun x => x.isPrefixOf l)).getD []
theorem sign_f1 : ∀ c : UInt8, signF [c] = [c].take (signN [c]) := all8 (by decide +kernel)
theorem sign_f2 : ∀ c : UInt8, signF [c, 61] = [c, 61].take (signN [c, 61]) := all8 (by decide +kernel)
theorem sign_f3 : ∀ c : UInt8, signF [c, 0] = [c, 0].take (signN [c, 0]) ∧ signN [c, 0] ≤ 1 := all8 (by decide +kernel)
theorem sign_pre (c d : UInt8) (r : List UInt8) : signF (c :: d :: r) = signF [c, d] := by
  simp [signF, signsL, List.find?, List.isPrefixOf]
theorem sign_f (l : List UInt8) : signF l = l.take (signN l) := by
  match l with
  | [] => rfl
  | [c] => exact sign_f1 c
  | c :: d :: r =>
    rw [sign_pre]
    by_cases hd : d = 61
    · subst hd
      rw [sign_f2 c]
      have e : signN (c :: 61 :: r) = signN [c, 61] := rfl
      rw [e]
      rcases sign_cases [c, 61] with h | h | h <;> rw [h] <;> rfl
    · obtain ⟨h1, h2⟩ := sign_f3 c
      have e1 : signF [c, d] = signF [c, 0] := by
        have h61 : ((61 : UInt8) == d) = false := by rw [beq_eq_false_iff_ne]; exact fun e => hd e.symm
        simp [signF, signsL, List.find?, List.isPrefixOf, h61]
      have e2 : signN (c :: d :: r) = signN [c, 0] := by
        have n1 : ¬ ((c = 61 ∨ c = 33 ∨ c = 60 ∨ c = 62) ∧ (d :: r).head? = some 61) := fun h => hd (by simpa using h.2)
        have n2 : ¬ ((c = 61 ∨ c = 33 ∨ c = 60 ∨ c = 62) ∧ [(0 : UInt8)].head? = some 61) := fun h => by simp at h
        rw [signN, signN, if_neg n1, if_neg n2]
      rw [e1, h1, e2]
      rcases sign_cases [c, 0] with h | h | h
      · rw [h]; rfl
      · rw [h]; rfl
      · omega
/-- None of the first signs. -/
def noSign (l : List UInt8) (n : Nat) : Prop := signF l = ((signsL.drop n).find? (fun x => x.isPrefixOf l)).getD []
theorem noSign_zero (l : List UInt8) : noSign l 0 := rfl
theorem signs_drop {n : Nat} (h : n < 16) : signsL.drop n = signsL.getD n [] :: signsL.drop (n + 1) := by
  have h2 : n < signsL.length := h
  rw [List.drop_eq_getElem_cons h2]
  simp [List.getD, h2]
theorem noSign_more {l : List UInt8} {n : Nat} (h : noSign l n) (hn : n < 16) (e : (signsL.getD n []).isPrefixOf l = false) : noSign l (n + 1) := by
  rw [noSign, h, signs_drop hn, List.find?_cons, e]
theorem noSign_hit {l : List UInt8} {n : Nat} (h : noSign l n) (hn : n < 16) (e : (signsL.getD n []).isPrefixOf l = true) : signF l = signsL.getD n [] := by
  rw [h, signs_drop hn, List.find?_cons, e]; rfl
theorem noSign_end {l : List UInt8} (h : noSign l 16) : signF l = [] := h
theorem sign_zero {l : List UInt8} : signF l = [] ↔ signN l = 0 := by
  rw [sign_f]
  cases l with
  | nil => exact ⟨fun _ => rfl, fun _ => rfl⟩
  | cons c r =>
    rcases sign_cases (c :: r) with h | h | h <;> rw [h] <;> simp
end Go.Proofs.YtbojhcfofgdoeaaDoor
