/- What operators make of values, as plain data: of which kind, and which value or error. -/
import Derived.Test.YtmpoloninpakbaaGreatDoorValLess
import Derived.Test.YtmpoloninpakbaaGreatDoorNumMath
namespace Go.Proofs.YtmpoloninpakbaaGreatDoor
open Go.RowKit
set_option linter.unusedVariables false

/-- Of which kind an operator's answer is, of two values of one kind. -/
def typeTwo (o k : Int) : Int :=
  if o = 13 ∨ o = 14 then 3 else if o = 6 ∨ o = 7 then (if k = 3 then 3 else 0) else if o = 15 ∨ o = 16 then (if k = 3 then 0 else 3) else
  if o = 8 then (if k = 2 then 2 else if k = 1 then 1 else 0) else if o = 9 ∨ o = 10 ∨ o = 11 ∨ o = 12 then (if k = 1 then 1 else 0) else 0
/-- Of which kind an operator's answer is. -/
def typeV (o k k' : Int) : Int :=
  if o = 4 then (if k = 3 then 3 else 0) else if o = 5 then (if k = 1 then 1 else 0) else
  if k = k' ∧ (k = 1 ∨ k = 2 ∨ k = 3) then typeTwo o k else 0

/-- What an operator tells: a value, and an error. -/
structure OVal where
  (k i : Int) (s : ByteArray) (b : Bool) (e : Int)
def OVal.val (p : OVal) : Value := .tuple #[.agg #[.int .i64 p.k, .int .i64 p.i, .string p.s, .bool p.b], .int .i64 p.e]
theorem OVal.val_eq (p : OVal) : ∃ k i s b e, p.val = .tuple #[.agg #[.int .i64 k, .int .i64 i, .string s, .bool b], .int .i64 e] := ⟨_, _, _, _, _, rfl⟩
def badV (e : Int) : OVal := ⟨0, 0, ⟨#[]⟩, false, e⟩
def numV (n e : Int) : OVal := if e = 0 then ⟨1, n, ⟨#[]⟩, false, 0⟩ else badV e
def truV (b : Bool) : OVal := ⟨3, 0, ⟨#[]⟩, b, 0⟩
def strOp (s s' : ByteArray) : OVal := if 4096 < s.size + s'.size then badV 3 else ⟨2, 0, s ++ s', false, 0⟩
/-- What an operator makes of numbers. -/
def arithV (o a b : Int) : OVal :=
  if o = 5 then numV (tn (-a)) (te (-a)) else if o = 8 then numV (tn (a + b)) (te (a + b)) else if o = 9 then numV (tn (a - b)) (te (a - b)) else if o = 10 then numV (tn (a * b)) (te (a * b)) else
  if o = 11 then numV (dn a b) (de a b) else numV (mn a b) (me b)
/-- What an operator that makes truths says. -/
def truthB (o : Int) (k i : Int) (s : ByteArray) (b : Bool) (k' i' : Int) (s' : ByteArray) (b' : Bool) : Bool :=
  if o = 4 then !b else if o = 6 then b && b' else if o = 7 then b || b' else if o = 13 then eqB k i s b k' i' s' b' else if o = 14 then !eqB k i s b k' i' s' b' else
  if o = 15 then lessB k i s b k' i' s' b' else !lessB k' i' s' b' k i s b
def numOp (o : Int) : Prop := o = 5 ∨ o = 8 ∨ o = 9 ∨ o = 10 ∨ o = 11 ∨ o = 12
instance (o : Int) : Decidable (numOp o) := inferInstanceAs (Decidable (_ ∨ _))
/-- What value.Op tells. -/
def opV (o : Int) (k i : Int) (s : ByteArray) (b : Bool) (k' i' : Int) (s' : ByteArray) (b' : Bool) : OVal :=
  if o < 4 ∨ 16 < o then badV 1 else if typeV o k k' = 0 then badV 8 else if o = 8 ∧ k = 2 then strOp s s' else if numOp o then arithV o i i' else truV (truthB o k i s b k' i' s' b')
/-- What the reference tells. -/
def refV (o : Int) (k i : Int) (s : ByteArray) (b : Bool) (k' i' : Int) (s' : ByteArray) (b' : Bool) : OVal :=
  if o < 4 ∨ 16 < o then badV 1 else if o = 4 then (if k = 3 then truV !b else badV 8) else if o = 5 then (if k = 1 then arithV 5 i 0 else badV 8) else
  if k = k' then (if o = 13 then truV (eqB k i s b k' i' s' b') else if o = 14 then truV !eqB k i s b k' i' s' b' else
    if k = 3 then (if o = 6 then truV (b && b') else if o = 7 then truV (b || b') else badV 8) else
    if o = 15 then truV (lessB k i s b k' i' s' b') else if o = 16 then truV !lessB k' i' s' b' k i s b else
    if k = 1 ∧ 8 ≤ o ∧ o ≤ 12 then arithV o i i' else if k = 2 ∧ o = 8 then strOp s s' else badV 8) else badV 8

theorem op_range {o : Int} (h : ¬ (o < 4 ∨ 16 < o)) : o = 4 ∨ o = 5 ∨ o = 6 ∨ o = 7 ∨ o = 8 ∨ o = 9 ∨ o = 10 ∨ o = 11 ∨ o = 12 ∨ o = 13 ∨ o = 14 ∨ o = 15 ∨ o = 16 := by omega
theorem op_same {o : Int} {k i : Int} {s : ByteArray} {b : Bool} {k' i' : Int} {s' : ByteArray} {b' : Bool} (hk : k = 1 ∨ k = 2 ∨ k = 3) (hk' : k' = 1 ∨ k' = 2 ∨ k' = 3) :
    opV o k i s b k' i' s' b' = refV o k i s b k' i' s' b' := by
  by_cases ho : o < 4 ∨ 16 < o
  · unfold opV refV; rw [if_pos ho, if_pos ho]
  · unfold opV refV
    rw [if_neg ho, if_neg ho]
    rcases op_range ho with rfl | rfl | rfl | rfl | rfl | rfl | rfl | rfl | rfl | rfl | rfl | rfl | rfl <;> rcases hk with rfl | rfl | rfl <;> rcases hk' with rfl | rfl | rfl <;> simp [typeV, typeTwo, numOp, truthB, arithV]
/-- How kinds and errors go together. -/
theorem op_type {o : Int} {k i : Int} {s : ByteArray} {b : Bool} {k' i' : Int} {s' : ByteArray} {b' : Bool} (hk : k = 1 ∨ k = 2 ∨ k = 3) (hk' : k' = 1 ∨ k' = 2 ∨ k' = 3) :
    (((opV o k i s b k' i' s' b').e = 1 ∨ (opV o k i s b k' i' s' b').e = 8) ∧ typeV o k k' = 0) ∨
    (¬ ((opV o k i s b k' i' s' b').e = 1 ∨ (opV o k i s b k' i' s' b').e = 8) ∧ (typeV o k k' = (opV o k i s b k' i' s' b').k ∨ ((opV o k i s b k' i' s' b').e ≠ 0 ∧ (typeV o k k' = 1 ∨ typeV o k k' = 2)))) := by
  have hn : ∀ n e, (e = 0 ∨ e = 6 ∨ e = 7) → ¬ ((numV n e).e = 1 ∨ (numV n e).e = 8) ∧ (1 = (numV n e).k ∨ (numV n e).e ≠ 0) := by
    intro n e he
    unfold numV badV
    rcases he with rfl | rfl | rfl <;> simp
  have he : ∀ x, te x = 0 ∨ te x = 6 ∨ te x = 7 := fun x => by unfold te; split <;> simp
  have hd : ∀ a b, de a b = 0 ∨ de a b = 6 ∨ de a b = 7 := fun a b => by unfold de; split; simp; exact he _
  have hm : ∀ b, me b = 0 ∨ me b = 6 ∨ me b = 7 := fun b => by unfold me; split <;> simp
  by_cases ho : o < 4 ∨ 16 < o
  · refine .inl ⟨.inl (by unfold opV; rw [if_pos ho]; rfl), ?_⟩
    unfold typeV typeTwo
    rw [if_neg (by omega), if_neg (by omega)]
    split
    · rw [if_neg (by omega), if_neg (by omega), if_neg (by omega), if_neg (by omega), if_neg (by omega)]
    · rfl
  · by_cases ht : typeV o k k' = 0
    · exact .inl ⟨.inr (by unfold opV; rw [if_neg ho, if_pos ht]; rfl), ht⟩
    · refine .inr ?_
      by_cases hs : o = 8 ∧ k = 2
      · have e : opV o k i s b k' i' s' b' = strOp s s' := by unfold opV; rw [if_neg ho, if_neg ht, if_pos hs]
        have ht2 : typeV o k k' = 2 := by
          obtain ⟨rfl, rfl⟩ := hs
          rcases hk' with rfl | rfl | rfl
          · exact absurd (by decide) ht
          · decide
          · exact absurd (by decide) ht
        rw [e, ht2]
        unfold strOp badV
        split <;> simp
      · by_cases hp : numOp o
        · have e : opV o k i s b k' i' s' b' = arithV o i i' := by unfold opV; rw [if_neg ho, if_neg ht, if_neg hs, if_pos hp]
          have ht1 : typeV o k k' = 1 := by
            rcases hp with rfl | rfl | rfl | rfl | rfl | rfl <;> rcases hk with rfl | rfl | rfl <;> rcases hk' with rfl | rfl | rfl <;> revert ht hs <;> decide
          rw [e, ht1]
          have key : ¬ ((arithV o i i').e = 1 ∨ (arithV o i i').e = 8) ∧ (1 = (arithV o i i').k ∨ (arithV o i i').e ≠ 0) := by
            unfold arithV
            split
            · exact hn _ _ (he _)
            split
            · exact hn _ _ (he _)
            split
            · exact hn _ _ (he _)
            split
            · exact hn _ _ (he _)
            split
            · exact hn _ _ (hd _ _)
            · exact hn _ _ (hm _)
          exact ⟨key.1, key.2.imp id fun h => ⟨h, .inl rfl⟩⟩
        · have e : opV o k i s b k' i' s' b' = truV (truthB o k i s b k' i' s' b') := by unfold opV; rw [if_neg ho, if_neg ht, if_neg hs, if_neg hp]
          have ht3 : typeV o k k' = 3 := by
            rcases op_range ho with rfl | rfl | rfl | rfl | rfl | rfl | rfl | rfl | rfl | rfl | rfl | rfl | rfl <;> rcases hk with rfl | rfl | rfl <;> rcases hk' with rfl | rfl | rfl <;> revert ht hs hp <;> decide
          rw [e, ht3]
          exact ⟨by simp [truV], .inl rfl⟩
end Go.Proofs.YtmpoloninpakbaaGreatDoor
