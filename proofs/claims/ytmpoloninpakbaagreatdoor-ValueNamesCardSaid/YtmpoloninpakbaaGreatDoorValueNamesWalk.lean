/- The walk of the law ValueNames: with any kind, name, operator and other kind it answers true. -/
import Derived.Test.YtmpoloninpakbaaGreatDoorValueNamesA
import Derived.Test.YtmpoloninpakbaaGreatDoorValueNamesB
import Derived.Test.YtmpoloninpakbaaGreatDoorValueNamesC
namespace Go.Proofs.YtmpoloninpakbaaGreatDoor.valueNames
open Go.RowKit
set_option linter.unusedVariables false


theorem empty_kind {k : Int} (h : ¬ (k = 1 ∨ k = 2 ∨ k = 3)) : (nameV k).toList.isEmpty = true := by
  unfold nameV
  rw [if_neg (fun e => h (.inl e)), if_neg (fun e => h (.inr (.inl e))), if_neg (fun e => h (.inr (.inr e))), ByteArray.toList_eq]
  rfl
theorem full_kind {k : Int} (h : k = 1 ∨ k = 2 ∨ k = 3) : (nameV k).toList.isEmpty = false := by
  rcases h with rfl | rfl | rfl <;> simp [nameV, ByteArray.toList_eq]
theorem type_far {o k b : Int} (hb : b < 1 ∨ 3 < b) (hk : k = 1 ∨ k = 2 ∨ k = 3) (h4 : o ≠ 4) (h5 : ¬ (o = 5 ∧ k = 1)) : typeV o k b = 0 := by
  unfold typeV
  rw [if_neg h4]
  by_cases h : o = 5
  · rw [if_pos h, if_neg (fun e => h5 ⟨h, e⟩)]
  · rw [if_neg h, if_neg (fun e => by omega)]
theorem type_bad {o k b : Int} (hk : ¬ (k = 1 ∨ k = 2 ∨ k = 3)) : typeV o k b = 0 := by
  unfold typeV
  split
  · rw [if_neg (fun e => hk (.inr (.inr e)))]
  · split
    · rw [if_neg (fun e => hk (.inl e))]
    · rw [if_neg (fun e => hk e.2)]
theorem type_out {o k b : Int} (h : o < 4 ∨ 16 < o) : typeV o k b = 0 := by
  unfold typeV typeTwo
  rw [if_neg (by omega), if_neg (by omega)]
  split
  · rw [if_neg (by omega), if_neg (by omega), if_neg (by omega), if_neg (by omega), if_neg (by omega)]
  · rfl

theorem arith_ne1 (o x y : Int) : (arithV o x y).e ≠ 1 := by
  have hn : ∀ n e, (e = 0 ∨ e = 6 ∨ e = 7) → (numV n e).e ≠ 1 := by
    intro n e he
    unfold numV badV
    rcases he with rfl | rfl | rfl <;> simp
  have he : ∀ x, te x = 0 ∨ te x = 6 ∨ te x = 7 := fun x => by unfold te; split <;> simp
  have hd : ∀ a b, de a b = 0 ∨ de a b = 6 ∨ de a b = 7 := fun a b => by unfold de; split; simp; exact he _
  have hm : ∀ b, me b = 0 ∨ me b = 6 ∨ me b = 7 := fun b => by unfold me; split <;> simp
  unfold arithV
  split
  · exact hn _ _ (he _)
  split
  · exact hn _ _ (he _)
  split
  · exact hn _ _ (he _)
  split
  · exact hn _ _ (he _)
  split
  · exact hn _ _ (hd _ _)
  · exact hn _ _ (hm _)

theorem walk (k : Int) (n : ByteArray) (o b : Int) (w : World) (_ : -9223372036854775808 ≤ k ∧ k ≤ 9223372036854775807) (_ : n.size ≤ maxLen) (_ : -9223372036854775808 ≤ o ∧ o ≤ 9223372036854775807) (_ : -9223372036854775808 ≤ b ∧ b ≤ 9223372036854775807) (hL : Laid w) :
    Calls Tryz.prog 4 #[.int .i64 k, .string n, .int .i64 o, .int .i64 b] w fun e w' => e = .returned (.bool true) ∧ Below w.heap.size w w' := by
  have hAw : Aw w := fun w1 hb => awake_calls w1 (hL.below hb)
  have hT := fun w1 => vType_calls o k b w1
  by_cases hk : k = 1 ∨ k = 2 ∨ k = 3
  case neg =>
    rw [type_bad hk] at hT
    exact noKind k n o b w hT hAw (empty_kind hk)
  case pos =>
    have hne := full_kind hk
    by_cases h4 : o < 4
    · rw [type_out (.inl h4)] at hT
      exact noLow k n o b w hT hAw hne (by simpa using h4)
    have t1 : decide (o < 4) = false := by simpa using h4
    by_cases h16 : 16 < o
    · rw [type_out (.inr h16)] at hT
      exact noHigh k n o b w hT hAw hne t1 (by simpa using h16)
    have t2 : decide ((16 : Int) < o) = false := by simpa using h16
    by_cases hb : b < 1 ∨ 3 < b
    · by_cases o4 : o = 4
      · have u4 : (o != 4) = false := by subst o4; rfl
        by_cases k3 : k = 3
        · have u3 : (k != 3) = false := by subst k3; rfl
          have e : typeV o k b = 3 := by subst o4 k3; rfl
          rw [e] at hT
          by_cases b1 : b < 1
          · exact farLc k n o b w hT hAw hne t1 t2 (by simpa using b1) u4 u3
          · exact farHc k n o b w hT hAw hne t1 t2 (by simpa using b1) (by simp; omega) u4 u3
        · have u3 : (k != 3) = true := bne_iff_ne.2 k3
          have e : typeV o k b = 0 := by subst o4; simp [typeV, k3]
          rw [e] at hT
          by_cases b1 : b < 1
          · exact farLb k n o b w hT hAw hne t1 t2 (by simpa using b1) u4 u3
          · exact farHb k n o b w hT hAw hne t1 t2 (by simpa using b1) (by simp; omega) u4 u3
      · have u4 : (o != 4) = true := bne_iff_ne.2 o4
        by_cases h5 : o = 5 ∧ k = 1
        · have u5 : (o == 5) = true := beq_iff_eq.2 h5.1
          have u1 : (k == 1) = true := beq_iff_eq.2 h5.2
          have e : typeV o k b = 1 := by rw [h5.1, h5.2]; rfl
          rw [e] at hT
          by_cases b1 : b < 1
          · exact farLd k n o b w hT hAw hne t1 t2 (by simpa using b1) u4 u5 u1
          · exact farHd k n o b w hT hAw hne t1 t2 (by simpa using b1) (by simp; omega) u4 u5 u1
        · rw [type_far hb hk o4 h5] at hT
          by_cases b1 : b < 1
          · exact farLa k n o b w hT hAw hne t1 t2 (by simpa using b1) u4
          · exact farHa k n o b w hT hAw hne t1 t2 (by simpa using b1) (by simp; omega) u4
    · have t3 : decide (b < 1) = false := by simp; omega
      have t4 : decide ((3 : Int) < b) = false := by simp; omega
      have hkb : b = 1 ∨ b = 2 ∨ b = 3 := by omega
      have hro := fun w1 => refOp_calls o k 0 ⟨#[]⟩ false b 0 ⟨#[]⟩ false w1 ⟨by omega, by omega⟩ ⟨by omega, by omega⟩ (by show 0 ≤ 4096; omega) (by show 0 ≤ 4096; omega) hk
      have htt := op_type (o := o) (k := k) (i := 0) (s := ⟨#[]⟩) (b := false) (k' := b) (i' := 0) (s' := ⟨#[]⟩) (b' := false) hk hkb
      have he1 : (opV o k 0 ⟨#[]⟩ false b 0 ⟨#[]⟩ false).e ≠ 1 := by
        unfold opV
        rw [if_neg (by omega)]
        split
        · decide
        · split
          · unfold strOp; split <;> decide
          · split
            · exact arith_ne1 _ _ _
            · simp [truV]
      have he8 : typeV o k b = 0 → (opV o k 0 ⟨#[]⟩ false b 0 ⟨#[]⟩ false).e = 8 := fun h => by
        unfold opV
        rw [if_neg (by omega), if_pos h]
        rfl
      rw [← op_same hk hkb] at hro
      generalize opV o k 0 ⟨#[]⟩ false b 0 ⟨#[]⟩ false = pv at hro htt he1 he8
      generalize typeV o k b = ty at hT htt he8
      obtain ⟨qk, qi, qs, qb, qe⟩ := pv
      simp only [OVal.val] at hro htt he1 he8
      rcases htt with ⟨he | he, ht⟩ | ⟨hne8, hx⟩
      · exact absurd he he1
      · exact near8 k n o b w qk qi qs qb qe ty hT hAw hne hro t1 t2 t3 t4 (beq_iff_eq.2 he) (beq_iff_eq.2 ht) (bne_iff_ne.2 (by omega))
      · have v8 : (qe == 8) = false := beq_eq_false_iff_ne.2 (fun e => hne8 (.inr e))
        have v0 : (ty == 0) = false := beq_eq_false_iff_ne.2 (fun e => hne8 (.inr (he8 e)))
        by_cases h0 : qe = 0
        · rcases hx with hx | ⟨hx, _⟩
          · exact nearK k n o b w qk qi qs qb qe ty hT hAw hne hro t1 t2 t3 t4 v8 v0 (by rw [h0]; rfl) (beq_iff_eq.2 hx.symm)
          · exact absurd h0 hx
        · exact nearE k n o b w qk qi qs qb qe ty hT hAw hne hro t1 t2 t3 t4 v8 v0 (bne_iff_ne.2 h0)
end Go.Proofs.YtmpoloninpakbaaGreatDoor.valueNames
