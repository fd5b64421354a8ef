/- What the law BindingPairs asks, as plain data. -/
import Derived.Test.YtjohiehlnbgdaaaDoorSlotPair
import Derived.Test.YtjohiehlnbgdaaaDoorSlotRefFits
import Derived.Test.YtjohiehlnbgdaaaDoorSlotKey
import Derived.Test.YtjohiehlnbgdaaaDoorBindSmall
namespace Go.Proofs.YtjohiehlnbgdaaaDoor
open Go.RowKit
set_option linter.unusedVariables false

theorem fits_ref {A B : List Sd} (hA : rightL A = true) (hB : rightL B = true) : fitAll A B = refFitsL A B := by
  rw [Bool.eq_iff_iff, fitAll_iff hA hB]
  unfold refFitsL
  rw [List.all_eq_true]
  have ok : ∀ z, refFitsOk B z = true ↔ ∀ v, getL B z.x = some v → v = z.v := fun z => by
    unfold refFitsOk
    cases hg : getL B z.x with
    | none => rw [getB_none hg]; simp
    | some u => rw [getB_some hg, getV_some hg]; simp
  constructor
  · intro h z hz
    rw [ok]
    intro v hv
    have e := h z hz _ ((get_iff hB _ _).1 hv) rfl
    rw [e]
  · intro h p hp q hq e
    have := (ok p).1 (h p hp) q.v (by rw [e]; exact (get_iff hB _ _).2 hq)
    cases p; cases q
    simp only at e this
    rw [e, this]
theorem bkey_inj : ∀ {A B : List Sd}, (∀ z ∈ A, KeyS z) → (∀ z ∈ B, KeyS z) → bkeyL A = bkeyL B → A = B
  | [], [], _, _, _ => rfl
  | [], b :: B, _, _, h => by rw [bkeyL, bkeyL, slotKey] at h; simp at h
  | a :: A, [], _, _, h => by rw [bkeyL, bkeyL, slotKey] at h; simp at h
  | a :: A, b :: B, hA, hB, h => by
    rw [bkeyL, bkeyL, slotKey, slotKey, List.cons_append, List.cons_append] at h
    have h1 := (List.cons.inj h).1
    obtain ⟨h2, h3⟩ := key_pre (hA a (by simp)).2 (hB b (by simp)).2 (List.cons.inj h).2
    have a1 := (hA a (by simp)).1
    have b1 := (hB b (by simp)).1
    have e := congrArg UInt8.toNat h1
    rw [UInt8.toNat_ofNat', UInt8.toNat_ofNat'] at e
    have hx : a.x = b.x := by omega
    rw [bkey_inj (A := A) (B := B) (fun z hz => hA z (by simp [hz])) (fun z hz => hB z (by simp [hz])) h3]
    cases a; cases b
    simp only at hx h2
    rw [hx, h2]
theorem key_eq {A B : List Sd} (hA : ∀ z ∈ A, KeyS z) (hB : ∀ z ∈ B, KeyS z) : ((⟨(bkeyL A).toArray⟩ : ByteArray).toList == (⟨(bkeyL B).toArray⟩ : ByteArray).toList) = decide (A = B) := by
  rw [ByteArray.toList_eq, ByteArray.toList_eq]
  by_cases h : A = B
  · rw [decide_eq_true h, h]; simp
  · rw [decide_eq_false h]
    simp only [beq_eq_false_iff_ne, ne_eq]
    exact fun e => h (bkey_inj hA hB e)
theorem under_of {A U : List Sd} (h : ∀ z ∈ A, z ∈ U) : underL A U = true := by
  unfold underL
  rw [List.all_eq_true]
  exact fun z hz => by simpa using h z hz
end Go.Proofs.YtjohiehlnbgdaaaDoor
