/- Plain facts on numbers' texts: which bytes are one, the number that they are of, and that text and number give each other. No program stands in this text. -/
import Derived.Test.YtmjchmamkjbgkaaGreatDoorNumMath
import Derived.Lib.ItoaMem
import Derived.Lib.ParseIntB
import Derived.Lib.Strings
namespace Go.Proofs.YtmjchmamkjbgkaaGreatDoor

def isD (c : UInt8) : Bool := decide (48 ≤ c.toNat ∧ c.toNat ≤ 57)
/-- What stands behind the sign. -/
def mag (l : List UInt8) : List UInt8 := if l.head? = some 45 then l.tail else l
/-- Is it of the form of a number's text, however great that number? -/
def formB (l : List UInt8) : Bool := !(mag l).isEmpty && (if (mag l).head? = some 48 then l == [48] else (mag l).all isD)
/-- What digits come to. -/
def dv (acc : Nat) (l : List UInt8) : Nat := l.foldl (fun a c => a * 10 + (c.toNat - 48)) acc
/-- The number of a text of that form. -/
def vl (l : List UInt8) : Int := if l.head? = some 45 then -(dv 0 (mag l) : Int) else (dv 0 (mag l) : Int)
/-- What Parse tells: the number, and the error. -/
def pn (l : List UInt8) : Int := if formB l = true then tn (vl l) else 0
def pe (l : List UInt8) : Int := if formB l = true then (if tb (vl l) = true then 0 else 5) else 4

theorem dv_snoc (acc : Nat) (l : List UInt8) (c : UInt8) : dv acc (l ++ [c]) = dv acc l * 10 + (c.toNat - 48) := by simp [dv]
theorem dv_cons (acc : Nat) (c : UInt8) (l : List UInt8) : dv acc (c :: l) = dv (acc * 10 + (c.toNat - 48)) l := by simp only [dv, List.foldl_cons]
theorem dv_le (l : List UInt8) (acc : Nat) : acc ≤ dv acc l := by
  induction l generalizing acc with
  | nil => exact Nat.le_refl _
  | cons c r ih => rw [dv_cons]; have := ih (acc * 10 + (c.toNat - 48)); omega
theorem dv_append (acc : Nat) (l r : List UInt8) : dv acc (l ++ r) = dv (dv acc l) r := by simp [dv]
theorem dv_take_le (l : List UInt8) (k : Nat) : dv 0 (l.take k) ≤ dv 0 l := by
  have e : dv 0 l = dv (dv 0 (l.take k)) (l.drop k) := by rw [← dv_append, List.take_append_drop]
  rw [e]; exact dv_le _ _

/-! ### the library's parse, on texts of that form -/
theorem parseUintM_digits : ∀ (l : List UInt8) (acc : Nat), l.all isD = true → acc ≤ 18446744073709551615 →
    Lib.parseUintM 18446744073709551615 acc l = if dv acc l ≤ 18446744073709551615 then .ok (dv acc l) else .range
  | [], acc, _, h => by simp [Lib.parseUintM, dv, h]
  | c :: r, acc, hd, h => by
    simp only [List.all_cons, Bool.and_eq_true] at hd
    have hc : 48 ≤ c.toNat ∧ c.toNat ≤ 57 := by simpa [isD] using hd.1
    have hle := dv_le r (acc * 10 + (c.toNat - 48))
    rw [dv_cons]
    unfold Lib.parseUintM
    rw [if_pos hc]
    by_cases h1 : 1844674407370955162 ≤ acc
    · rw [if_pos h1, if_neg (by omega)]
    · rw [if_neg h1]
      by_cases h2 : 18446744073709551615 < acc * 10 + (c.toNat - 48)
      · rw [if_pos h2, if_neg (by omega)]
      · rw [if_neg h2]
        exact parseUintM_digits r _ hd.2 (by omega)

theorem form_digits {l : List UInt8} (h : formB l = true) : mag l ≠ [] ∧ (mag l).all isD = true := by
  simp only [formB, Bool.and_eq_true, Bool.not_eq_true', List.isEmpty_eq_false_iff] at h
  refine ⟨h.1, ?_⟩
  have h2 := h.2
  split at h2
  · have e : l = [48] := by simpa using h2
    subst e; decide
  · exact h2

theorem pow64 : (2 : Nat) ^ 64 - 1 = 18446744073709551615 := by decide
theorem pow63 : (2 : Nat) ^ (64 - 1) = 9223372036854775808 := by decide
theorem parse_form {l : List UInt8} (h : formB l = true) :
    Lib.parseIntB 64 l = if tb (vl l) = true then .ok (vl l) else .range := by
  obtain ⟨hne, hd⟩ := form_digits h
  cases l with
  | nil => exact absurd rfl hne
  | cons c r =>
    by_cases hc : c = 45
    · subst hc
      have em : mag (45 :: r) = r := rfl
      have ev : vl (45 :: r) = -(dv 0 r : Int) := rfl
      rw [em] at hne hd
      rw [ev]
      simp only [Lib.parseIntB, Lib.parseUintB]
      rw [if_pos (Or.inr (by decide)), if_neg hne, pow64, pow63, parseUintM_digits r 0 hd (by omega)]
      by_cases h1 : dv 0 r ≤ 18446744073709551615
      · rw [if_pos h1]
        simp only
        rw [if_neg (by simp), if_pos (show ((45 : UInt8).toNat = 45) by decide)]
        by_cases h2 : 9223372036854775808 < dv 0 r
        · rw [if_pos ⟨by decide, h2⟩, tb_no (by omega)]; rfl
        · rw [if_neg (fun x => h2 x.2), tb_yes (by omega) (by omega)]; rfl
      · rw [if_neg h1, tb_no (by omega)]; rfl
    · have hh : (c :: r).head? ≠ some 45 := by simpa using hc
      have em : mag (c :: r) = c :: r := if_neg hh
      have ev : vl (c :: r) = (dv 0 (c :: r) : Int) := by unfold vl; rw [if_neg hh, em]
      rw [em] at hd
      have hc2 : 48 ≤ c.toNat ∧ c.toNat ≤ 57 := by
        simp only [List.all_cons, Bool.and_eq_true] at hd; simpa [isD] using hd.1
      rw [ev]
      simp only [Lib.parseIntB, Lib.parseUintB]
      rw [if_neg (show ¬ (c.toNat = 43 ∨ c.toNat = 45) by omega), if_neg (show ¬ (c :: r) = [] by simp), pow64, pow63, parseUintM_digits (c :: r) 0 hd (by omega)]
      by_cases h1 : dv 0 (c :: r) ≤ 18446744073709551615
      · rw [if_pos h1]
        simp only
        rw [if_neg (show ¬ c.toNat = 45 by omega)]
        by_cases h2 : 9223372036854775808 ≤ dv 0 (c :: r)
        · rw [if_pos ⟨by omega, h2⟩, tb_no (by omega)]; rfl
        · rw [if_neg (fun x => h2 x.2), if_neg (fun x => by omega), tb_yes (by omega) (by omega)]; rfl
      · rw [if_neg h1, tb_no (by omega)]; rfl

/-! ### numerals -/
theorem byteD (k : Nat) (h : k < 10) : (UInt8.ofNat (48 + k)).toNat = 48 + k := by
  simp [UInt8.toNat_ofNat']; omega
theorem isD_byte (k : Nat) (h : k < 10) : isD (UInt8.ofNat (48 + k)) = true := by
  unfold isD; rw [byteD k h]; simp; omega
theorem dec_big {u : Nat} (h : ¬ u < 10) : Lib.decDigits u = Lib.decDigits (u / 10) ++ [UInt8.ofNat (48 + u % 10)] := by
  rw [Lib.decDigits, dif_neg h]
theorem dv_dec (u : Nat) : dv 0 (Lib.decDigits u) = u := by
  induction u using Nat.strongRecOn with
  | ind u ih =>
    by_cases h : u < 10
    · rw [Lib.decDigits_one h]
      show 0 * 10 + ((UInt8.ofNat (48 + u)).toNat - 48) = u
      rw [byteD u h]; omega
    · rw [dec_big h, dv_snoc, ih (u / 10) (by omega), byteD _ (by omega)]; omega
theorem dec_digits (u : Nat) : (Lib.decDigits u).all isD = true := by
  induction u using Nat.strongRecOn with
  | ind u ih =>
    by_cases h : u < 10
    · rw [Lib.decDigits_one h, List.all_cons, isD_byte u h]; rfl
    · rw [dec_big h, List.all_append, ih (u / 10) (by omega), List.all_cons, isD_byte (u % 10) (by omega)]; rfl
theorem dec_ne (u : Nat) : Lib.decDigits u ≠ [] := by
  by_cases h : u < 10
  · rw [Lib.decDigits_one h]; simp
  · rw [dec_big h]; simp
theorem dec_head (u : Nat) (h0 : u ≠ 0) : (Lib.decDigits u).head? ≠ some 48 := by
  induction u using Nat.strongRecOn with
  | ind u ih =>
    by_cases h : u < 10
    · rw [Lib.decDigits_one h]
      intro e
      have e2 : (UInt8.ofNat (48 + u)).toNat = (48 : UInt8).toNat := by simpa using congrArg UInt8.toNat (Option.some.inj e)
      rw [byteD u h] at e2
      have : (48 : UInt8).toNat = 48 := rfl
      omega
    · rw [dec_big h]
      have := ih (u / 10) (by omega) (by omega)
      cases hd : Lib.decDigits (u / 10) with
      | nil => exact absurd hd (dec_ne _)
      | cons a t => rw [hd] at this; simpa using this
theorem dec_head45 (u : Nat) : (Lib.decDigits u).head? ≠ some 45 := by
  intro e
  cases hd : Lib.decDigits u with
  | nil => exact absurd hd (dec_ne _)
  | cons a t =>
    have hall := dec_digits u
    rw [hd] at e hall
    have ea : a = 45 := by simpa using e
    subst ea
    simp [isD] at hall

theorem itoa_form (n : Int) : formB (Lib.itoa n) = true ∧ vl (Lib.itoa n) = n := by
  unfold Lib.itoa
  by_cases hn : n < 0
  · rw [if_pos hn]
    have em : mag (45 :: Lib.decDigits n.natAbs) = Lib.decDigits n.natAbs := rfl
    have ev : vl (45 :: Lib.decDigits n.natAbs) = -(dv 0 (Lib.decDigits n.natAbs) : Int) := rfl
    refine ⟨?_, by rw [ev, dv_dec]; omega⟩
    unfold formB
    rw [em, if_neg (dec_head _ (by omega)), dec_digits]
    simp [dec_ne]
  · rw [if_neg hn]
    have em : mag (Lib.decDigits n.toNat) = Lib.decDigits n.toNat := if_neg (dec_head45 _)
    have ev : vl (Lib.decDigits n.toNat) = (dv 0 (Lib.decDigits n.toNat) : Int) := by unfold vl; rw [if_neg (dec_head45 _), em]
    refine ⟨?_, by rw [ev, dv_dec]; omega⟩
    unfold formB
    rw [em]
    by_cases h0 : n.toNat = 0
    · rw [h0]; decide +kernel
    · rw [if_neg (dec_head _ h0), dec_digits]; simp [dec_ne]

/-- Digits without a nought ahead are the numeral of what they come to. -/
theorem dec_dv (l : List UInt8) (hd : l.all isD = true) (hne : l ≠ []) (h0 : l.head? ≠ some 48) : 1 ≤ dv 0 l ∧ Lib.decDigits (dv 0 l) = l := by
  obtain ⟨k, hk⟩ : ∃ k, k = l.length := ⟨_, rfl⟩
  induction k generalizing l with
  | zero => exact absurd (List.length_eq_zero_iff.1 hk.symm) hne
  | succ k ih =>
    rcases l.eq_nil_or_concat with rfl | ⟨r, c, rfl⟩
    · exact absurd rfl hne
    rw [List.concat_eq_append] at *
    rw [List.all_append, Bool.and_eq_true] at hd
    have hc : 48 ≤ c.toNat ∧ c.toNat ≤ 57 := by simpa [isD] using hd.2
    have ec : UInt8.ofNat (48 + (c.toNat - 48)) = c := by
      have : 48 + (c.toNat - 48) = c.toNat := by omega
      rw [this]; simp
    by_cases hr : r = []
    · subst hr
      have hcz : c.toNat ≠ 48 := fun e => h0 (by
        have : c = 48 := UInt8.toNat_inj.1 (by rw [e]; rfl)
        simp [this])
      have e : dv 0 ([] ++ [c]) = c.toNat - 48 := by simp [dv]
      rw [e]
      refine ⟨by omega, ?_⟩
      rw [Lib.decDigits_one (by omega), ec]; rfl
    · have hh : r.head? ≠ some 48 := by
        cases r with
        | nil => exact absurd rfl hr
        | cons a t => simpa using h0
      obtain ⟨g1, g2⟩ := ih r hd.1 hr hh (by simp at hk; omega)
      rw [dv_snoc]
      refine ⟨by omega, ?_⟩
      rw [dec_big (by omega), show (dv 0 r * 10 + (c.toNat - 48)) / 10 = dv 0 r by omega, show (dv 0 r * 10 + (c.toNat - 48)) % 10 = c.toNat - 48 by omega, g2, ec]

theorem form_itoa {l : List UInt8} (h : formB l = true) : Lib.itoa (vl l) = l := by
  obtain ⟨hne, hd⟩ := form_digits h
  by_cases h48 : (mag l).head? = some 48
  · have e : l = [48] := by
      simp only [formB, Bool.and_eq_true] at h
      rw [if_pos h48] at h
      simpa using h.2
    subst e
    decide +kernel
  · obtain ⟨g1, g2⟩ := dec_dv _ hd hne h48
    by_cases hs : l.head? = some 45
    · have em : mag l = l.tail := if_pos hs
      have ev : vl l = -(dv 0 (mag l) : Int) := if_pos hs
      rw [ev]
      unfold Lib.itoa
      rw [if_pos (by omega), show (-(dv 0 (mag l) : Int)).natAbs = dv 0 (mag l) by omega, g2, em]
      cases l with
      | nil => simp at hs
      | cons a t => simp at hs; simp [hs]
    · have em : mag l = l := if_neg hs
      have ev : vl l = (dv 0 (mag l) : Int) := if_neg hs
      rw [ev]
      unfold Lib.itoa
      rw [if_neg (by omega), Int.toNat_natCast, g2, em]
end Go.Proofs.YtmjchmamkjbgkaaGreatDoor
