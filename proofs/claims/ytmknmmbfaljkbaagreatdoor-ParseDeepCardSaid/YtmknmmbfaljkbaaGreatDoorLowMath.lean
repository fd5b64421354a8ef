/- Contracts of a lower layer, several texts in one. -/
import Derived.WalkSpells
import Derived.Test.YtmknmmbfaljkbaaGreatDoorBase
import Derived.Lib.Join
import Derived.WalkKit
import Derived.Lib.ItoaMem
import Derived.Lib.ParseIntB
import Derived.Lib.Strings
/- QuoteMath -/
namespace Go.Proofs.YtmknmmbfaljkbaaGreatDoor

/-- A digit of 16, as its byte. -/
def hx (n : Nat) : UInt8 := if n < 10 then UInt8.ofNat (48 + n) else UInt8.ofNat (87 + n)
/-- What a byte stands as between quotes. -/
def one (c : UInt8) : List UInt8 :=
  if c = 34 then [92, 34] else if c = 92 then [92, 92] else if c = 10 then [92, 110] else if c = 13 then [92, 114] else if c = 9 then [92, 116]
  else if c < 32 ∨ 126 < c then [92, 120, hx (c.toNat / 16), hx (c.toNat % 16)] else [c]
def body (l : List UInt8) : List UInt8 := l.flatMap one
/-- The quoted form. -/
def quoteL (l : List UInt8) : List UInt8 := 34 :: (body l ++ [34])
def plB (c : UInt8) : Bool := decide (32 ≤ c.toNat) && (decide (c.toNat ≤ 126) && (c != 34 && c != 92))
def ltB (c : UInt8) : Bool := c == 34 || (c == 92 || (c == 10 || (c == 13 || c == 9)))
def ltN (c : UInt8) : UInt8 := if c = 34 then 34 else if c = 92 then 92 else if c = 10 then 110 else if c = 13 then 114 else if c = 9 then 116 else 0
def chB (c : UInt8) : Bool := c == 34 || (c == 92 || (c == 110 || (c == 114 || c == 116)))
def chN (c : UInt8) : UInt8 := if c = 34 then 34 else if c = 92 then 92 else if c = 110 then 10 else if c = 114 then 13 else if c = 116 then 9 else 0
/-- The number of a digit of 16; 16, if the byte is none. -/
def ux (c : UInt8) : Nat := if 48 ≤ c.toNat ∧ c.toNat ≤ 57 then c.toNat - 48 else if 97 ≤ c.toNat ∧ c.toNat ≤ 102 then c.toNat - 87 else 16
def fdV (x y : UInt8) : UInt8 := UInt8.ofNat (16 * ux x + ux y)
def fdB (x y : UInt8) : Bool := decide (ux x < 16) && (decide (ux y < 16) && (!ltB (fdV x y) && !plB (fdV x y)))

theorem all8 {P : UInt8 → Prop} (h : ∀ n : Fin 256, P (UInt8.ofFin n)) (c : UInt8) : P c := by
  have := h c.toFin
  rwa [show UInt8.ofFin c.toFin = c from rfl] at this

theorem one_plain : ∀ c, plB c = true → one c = [c] := all8 (by decide +kernel)
theorem one_lt : ∀ c, ltB c = true → one c = [92, ltN c] := all8 (by decide +kernel)
theorem one_hex : ∀ c, plB c = false → ltB c = false → one c = [92, 120, hx (c.toNat / 16), hx (c.toNat % 16)] := all8 (by decide +kernel)
theorem plain_lt : ∀ c, plB c = true → ltB c = false := all8 (by decide +kernel)
theorem plain_92 : ∀ c, plB c = true → c ≠ 92 := all8 (by decide +kernel)
theorem plain_34 : ∀ c, plB c = true → c ≠ 34 := all8 (by decide +kernel)
theorem ch_lt : ∀ c, ltB c = true → chB (ltN c) = true ∧ chN (ltN c) = c ∧ ltN c ≠ 120 := all8 (by decide +kernel)
theorem one_ch : ∀ d, chB d = true → one (chN d) = [92, d] := all8 (by decide +kernel)
theorem ux_hx : ∀ c : UInt8, fdV (hx (c.toNat / 16)) (hx (c.toNat % 16)) = c ∧ ux (hx (c.toNat / 16)) < 16 ∧ ux (hx (c.toNat % 16)) < 16 := all8 (by decide +kernel)
theorem hx_ux : ∀ x, ux x < 16 → hx (ux x) = x := all8 (by decide +kernel)
theorem one_len : ∀ c, 1 ≤ (one c).length ∧ (one c).length ≤ 4 := all8 (by decide +kernel)
theorem one_len1 : ∀ c, plB c = false → 2 ≤ (one c).length := all8 (by decide +kernel)
theorem one_head : ∀ c, (one c).head? ≠ some 34 := all8 (by decide +kernel)
theorem ch_120 : chB 120 = false := by decide
theorem lt_no : ∀ c, ltB c = false → ltN c = 0 := all8 (by decide +kernel)
theorem ch_no : ∀ c, chB c = false → chN c = 0 := all8 (by decide +kernel)

/-- The byte as which a text begins, and in how many bytes it stands; 0 and 0, if there is none: the steps of the code. -/
def cc : List UInt8 → UInt8 × Nat
  | [] => (0, 0)
  | a :: r => if plB a = true then (a, 1) else if a ≠ 92 then (0, 0) else
    match r with
    | [] => (0, 0)
    | d :: r' => if chB d = true then (chN d, 2) else if d ≠ 120 then (0, 0) else
      match r' with
      | x :: y :: _ => if fdB x y = true then (fdV x y, 4) else (0, 0)
      | _ => (0, 0)

theorem fdB_hx (c : UInt8) (hp : plB c = false) (hl : ltB c = false) : fdB (hx (c.toNat / 16)) (hx (c.toNat % 16)) = true := by
  obtain ⟨h1, h2, h3⟩ := ux_hx c
  unfold fdB
  rw [h1, hp, hl]
  simp [h2, h3]

theorem one_fd (x y : UInt8) (h : fdB x y = true) : one (fdV x y) = [92, 120, x, y] := by
  unfold fdB at h
  simp only [Bool.and_eq_true, decide_eq_true_eq, Bool.not_eq_true'] at h
  obtain ⟨h1, h2, h3, h4⟩ := h
  rw [one_hex _ h4 h3]
  have e : (fdV x y).toNat = 16 * ux x + ux y := by
    unfold fdV
    rw [UInt8.toNat_ofNat']
    omega
  rw [e, show (16 * ux x + ux y) / 16 = ux x by omega, show (16 * ux x + ux y) % 16 = ux y by omega, hx_ux x h1, hx_ux y h2]

theorem cc_one (c : UInt8) (x : List UInt8) : cc (one c ++ x) = (c, (one c).length) := by
  by_cases hp : plB c = true
  · rw [one_plain c hp]
    simp [cc, hp]
  have hp' : plB c = false := by simpa using hp
  by_cases hl : ltB c = true
  · obtain ⟨h1, h2, h3⟩ := ch_lt c hl
    rw [one_lt c hl]
    have p92 : plB 92 = false := by decide
    simp [cc, p92, h1, h2]
  · have hl' : ltB c = false := by simpa using hl
    rw [one_hex c hp' hl']
    have p92 : plB 92 = false := by decide
    simp [cc, p92, ch_120, fdB_hx c hp' hl', (ux_hx c).1]

theorem cc_some (l : List UInt8) (h : (cc l).2 ≠ 0) : ∃ x, l = one (cc l).1 ++ x ∧ (one (cc l).1).length = (cc l).2 := by
  unfold cc at h ⊢
  split at h
  · simp at h
  · rename_i a r
    by_cases hp : plB a = true
    · simp only [if_pos hp]
      exact ⟨r, by rw [one_plain a hp]; rfl, by rw [one_plain a hp]; rfl⟩
    · simp only [if_neg hp] at h ⊢
      by_cases h92 : a ≠ 92
      · simp [if_pos h92] at h
      · simp only [if_neg h92] at h ⊢
        have h92' : a = 92 := by simpa using h92
        subst h92'
        split at h
        · simp at h
        · rename_i d r'
          by_cases hd : chB d = true
          · simp only [if_pos hd]
            exact ⟨r', by rw [one_ch d hd]; rfl, by rw [one_ch d hd]; rfl⟩
          · simp only [if_neg hd] at h ⊢
            by_cases h120 : d ≠ 120
            · simp [if_pos h120] at h
            · simp only [if_neg h120] at h ⊢
              have h120' : d = 120 := by simpa using h120
              subst h120'
              split at h
              · rename_i x y z
                by_cases hf : fdB x y = true
                · simp only [if_pos hf]
                  exact ⟨z, by rw [one_fd x y hf]; rfl, by rw [one_fd x y hf]; rfl⟩
                · simp [if_neg hf] at h
              · simp at h

theorem cc_zero (l : List UInt8) (h : (cc l).2 = 0) : (cc l).1 = 0 := by
  unfold cc at h ⊢
  split
  · rfl
  · rename_i a r
    by_cases hp : plB a = true
    · simp [if_pos hp] at h
    · simp only [if_neg hp] at h ⊢
      by_cases h92 : a ≠ 92
      · simp [if_pos h92]
      · simp only [if_neg h92] at h ⊢
        split
        · rfl
        · rename_i d r'
          by_cases hd : chB d = true
          · simp [if_pos hd] at h
          · simp only [if_neg hd] at h ⊢
            by_cases h120 : d ≠ 120
            · simp [if_pos h120]
            · simp only [if_neg h120] at h ⊢
              split
              · rename_i x y z
                by_cases hf : fdB x y = true
                · simp [if_pos hf] at h
                · simp [if_neg hf]
              · rfl

theorem cc_no (l : List UInt8) (h : ∀ c x, l ≠ one c ++ x) : cc l = (0, 0) := by
  by_cases h0 : (cc l).2 = 0
  · rw [Prod.ext_iff]
    exact ⟨cc_zero l h0, h0⟩
  · obtain ⟨x, hx, _⟩ := cc_some l h0
    exact absurd hx (h _ _)

theorem one_inj {c c' : UInt8} {x x' : List UInt8} (h : one c ++ x = one c' ++ x') : c = c' ∧ x = x' := by
  have h1 := cc_one c x
  rw [h, cc_one c' x'] at h1
  have e : c' = c := by simpa using (Prod.ext_iff.1 h1).1
  subst e
  exact ⟨rfl, List.append_cancel_left h⟩

theorem body_cons (c : UInt8) (l : List UInt8) : body (c :: l) = one c ++ body l := by simp [body]
theorem body_snoc (l : List UInt8) (c : UInt8) : body (l ++ [c]) = body l ++ one c := by simp [body]
theorem body_append (l m : List UInt8) : body (l ++ m) = body l ++ body m := by simp [body]

theorem one_not34 {c : UInt8} {x y : List UInt8} (h : one c ++ x = 34 :: y) : False := by
  have h1 := one_head c
  have h2 := (one_len c).1
  cases hc : one c with
  | nil => rw [hc] at h2; simp at h2
  | cons a r =>
    rw [hc] at h h1
    simp at h h1
    exact h1 h.1

/-- Where nothing can be read on and no quote stands, no quoted form stands at all. -/
theorem stuck : ∀ (t t' rest y : List UInt8), body t ++ rest = body t' ++ 34 :: y → (∀ z, rest ≠ 34 :: z) → (∀ c x, rest ≠ one c ++ x) → False
  | [], [], rest, y, h, h1, _ => h1 y (by simpa [body] using h)
  | [], c :: t', rest, y, h, _, h2 => h2 c (body t' ++ 34 :: y) (by rw [body_cons, List.append_assoc] at h; simpa [body] using h)
  | c :: t, [], rest, y, h, _, _ => one_not34 (c := c) (x := body t ++ rest) (y := y) (by rw [body_cons, List.append_assoc] at h; simpa [body] using h)
  | c :: t, c' :: t', rest, y, h, h1, h2 => by
    rw [body_cons, body_cons, List.append_assoc, List.append_assoc] at h
    exact stuck t t' rest y (one_inj h).2 h1 h2

theorem body_len (l : List UInt8) : l.length ≤ (body l).length ∧ (body l).length ≤ 4 * l.length := by
  induction l with
  | nil => simp [body]
  | cons c l ih =>
    rw [body_cons, List.length_append, List.length_cons]
    have := one_len c
    omega
theorem quote_len (l : List UInt8) : (quoteL l).length = (body l).length + 2 := by simp [quoteL]
theorem body_plain (l : List UInt8) (h : l.all plB = true) : body l = l := by
  induction l with
  | nil => rfl
  | cons c l ih =>
    rw [List.all_cons, Bool.and_eq_true] at h
    rw [body_cons, one_plain c h.1, ih h.2]; rfl
theorem body_longer (l : List UInt8) (h : l.all plB = false) : l.length < (body l).length := by
  induction l with
  | nil => simp at h
  | cons c l ih =>
    rw [List.all_cons, Bool.and_eq_false_iff] at h
    rw [body_cons, List.length_append, List.length_cons]
    rcases h with h | h
    · have := one_len1 c h
      have := (body_len l).1
      omega
    · have := (one_len c).1
      have := ih h
      omega
/-- A text stands as it is just if each of its bytes does. -/
theorem plain_iff (l : List UInt8) : (quoteL l == 34 :: (l ++ [34])) = l.all plB := by
  by_cases h : l.all plB = true
  · rw [h, quoteL, body_plain l h]; simp
  · have h' : l.all plB = false := by simpa using h
    rw [h', beq_eq_false_iff_ne]
    intro e
    have := congrArg List.length e
    simp [quoteL] at this
    have := body_longer l h'
    omega
theorem all_takeP (p : UInt8 → Bool) (l : List UInt8) (k : Nat) (h : k < l.length) : (l.take (k + 1)).all p = ((l.take k).all p && p l[k]) := by
  rw [List.take_succ_eq_append_getElem h, List.all_append, List.all_cons, List.all_nil, Bool.and_true]
theorem all_deadP (p : UInt8 → Bool) (l : List UInt8) (k : Nat) (h : k < l.length) (hd : p l[k] = false) : l.all p = false := by
  rw [List.all_eq_false]
  exact ⟨l[k], List.getElem_mem h, by simp [hd]⟩
end Go.Proofs.YtmknmmbfaljkbaaGreatDoor

/- ScMath -/
namespace Go.Proofs.YtmknmmbfaljkbaaGreatDoor
open Go.RowKit
set_option linter.unusedVariables false

theorem sc_size (s : ByteArray) : s.size = s.data.toList.length := (Array.length_toList (xs := s.data)).symm
theorem sc_tl (s : ByteArray) : s.toList = s.data.toList := ByteArray.toList_eq s
theorem sc_eq {s : ByteArray} {t : List UInt8} (h : s.data.toList = t) : s = ⟨t.toArray⟩ := by
  cases s with
  | mk d => subst h; simp
theorem sc_ext {s t : ByteArray} (h : s.data.toList = t.data.toList) : s = t := (sc_eq (s := s) h).trans (sc_eq (s := t) rfl).symm
theorem sc_empty {s : ByteArray} (h : s.data.toList = []) : s = ByteArray.empty := sc_ext h

/-- A letter, a digit, and what names are made of. -/
def letterB (c : UInt8) : Bool := (decide (65 ≤ c.toNat) && decide (c.toNat ≤ 90)) || (decide (97 ≤ c.toNat) && decide (c.toNat ≤ 122))
def digitB (c : UInt8) : Bool := decide (48 ≤ c.toNat) && decide (c.toNat ≤ 57)
def nameC (c : UInt8) : Bool := letterB c || digitB c || c == 95
/-- Whether a text is spelt as a name. -/
def speltL : List UInt8 → Bool
  | [] => false
  | c :: r => decide ((c :: r).length ≤ 32) && (!digitB c && (c :: r).all nameC)
/-- The words. -/
def wordsL : List ByteArray := [⟨#[97, 99, 99, 101, 112, 116]⟩, ⟨#[97, 108, 115, 111]⟩, ⟨#[97, 110, 100]⟩, ⟨#[98, 111, 111, 108]⟩, ⟨#[100, 111]⟩, ⟨#[101, 118, 101, 110, 116]⟩, ⟨#[101, 120, 105, 115, 116, 115]⟩, ⟨#[102, 97, 108, 115, 101]⟩, ⟨#[102, 111, 114, 97, 108, 108]⟩, ⟨#[102, 114, 101, 101]⟩, ⟨#[105, 102]⟩, ⟨#[105, 110, 116]⟩, ⟨#[110, 101, 120, 116]⟩, ⟨#[110, 111, 116]⟩, ⟨#[111, 110]⟩, ⟨#[111, 114]⟩, ⟨#[113, 101, 97]⟩, ⟨#[115, 107, 105, 112]⟩, ⟨#[115, 116, 97, 114, 116]⟩, ⟨#[115, 116, 114, 105, 110, 103]⟩, ⟨#[116, 111]⟩, ⟨#[116, 114, 117, 101]⟩]
def isT (s t : ByteArray) : Bool := s.toList == t.toList
theorem isT_iff {s t : ByteArray} : isT s t = true ↔ s = t := by
  unfold isT
  rw [beq_iff_eq, sc_tl, sc_tl]
  exact ⟨sc_ext, fun h => by rw [h]⟩
theorem isT_comm (s t : ByteArray) : isT s t = isT t s := by
  rw [Bool.eq_iff_iff, isT_iff, isT_iff]
  exact ⟨Eq.symm, Eq.symm⟩
theorem isT_refl (s : ByteArray) : isT s s = true := isT_iff.2 rfl
def wordB (s : ByteArray) : Bool := wordsL.any (isT s)
def speltB (s : ByteArray) : Bool := speltL s.data.toList
def lineB (s : ByteArray) : Bool := isT s ⟨#[95]⟩
/-- Whether a text is a name. -/
def nameB (s : ByteArray) : Bool := speltB s && (!wordB s && !lineB s)
/-- The word at a place. -/
def wordAt (n : Nat) : ByteArray := wordsL.getD n ⟨#[]⟩
theorem words_drop (n : Nat) (h : n < 22) : wordsL.drop n = wordAt n :: wordsL.drop (n + 1) := by
  rw [List.drop_eq_getElem_cons (show n < wordsL.length from h), wordAt, List.getD, List.getElem?_eq_getElem (show n < wordsL.length from h)]
  rfl
/-- No word so far. -/
def noWord (s : ByteArray) (n : Nat) : Prop := wordB s = (wordsL.drop n).any (isT s)
theorem noWord_zero (s : ByteArray) : noWord s 0 := rfl
theorem noWord_step {s : ByteArray} {n : Nat} (h : noWord s n) (hn : n < 22) (e : isT s (wordAt n) = false) : noWord s (n + 1) := by
  unfold noWord at h ⊢
  rw [h, words_drop n hn, List.any_cons, e]; rfl
theorem noWord_hit {s : ByteArray} {n : Nat} (h : noWord s n) (hn : n < 22) (e : isT s (wordAt n) = true) : wordB s = true := by
  unfold noWord at h
  rw [h, words_drop n hn, List.any_cons, e]; rfl
theorem noWord_end {s : ByteArray} (h : noWord s 22) : wordB s = false := by
  unfold noWord at h
  rw [h]; rfl

/-- Spelling, byte by byte. -/
theorem spelt_none {s : ByteArray} (h : s.size = 0) : speltB s = false := by
  unfold speltB
  rw [sc_size] at h
  rw [List.length_eq_zero_iff.1 h]; rfl
theorem spelt_long {s : ByteArray} (h : 32 < s.size) : speltB s = false := by
  unfold speltB
  rw [sc_size] at h
  cases e : s.data.toList with
  | nil => rw [e] at h; simp at h
  | cons c r =>
    rw [e] at h
    rw [speltL, decide_eq_false (by omega)]; rfl
theorem spelt_digit {s : ByteArray} (h : 0 < s.size) (e : digitB (s[0]'h) = true) : speltB s = false := by
  unfold speltB
  have hh : s.data.toList[0]? = some s[0] := by
    rw [sc_size] at h
    rw [List.getElem?_eq_getElem h]; rfl
  cases e2 : s.data.toList with
  | nil => rw [e2] at hh; simp at hh
  | cons c r =>
    rw [e2] at hh
    have : c = s[0] := by simpa using hh
    rw [speltL, this, e]
    simp
theorem spelt_at {s : ByteArray} {n : Nat} (h : n < s.size) : s.data.toList[n]? = some s[n] := by
  rw [sc_size] at h
  rw [List.getElem?_eq_getElem h]; rfl
theorem spelt_bad {s : ByteArray} {n : Nat} (h : n < s.size) (e : nameC s[n] = false) : speltB s = false := by
  unfold speltB
  have hm : s[n] ∈ s.data.toList := List.mem_of_getElem? (spelt_at h)
  cases e2 : s.data.toList with
  | nil => rw [e2] at hm; simp at hm
  | cons c r =>
    rw [e2] at hm
    have : (c :: r).all nameC = false := by
      rw [Bool.eq_false_iff]
      intro h2
      have := List.all_eq_true.1 h2 _ hm
      rw [e] at this; cases this
    rw [speltL, this]
    simp
/-- All bytes so far are what names are made of. -/
def namesTo (s : ByteArray) (n : Nat) : Prop := ∀ c ∈ s.data.toList.take n, nameC c = true
theorem namesTo_zero (s : ByteArray) : namesTo s 0 := fun c hc => by simp at hc
theorem namesTo_step {s : ByteArray} {n : Nat} (h : namesTo s n) (hn : n < s.size) (e : nameC s[n] = true) : namesTo s (n + 1) := by
  intro c hc
  rw [List.take_add_one, spelt_at hn] at hc
  rcases List.mem_append.1 hc with h1 | h1
  · exact h c h1
  · simp at h1; rw [h1]; exact e
theorem spelt_good {s : ByteArray} (h0 : 0 < s.size) (h1 : s.size ≤ 32) (e : digitB (s[0]'h0) = false) (h : namesTo s s.size) : speltB s = true := by
  unfold speltB
  unfold namesTo at h
  rw [sc_size, List.take_length] at h
  have hh := spelt_at h0
  rw [sc_size] at h1
  cases e2 : s.data.toList with
  | nil => rw [e2] at hh; simp at hh
  | cons c r =>
    rw [e2] at hh h h1
    have : c = s[0] := by simpa using hh
    rw [speltL, decide_eq_true h1, List.all_eq_true.2 h, this, e]
    rfl

/-- A declaration: its name, and its kinds. -/
abbrev Dc := ByteArray × List Int
/-- The name at a place. -/
def nmAt (L : List Dc) (n : Nat) : ByteArray := (L.getD n default).1
def ksAt (L : List Dc) (n : Nat) : List Int := (L.getD n default).2
/-- The first place at which something is so. -/
def firstN (p : Nat → Bool) (n : Nat) : Option Nat := (List.range n).find? p
theorem first_some {p : Nat → Bool} {n i : Nat} (h : ∀ j, j < i → p j = false) (hi : i < n) (e : p i = true) : firstN p n = some i := by
  unfold firstN
  rw [List.find?_range_eq_some]
  exact ⟨e, List.mem_range.2 hi, fun j hj => by rw [h j hj]; rfl⟩
theorem first_none {p : Nat → Bool} {n : Nat} (h : ∀ j, j < n → p j = false) : firstN p n = none := by
  unfold firstN
  rw [List.find?_range_eq_none]
  exact fun j hj => by rw [h j hj]; rfl
/-- None so far. -/
def noneTo (p : Nat → Bool) (n : Nat) : Prop := ∀ j, j < n → p j = false
theorem noneTo_zero (p : Nat → Bool) : noneTo p 0 := fun j h => by omega
theorem noneTo_step {p : Nat → Bool} {n : Nat} (h : noneTo p n) (e : p n = false) : noneTo p (n + 1) := fun j hj => by
  by_cases hn : j = n
  · rw [hn]; exact e
  · exact h j (by omega)
/-- Where a name is. -/
def findL (L : List Dc) (x : ByteArray) : Option Nat := firstN (fun n => isT (nmAt L n) x) L.length
def findI (L : List Dc) (x : ByteArray) : Int := ((findL L x).getD 0 : Nat)
def findB (L : List Dc) (x : ByteArray) : Bool := (findL L x).isSome
/-- .. as the reference says it. -/
def findR (L : List Dc) (x : ByteArray) : Int := match findL L x with | some n => n | none => -1
theorem find_some {L : List Dc} {x : ByteArray} {n : Nat} (h : noneTo (fun n => isT (nmAt L n) x) n) (hn : n < L.length) (e : isT (nmAt L n) x = true) : findL L x = some n := first_some h hn e
theorem find_none {L : List Dc} {x : ByteArray} (h : noneTo (fun n => isT (nmAt L n) x) L.length) : findL L x = none := first_none h
theorem nmAt_take {L : List Dc} {n j : Nat} (h : j < n) : nmAt (L.take n) j = nmAt L j := by
  simp [nmAt, List.getD, h]
/-- A name that stands ahead. -/
theorem twice_iff {L : List Dc} {n : Nat} (hn : n < L.length) : findB (L.take n) (nmAt L n) = true ↔ ∃ j, j < n ∧ isT (nmAt L j) (nmAt L n) = true := by
  unfold findB findL firstN
  rw [List.find?_isSome]
  simp only [List.mem_range, List.length_take]
  constructor
  · rintro ⟨j, h1, h2⟩
    have hj : j < n := by omega
    rw [nmAt_take hj] at h2
    exact ⟨j, hj, h2⟩
  · rintro ⟨j, h1, h2⟩
    exact ⟨j, by omega, by rw [nmAt_take h1]; exact h2⟩
theorem twice_ref {L : List Dc} {n : Nat} (hn : n < L.length) : decide (findR L (nmAt L n) < (n : Int)) = findB (L.take n) (nmAt L n) := by
  rw [Bool.eq_iff_iff, twice_iff hn, decide_eq_true_iff]
  unfold findR
  constructor
  · intro h
    cases e : findL L (nmAt L n) with
    | none =>
      unfold findL firstN at e
      rw [List.find?_range_eq_none] at e
      have := e n hn
      rw [isT_refl] at this; cases this
    | some j =>
      rw [e] at h
      unfold findL firstN at e
      rw [List.find?_range_eq_some] at e
      exact ⟨j, by simpa using h, e.1⟩
  · rintro ⟨j, h1, h2⟩
    cases e : findL L (nmAt L n) with
    | none => show (-1 : Int) < _; omega
    | some i =>
      unfold findL firstN at e
      rw [List.find?_range_eq_some] at e
      show (i : Int) < n
      rcases Nat.lt_or_ge i n with h | h
      · omega
      · have := e.2.2 j (by omega)
        rw [h2] at this; cases this

/-- A kind's name, as bytes; and whether a number is no kind's. -/
def kindL (k : Int) : List UInt8 := if k = 1 then [105, 110, 116] else if k = 2 then [115, 116, 114, 105, 110, 103] else if k = 3 then [98, 111, 111, 108] else []
def kindT (k : Int) : ByteArray := ⟨(kindL k).toArray⟩
def noKind (k : Int) : Bool := !decide (1 ≤ k ∧ k ≤ 3)
theorem noKind_iff (k : Int) : noKind k = isT (kindT k) ⟨#[]⟩ := by
  unfold noKind isT
  rw [sc_tl, sc_tl]
  unfold kindT kindL
  by_cases h1 : k = 1
  · subst h1; decide
  by_cases h2 : k = 2
  · subst h2; decide
  by_cases h3 : k = 3
  · subst h3; decide
  rw [if_neg h1, if_neg h2, if_neg h3, decide_eq_false (by omega)]; decide
theorem kindL_len (k : Int) : (kindL k).length ≤ 6 := by
  unfold kindL
  split
  · decide
  · split
    · decide
    · split <;> decide
/-- What is wrong with a declaration: an error's number; 0: nothing. -/
def wrongAt (L : List Dc) (n : Nat) : Nat :=
  if nameB (nmAt L n) = false then 11 else if findB (L.take n) (nmAt L n) = true then 10 else if 8 < (ksAt L n).length then 14 else if (ksAt L n).any noKind = true then 8 else 0
/-- What is wrong with a schema, and where. -/
def checkL (L : List Dc) : Int × Nat :=
  if 32 < L.length then (32, 14) else match firstN (fun n => wrongAt L n != 0) L.length with
    | some n => (n, wrongAt L n)
    | none => (-1, 0)
theorem check_long {L : List Dc} (h : 32 < L.length) : checkL L = (32, 14) := by rw [checkL, if_pos h]
theorem check_at {L : List Dc} {n : Nat} (h : ¬ 32 < L.length) (hn : n < L.length) (h0 : noneTo (fun n => wrongAt L n != 0) n) (e : wrongAt L n ≠ 0) : checkL L = ((n : Int), wrongAt L n) := by
  rw [checkL, if_neg h, first_some h0 hn (by simpa using e)]
theorem check_none {L : List Dc} (h : ¬ 32 < L.length) (h0 : noneTo (fun n => wrongAt L n != 0) L.length) : checkL L = (-1, 0) := by
  rw [checkL, if_neg h, first_none h0]
theorem wrong_name {L : List Dc} {n : Nat} (h : nameB (nmAt L n) = false) : wrongAt L n = 11 := by rw [wrongAt, if_pos h]
theorem wrong_twice {L : List Dc} {n : Nat} (h : nameB (nmAt L n) = true) (h2 : findB (L.take n) (nmAt L n) = true) : wrongAt L n = 10 := by rw [wrongAt, if_neg (by rw [h]; simp), if_pos h2]
theorem wrong_many {L : List Dc} {n : Nat} (h : nameB (nmAt L n) = true) (h2 : findB (L.take n) (nmAt L n) = false) (h3 : 8 < (ksAt L n).length) : wrongAt L n = 14 := by
  rw [wrongAt, if_neg (by rw [h]; simp), if_neg (by rw [h2]; simp), if_pos h3]
theorem wrong_kind {L : List Dc} {n : Nat} (h : nameB (nmAt L n) = true) (h2 : findB (L.take n) (nmAt L n) = false) (h3 : ¬ 8 < (ksAt L n).length) (h4 : (ksAt L n).any noKind = true) : wrongAt L n = 8 := by
  rw [wrongAt, if_neg (by rw [h]; simp), if_neg (by rw [h2]; simp), if_neg h3, if_pos h4]
theorem wrong_not {L : List Dc} {n : Nat} (h : nameB (nmAt L n) = true) (h2 : findB (L.take n) (nmAt L n) = false) (h3 : ¬ 8 < (ksAt L n).length) (h4 : (ksAt L n).any noKind = false) : wrongAt L n = 0 := by
  rw [wrongAt, if_neg (by rw [h]; simp), if_neg (by rw [h2]; simp), if_neg h3, if_neg (by rw [h4]; simp)]

/-- A declaration's text: up to a kind, and the whole. -/
def kindsN (V : List Int) : Nat → List UInt8
  | 0 => []
  | n + 1 => if n = 0 then kindL (V.getD 0 0) else kindsN V n ++ [44, 32] ++ kindL (V.getD n 0)
def textN (x : ByteArray) (V : List Int) (n : Nat) : List UInt8 := x.data.toList ++ [40] ++ kindsN V n
def scTextL (x : ByteArray) (V : List Int) : List UInt8 := textN x V V.length ++ [41]
def textT (x : ByteArray) (V : List Int) : ByteArray := ⟨(scTextL x V).toArray⟩
theorem kinds_join : ∀ (V : List Int) (n : Nat), n ≤ V.length → kindsN V n = Lib.join ((V.take n).map kindL) [44, 32]
  | V, 0, _ => rfl
  | V, n + 1, h => by
    have ih := kinds_join V n (by omega)
    have ht : V.take (n + 1) = V.take n ++ [V.getD n 0] := by
      rw [List.take_succ_eq_append_getElem (by omega)]
      simp [List.getD, show n < V.length by omega]
    rw [kindsN]
    by_cases h0 : n = 0
    · subst h0
      rw [if_pos rfl, ht]
      simp [Lib.join_one]
    · rw [if_neg h0, ih, ht]
      cases hV : V.take n with
      | nil =>
        have := congrArg List.length hV
        rw [List.length_take, List.length_nil] at this
        omega
      | cons y r =>
        rw [List.cons_append, List.map_cons, List.map_cons, List.map_append, Lib.join_cons, Lib.join_cons, Lib.joinTail, Lib.joinTail]
        simp
theorem kinds_len : ∀ (V : List Int) (n : Nat), (kindsN V n).length ≤ 8 * n
  | V, 0 => by simp [kindsN]
  | V, n + 1 => by
    have ih := kinds_len V n
    rw [kindsN]
    split
    · have := kindL_len (V.getD 0 0)
      omega
    · have := kindL_len (V.getD n 0)
      simp only [List.length_append, List.length_cons, List.length_nil]
      omega
theorem text_same {x y : ByteArray} {V : List Int} (h : scTextL x V = scTextL y V) : x = y := by
  unfold scTextL textN at h
  exact sc_ext (List.append_cancel_right (List.append_cancel_right (List.append_cancel_right h)))

theorem byteB (c : UInt8) (n : Nat) (b : Bool) (h : decide (n ≤ c.toNat) = b) : decide ((n : Int) ≤ (c.toNat : Int)) = b := by
  rw [← h, decide_eq_decide]; omega
theorem byteT (c : UInt8) (n : Nat) (b : Bool) (h : decide (c.toNat ≤ n) = b) : decide ((c.toNat : Int) ≤ (n : Int)) = b := by
  rw [← h, decide_eq_decide]; omega
theorem byte95 (c : UInt8) : ((c.toNat : Int) == 95) = (c == 95) := by
  rw [Bool.eq_iff_iff, beq_iff_eq, beq_iff_eq]
  constructor
  · intro h; exact UInt8.toNat_inj.1 (by show c.toNat = 95; omega)
  · rintro rfl; rfl
theorem nameC_letter {c : UInt8} (h : letterB c = true) : nameC c = true := by unfold nameC; rw [h]; rfl
theorem nameC_digit {c : UInt8} (h : letterB c = false) (h2 : digitB c = true) : nameC c = true := by unfold nameC; rw [h, h2]; rfl
theorem nameC_line {c : UInt8} (h : letterB c = false) (h2 : digitB c = false) : nameC c = (c == 95) := by unfold nameC; rw [h, h2]; rfl
/-- The table of words, as values. -/
def wordsV : Array Value := #[.string ⟨#[97, 99, 99, 101, 112, 116]⟩, .string ⟨#[97, 108, 115, 111]⟩, .string ⟨#[97, 110, 100]⟩, .string ⟨#[98, 111, 111, 108]⟩, .string ⟨#[100, 111]⟩, .string ⟨#[101, 118, 101, 110, 116]⟩, .string ⟨#[101, 120, 105, 115, 116, 115]⟩, .string ⟨#[102, 97, 108, 115, 101]⟩, .string ⟨#[102, 111, 114, 97, 108, 108]⟩, .string ⟨#[102, 114, 101, 101]⟩, .string ⟨#[105, 102]⟩, .string ⟨#[105, 110, 116]⟩, .string ⟨#[110, 101, 120, 116]⟩, .string ⟨#[110, 111, 116]⟩, .string ⟨#[111, 110]⟩, .string ⟨#[111, 114]⟩, .string ⟨#[113, 101, 97]⟩, .string ⟨#[115, 107, 105, 112]⟩, .string ⟨#[115, 116, 97, 114, 116]⟩, .string ⟨#[115, 116, 114, 105, 110, 103]⟩, .string ⟨#[116, 111]⟩, .string ⟨#[116, 114, 117, 101]⟩]
end Go.Proofs.YtmknmmbfaljkbaaGreatDoor

/- LexMath -/
namespace Go.Proofs.YtmknmmbfaljkbaaGreatDoor
set_option linter.unusedVariables false

/-- A token: its kind, its text, its place. -/
structure Tk where
  k : Nat
  t : List UInt8
  line : Nat
  col : Nat
instance : Inhabited Tk := ⟨⟨0, [], 0, 0⟩⟩
def blankB (c : UInt8) : Bool := c == 32 || (c == 10 || (c == 13 || c == 9))
/-- How many bytes at the beginning are blanks and remarks (true: inside a remark). -/
def blankN : List UInt8 → Bool → Nat
  | [], _ => 0
  | c :: r, true => if c = 10 then blankN r false + 1 else blankN r true + 1
  | c :: r, false => if c = 35 then blankN r true + 1 else if blankB c then blankN r false + 1 else 0
theorem blank_le : ∀ (l : List UInt8) (b : Bool), blankN l b ≤ l.length
  | [], _ => by simp [blankN]
  | c :: r, true => by
    have h1 := blank_le r true
    have h2 := blank_le r false
    rw [blankN, List.length_cons]
    split <;> omega
  | c :: r, false => by
    have h1 := blank_le r true
    have h2 := blank_le r false
    rw [blankN, List.length_cons]
    split
    · omega
    · split <;> omega
/-- The place behind bytes. -/
def adv : List UInt8 → Nat × Nat → Nat × Nat
  | [], p => p
  | c :: r, p => adv r (if c = 10 then (p.1 + 1, 1) else (p.1, p.2 + 1))
theorem adv_append : ∀ (l m : List UInt8) (p : Nat × Nat), adv (l ++ m) p = adv m (adv l p)
  | [], m, p => rfl
  | c :: r, m, p => by rw [List.cons_append, adv, adv, adv_append r m]
/-- How many bytes the sign takes with which a text begins; 0: none. -/
def signN : List UInt8 → Nat
  | [] => 0
  | c :: r => if (c = 61 ∨ c = 33 ∨ c = 60 ∨ c = 62) ∧ r.head? = some 61 then 2 else if c = 60 ∨ c = 62 ∨ c = 61 ∨ c = 40 ∨ c = 41 ∨ c = 44 ∨ c = 58 ∨ c = 43 ∨ c = 45 ∨ c = 42 ∨ c = 47 ∨ c = 37 then 1 else 0
theorem sign_le : ∀ l, signN l ≤ l.length
  | [] => by simp [signN]
  | [c] => by
    rw [signN]
    split
    · rename_i h; simp at h
    · split <;> simp
  | c :: d :: r => by
    rw [signN]
    split
    · simp
    · split <;> simp
/-- The bytes of a name, a word or a number at the beginning. -/
def runL (l : List UInt8) : List UInt8 := l.takeWhile nameC
open Classical in
/-- The text whose quoted form a text begins with. -/
noncomputable def cutL (l : List UInt8) : Option (List UInt8) := if h : ∃ t y, l = quoteL t ++ y then some h.choose else none
theorem body_one : ∀ (t t' y y' : List UInt8), body t ++ 34 :: y = body t' ++ 34 :: y' → t = t'
  | [], [], _, _, _ => rfl
  | [], c :: t', y, y', h => (one_not34 (c := c) (x := body t' ++ 34 :: y') (y := y) (by rw [body_cons, List.append_assoc] at h; exact (by simpa [body] using h.symm))).elim
  | c :: t, [], y, y', h => (one_not34 (c := c) (x := body t ++ 34 :: y) (y := y') (by rw [body_cons, List.append_assoc] at h; exact (by simpa [body] using h))).elim
  | c :: t, c' :: t', y, y', h => by
    rw [body_cons, body_cons, List.append_assoc, List.append_assoc] at h
    obtain ⟨rfl, h2⟩ := one_inj h
    rw [body_one t t' y y' h2]
theorem quote_one {t t' y y' : List UInt8} (h : quoteL t ++ y = quoteL t' ++ y') : t = t' := by
  refine body_one t t' y y' ?_
  simpa [quoteL] using h
theorem cut_yes (t y : List UInt8) : cutL (quoteL t ++ y) = some t := by
  have h : ∃ t' y', quoteL t ++ y = quoteL t' ++ y' := ⟨t, y, rfl⟩
  rw [cutL, dif_pos h]
  obtain ⟨y', hy⟩ := h.choose_spec
  rw [← quote_one hy]
theorem cut_no {l : List UInt8} (h : ∀ t y, l ≠ quoteL t ++ y) : cutL l = none := by
  rw [cutL, dif_neg (by rintro ⟨t, y, e⟩; exact h t y e)]
theorem cut_some {l t : List UInt8} (h : cutL l = some t) : ∃ y, l = quoteL t ++ y := by
  rw [cutL] at h
  split at h
  · rename_i h1
    cases h
    exact h1.choose_spec
  · cases h
/-- The token that letters, digits and _ make. -/
def wordT (x : List UInt8) : Except Nat (Nat × List UInt8 × Nat) :=
  if x.head?.any digitB = true then
    if x.all digitB = false then .error 4
    else if 1 < x.length ∧ x.head? = some 48 then .error 4
    else if 32 < x.length then .error 3
    else .ok (3, x, x.length)
  else if 32 < x.length then .error 3
  else if (nameB ⟨x.toArray⟩ || x == [95]) = true then .ok (1, x, x.length)
  else .ok (2, x, x.length)
/-- The token with which a text begins (no blanks): kind, text, how many bytes; or what is wrong. -/
noncomputable def firstT (l : List UInt8) : Except Nat (Nat × List UInt8 × Nat) :=
  if l.head? = some 34 then
    match cutL l with
    | none => .error 17
    | some t => if 4096 < t.length then .error 3 else .ok (4, t, (quoteL t).length)
  else if runL l = [] then (if signN l = 0 then .error 15 else .ok (5, l.take (signN l), signN l))
  else wordT (runL l)
theorem word_ok {x t : List UInt8} {k n : Nat} (h : wordT x = .ok (k, t, n)) : t = x ∧ n = x.length ∧ 1 ≤ k ∧ k ≤ 3 := by
  unfold wordT at h
  repeat' split at h
  all_goals first | (cases h; exact ⟨rfl, rfl, by omega, by omega⟩) | cases h
/-- A token as it stands in a text. -/
def tkL (k : Nat) (t : List UInt8) : List UInt8 := if k = 4 then quoteL t else t
/-- What stands at the beginning of a text, alone or ahead of a blank, is the token. -/
def endsT (r : List UInt8) : Prop := r = [] ∨ r.head? = some 32
theorem run_ends {x r : List UInt8} (hx : x.all nameC = true) (h : endsT r) : runL (x ++ r) = x := by
  unfold runL
  rw [List.takeWhile_append_of_pos (fun c hc => List.all_eq_true.1 hx c hc)]
  rcases h with rfl | h
  · simp
  · cases r with
    | nil => cases h
    | cons c r =>
      simp at h
      subst h
      rw [List.takeWhile_cons_of_neg (by decide), List.append_nil]
theorem run_all (l : List UInt8) : (runL l).all nameC = true := List.all_takeWhile
theorem run_pre (l : List UInt8) : ∃ y, l = runL l ++ y := ⟨l.dropWhile nameC, (List.takeWhile_append_dropWhile).symm⟩
theorem run_head {l : List UInt8} {c : UInt8} {x : List UInt8} (h : runL l = c :: x) : l.head? = some c := by
  obtain ⟨y, hy⟩ := run_pre l
  rw [h] at hy
  rw [hy]; rfl
theorem name_34 : nameC 34 = false := by decide
theorem one_no10 : ∀ c, (one c).all (fun d => d != 10) = true := all8 (by decide +kernel)
theorem name_no : ∀ c, nameC c = true → c ≠ 10 ∧ c ≠ 34 ∧ c ≠ 35 ∧ blankB c = false := all8 (by decide +kernel)
theorem body_no10 : ∀ (t : List UInt8), ∀ c ∈ body t, c ≠ 10
  | [], c, hc => by simp [body] at hc
  | d :: t, c, hc => by
    rw [body_cons, List.mem_append] at hc
    rcases hc with h | h
    · have := List.all_eq_true.1 (one_no10 d) c h
      simpa using this
    · exact body_no10 t c h
theorem quote_no10 (t : List UInt8) : ∀ c ∈ quoteL t, c ≠ 10 := by
  intro c hc
  unfold quoteL at hc
  rw [List.mem_cons, List.mem_append, List.mem_singleton] at hc
  rcases hc with rfl | h | rfl
  · decide
  · exact body_no10 t c h
  · decide
/-- What the first token is, tells what stands there, and that it is the same wherever it stands so. -/
structure Told (l : List UInt8) (k : Nat) (t : List UInt8) (n : Nat) : Prop where
  pos : 1 ≤ n
  len : n = (tkL k t).length
  pre : ∃ y, l = tkL k t ++ y
  no10 : ∀ c ∈ tkL k t, c ≠ 10
  same : ∀ r, endsT r → firstT (tkL k t ++ r) = .ok (k, t, n)
  blank : ∀ r, blankN (tkL k t ++ r) false = 0
  kind : 1 ≤ k ∧ k ≤ 5
theorem sign_two {c : UInt8} {r : List UInt8} (h : signN (c :: r) = 2) : (c = 61 ∨ c = 33 ∨ c = 60 ∨ c = 62) ∧ ∃ y, r = 61 :: y := by
  rw [signN] at h
  split at h
  · rename_i h1
    refine ⟨h1.1, ?_⟩
    cases r with
    | nil => simp at h1
    | cons d r => simp at h1; exact ⟨r, by rw [h1.2]⟩
  · split at h <;> cases h
theorem sign_cases (l : List UInt8) : signN l = 0 ∨ signN l = 1 ∨ signN l = 2 := by
  cases l with
  | nil => exact .inl rfl
  | cons c r =>
    rw [signN]
    split
    · exact .inr (.inr rfl)
    · split
      · exact .inr (.inl rfl)
      · exact .inl rfl
theorem sign_one {c : UInt8} {r : List UInt8} (h : signN (c :: r) = 1) : c = 60 ∨ c = 62 ∨ c = 61 ∨ c = 40 ∨ c = 41 ∨ c = 44 ∨ c = 58 ∨ c = 43 ∨ c = 45 ∨ c = 42 ∨ c = 47 ∨ c = 37 := by
  rw [signN] at h
  split at h
  · cases h
  · split at h
    · rename_i h1; exact h1
    · cases h
theorem ends_61 {r : List UInt8} (h : endsT r) : r.head? ≠ some 61 := by
  rcases h with rfl | h
  · simp
  · rw [h]; decide
theorem first_run {l : List UInt8} (h : (runL l).isEmpty = false) : firstT l = wordT (runL l) := by
  have h0 : runL l ≠ [] := by intro e; rw [e] at h; cases h
  rw [firstT, if_neg, if_neg h0]
  intro e
  cases hr : runL l with
  | nil => exact h0 hr
  | cons c x =>
    have h1 := run_head hr
    rw [h1] at e
    have h2 := List.all_eq_true.1 (run_all l) c (by rw [hr]; simp)
    exact (name_no c h2).2.1 (by simpa using e)
theorem told_first {l : List UInt8} {k n : Nat} {t : List UInt8} (h : firstT l = .ok (k, t, n)) : Told l k t n := by
  by_cases h34 : l.head? = some 34
  · rw [firstT, if_pos h34] at h
    split at h
    · cases h
    · rename_i t' hc
      split at h
      · cases h
      · rename_i hl
        cases h
        obtain ⟨y, hy⟩ := cut_some hc
        have e4 : tkL 4 t = quoteL t := rfl
        refine ⟨by rw [quote_len]; omega, rfl, ⟨y, hy⟩, quote_no10 t, fun r hr => ?_, fun r => ?_, by omega⟩
        · rw [e4, firstT, if_pos (by rfl), cut_yes]
          simp only
          rw [if_neg hl]
        · rw [e4]; rfl
  · by_cases hr : runL l = []
    · rw [firstT, if_neg h34, if_pos hr] at h
      split at h
      · cases h
      · rename_i hs
        cases h
        cases l with
        | nil => exact absurd rfl hs
        | cons c r =>
          rcases sign_cases (c :: r) with h0 | h1 | h2
          · exact absurd h0 hs
          · have hc := sign_one h1
            rw [h1]
            have e5 : tkL 5 ((c :: r).take 1) = [c] := rfl
            refine ⟨by omega, rfl, ⟨r, rfl⟩, ?_, fun x hx => ?_, fun x => ?_, by omega⟩
            · rw [e5]; intro d hd; rw [List.mem_singleton] at hd; subst hd
              rcases hc with rfl | rfl | rfl | rfl | rfl | rfl | rfl | rfl | rfl | rfl | rfl | rfl <;> decide
            · have h61 := ends_61 hx
              rw [e5]
              show firstT (c :: x) = _
              have hs1 : signN (c :: x) = 1 := by
                rw [signN, if_neg (fun hh => h61 hh.2), if_pos hc]
              rw [firstT, if_neg, if_pos, if_neg (by rw [hs1]; decide), hs1]
              · rfl
              · rcases hc with rfl | rfl | rfl | rfl | rfl | rfl | rfl | rfl | rfl | rfl | rfl | rfl <;> rfl
              · rcases hc with rfl | rfl | rfl | rfl | rfl | rfl | rfl | rfl | rfl | rfl | rfl | rfl <;> simp
            · rw [e5]
              rcases hc with rfl | rfl | rfl | rfl | rfl | rfl | rfl | rfl | rfl | rfl | rfl | rfl <;> rfl
          · obtain ⟨hc, y, rfl⟩ := sign_two h2
            rw [h2]
            have e5 : tkL 5 ((c :: 61 :: y).take 2) = [c, 61] := rfl
            refine ⟨by omega, rfl, ⟨y, rfl⟩, ?_, fun x hx => ?_, fun x => ?_, by omega⟩
            · rw [e5]; intro d hd
              rcases hc with rfl | rfl | rfl | rfl <;> (simp at hd; rcases hd with rfl | rfl <;> decide)
            · rw [e5]
              show firstT (c :: 61 :: x) = _
              have hs1 : signN (c :: 61 :: x) = 2 := by rw [signN, if_pos ⟨hc, rfl⟩]
              rw [firstT, if_neg, if_pos, if_neg (by rw [hs1]; decide), hs1]
              · rfl
              · rcases hc with rfl | rfl | rfl | rfl <;> rfl
              · rcases hc with rfl | rfl | rfl | rfl <;> simp
            · rw [e5]
              rcases hc with rfl | rfl | rfl | rfl <;> rfl
    · have hne : (runL l).isEmpty = false := by cases e : runL l with | nil => exact absurd e hr | cons c x => rfl
      rw [first_run hne] at h
      obtain ⟨rfl, rfl, hk⟩ := word_ok h
      have hall := run_all l
      obtain ⟨y, hy⟩ := run_pre l
      have e : tkL k (runL l) = runL l := by rw [tkL, if_neg (by omega)]
      obtain ⟨x, hx⟩ : ∃ x, x = runL l := ⟨_, rfl⟩
      rw [← hx] at h hall hy e hne ⊢
      obtain ⟨c, z, hz⟩ : ∃ c z, x = c :: z := by cases x with | nil => cases hne | cons c z => exact ⟨c, z, rfl⟩
      have hc := name_no c (List.all_eq_true.1 hall c (by rw [hz]; simp))
      refine ⟨by rw [hz]; simp, by rw [e], ⟨y, by rw [e]; exact hy⟩, ?_, fun r hr => ?_, fun r => ?_, by omega⟩
      · rw [e]; intro d hd; exact (name_no d (List.all_eq_true.1 hall d hd)).1
      · rw [e]
        have hrr := run_ends hall hr
        rw [first_run (by rw [hrr]; exact hne), hrr]
        exact h
      · rw [e, hz, List.cons_append, blankN, if_neg hc.2.2.1, if_neg (by rw [hc.2.2.2]; decide)]

/-- The next token, what is left, and the place behind it; nothing, if there is none any more; or what is wrong, and where. -/
noncomputable def stepT (l : List UInt8) (p : Nat × Nat) : Except (Nat × Nat × Nat) (Option (Tk × List UInt8 × (Nat × Nat))) :=
  if l.drop (blankN l false) = [] then .ok none
  else match firstT (l.drop (blankN l false)) with
    | .error e => .error (e, adv (l.take (blankN l false)) p)
    | .ok z => .ok (some (⟨z.1, z.2.1, (adv (l.take (blankN l false)) p).1, (adv (l.take (blankN l false)) p).2⟩, (l.drop (blankN l false)).drop z.2.2, ((adv (l.take (blankN l false)) p).1, (adv (l.take (blankN l false)) p).2 + z.2.2)))
noncomputable def tokF : Nat → List UInt8 → Nat × Nat → Except (Nat × Nat × Nat) (List Tk)
  | 0, _, _ => .ok []
  | f + 1, l, p => match stepT l p with
    | .error e => .error e
    | .ok none => .ok []
    | .ok (some (x, r, q)) => match tokF f r q with
      | .error e => .error e
      | .ok T => .ok (x :: T)
/-- All tokens of a text that begins at a place. -/
noncomputable def tokT (l : List UInt8) (p : Nat × Nat) : Except (Nat × Nat × Nat) (List Tk) := tokF (l.length + 1) l p
/-- All tokens of a text, or what is wrong, and where. -/
noncomputable def tokL (l : List UInt8) : Except (Nat × Nat × Nat) (List Tk) := if 65536 < l.length then .error (3, 1, 1) else tokT l (1, 1)
theorem step_some {l r : List UInt8} {p q : Nat × Nat} {x : Tk} (h : stepT l p = .ok (some (x, r, q))) :
    ∃ n y, Told (l.drop (blankN l false)) x.k x.t n ∧ l.drop (blankN l false) = tkL x.k x.t ++ r ∧ q = (x.line, x.col + n) ∧ (x.line, x.col) = adv (l.take (blankN l false)) p ∧ y = n ∧ r.length + n ≤ l.length := by
  unfold stepT at h
  split at h
  · cases h
  · split at h
    · cases h
    · rename_i z hz
      obtain ⟨k, t, n⟩ := z
      have ht := told_first hz
      simp only [Except.ok.injEq, Option.some.injEq, Prod.mk.injEq] at h
      obtain ⟨rfl, rfl, rfl⟩ := h
      obtain ⟨y, hy⟩ := ht.pre
      have hd : (l.drop (blankN l false)).drop n = y := by rw [hy, ht.len, List.drop_left]
      refine ⟨n, n, ht, ?_, rfl, rfl, rfl, ?_⟩
      · rw [hd]; exact hy
      · rw [List.length_drop, List.length_drop]
        have h1 := congrArg List.length hy
        rw [List.length_append, List.length_drop, ← ht.len] at h1
        omega
theorem step_less {l r : List UInt8} {p q : Nat × Nat} {x : Tk} (h : stepT l p = .ok (some (x, r, q))) : r.length < l.length := by
  obtain ⟨n, _, ht, _, _, _, _, h1⟩ := step_some h
  have := ht.pos
  omega
theorem tok_fuel : ∀ (f g : Nat) (l : List UInt8) (p : Nat × Nat), l.length < f → l.length < g → tokF f l p = tokF g l p
  | 0, _, l, p, h, _ => by omega
  | _, 0, l, p, _, h => by omega
  | f + 1, g + 1, l, p, hf, hg => by
    rw [tokF, tokF]
    split
    · rfl
    · rfl
    · rename_i x r q hs
      have := step_less hs
      rw [tok_fuel f g r q (by omega) (by omega)]
theorem tok_end {l : List UInt8} {p : Nat × Nat} (h : stepT l p = .ok none) : tokT l p = .ok [] := by
  rw [tokT, tokF, h]
theorem tok_bad {l : List UInt8} {p : Nat × Nat} {e : Nat × Nat × Nat} (h : stepT l p = .error e) : tokT l p = .error e := by
  rw [tokT, tokF, h]
theorem tok_more {l r : List UInt8} {p q : Nat × Nat} {x : Tk} (h : stepT l p = .ok (some (x, r, q))) : tokT l p = match tokT r q with | .error e => .error e | .ok T => .ok (x :: T) := by
  have := step_less h
  rw [tokT, tokF, h]
  simp only
  rw [tok_fuel l.length (r.length + 1) r q this (by omega)]
  rfl
/-- What is gone through, and what is left. -/
def tokX (l0 : List UInt8) (M : List Tk) (l : List UInt8) (p : Nat × Nat) : Prop :=
  tokT l0 (1, 1) = match tokT l p with | .error e => .error e | .ok T => .ok (M ++ T)
theorem tokX_zero (l : List UInt8) : tokX l [] l (1, 1) := by
  unfold tokX
  split
  · assumption
  · rename_i h; rw [h]; rfl
theorem tokX_more {l0 l r : List UInt8} {M : List Tk} {p q : Nat × Nat} {x : Tk} (h : tokX l0 M l p) (hs : stepT l p = .ok (some (x, r, q))) : tokX l0 (M ++ [x]) r q := by
  unfold tokX at h ⊢
  rw [h, tok_more hs]
  cases tokT r q with
  | error e => rfl
  | ok T => simp
theorem tokX_end {l0 l : List UInt8} {M : List Tk} {p : Nat × Nat} (h : tokX l0 M l p) (hs : stepT l p = .ok none) : tokT l0 (1, 1) = .ok M := by
  unfold tokX at h
  rw [h, tok_end hs]; simp
theorem tokX_bad {l0 l : List UInt8} {M : List Tk} {p : Nat × Nat} {e : Nat × Nat × Nat} (h : tokX l0 M l p) (hs : stepT l p = .error e) : tokT l0 (1, 1) = .error e := by
  unfold tokX at h
  rw [h, tok_bad hs]
theorem blank_32 (l : List UInt8) : blankN (32 :: l) false = blankN l false + 1 := by
  rw [blankN, if_neg (by decide), if_pos (by decide)]
theorem adv_32 (m : List UInt8) (p : Nat × Nat) : adv (32 :: m) p = adv m (p.1, p.2 + 1) := by
  rw [adv, if_neg (by decide)]
theorem step_none (p : Nat × Nat) : stepT [] p = .ok none := by
  unfold stepT
  rw [if_pos (show List.drop (blankN [] false) [] = ([] : List UInt8) from rfl)]
theorem step_32 (l : List UInt8) (p : Nat × Nat) : stepT (32 :: l) p = stepT l (p.1, p.2 + 1) := by
  unfold stepT
  rw [blank_32, List.drop_succ_cons, List.take_succ_cons, adv_32]
theorem tok_32 (l : List UInt8) (p : Nat × Nat) : tokT (32 :: l) p = tokT l (p.1, p.2 + 1) := by
  cases hs : stepT l (p.1, p.2 + 1) with
  | error e => rw [tok_bad hs, tok_bad ((step_32 l p).trans hs)]
  | ok o =>
    cases o with
    | none => rw [tok_end hs, tok_end ((step_32 l p).trans hs)]
    | some z => obtain ⟨x, r, q⟩ := z; rw [tok_more hs, tok_more ((step_32 l p).trans hs)]
/-- A token that is ahead of a blank, or of the end. -/
theorem step_tk {l : List UInt8} {k n : Nat} {t : List UInt8} (h : Told l k t n) (r : List UInt8) (hr : endsT r) (p : Nat × Nat) : stepT (tkL k t ++ r) p = .ok (some (⟨k, t, p.1, p.2⟩, r, (p.1, p.2 + n))) := by
  have h0 : tkL k t ++ r ≠ [] := by
    intro e
    have h1 := h.pos
    have h2 := h.len
    rw [(List.append_eq_nil_iff.1 e).1] at h2
    simp at h2; omega
  unfold stepT
  rw [h.blank r, List.drop_zero, if_neg h0, h.same r hr, List.take_zero]
  simp only [adv]
  rw [h.len, List.drop_left]
/-- What is joined of tokens. -/
def joinT : List Tk → List UInt8
  | [] => []
  | [x] => tkL x.k x.t
  | x :: y :: T => tkL x.k x.t ++ 32 :: joinT (y :: T)
/-- A token that stands in a text. -/
def isTk (x : Tk) : Prop := ∃ l n, Told l x.k x.t n
theorem tok_tks : ∀ (f : Nat) (l : List UInt8) (p : Nat × Nat) (T : List Tk), tokF f l p = .ok T → (∀ x ∈ T, isTk x) ∧ (joinT T).length + 1 ≤ 2 * l.length + 1 ∧ T.length ≤ l.length
  | 0, l, p, T, h => by
    rw [tokF] at h; cases h
    exact ⟨fun x hx => by simp at hx, by simp [joinT], by simp⟩
  | f + 1, l, p, T, h => by
    rw [tokF] at h
    split at h
    · cases h
    · cases h; exact ⟨fun x hx => by simp at hx, by simp [joinT], by simp⟩
    · rename_i x r q hs
      split at h
      · cases h
      · rename_i T' hT
        cases h
        obtain ⟨n, _, ht, _, _, _, _, hn⟩ := step_some hs
        obtain ⟨h1, h2, h3⟩ := tok_tks f r q T' hT
        have hp := ht.pos
        refine ⟨fun y hy => ?_, ?_, by rw [List.length_cons]; omega⟩
        · rcases List.mem_cons.1 hy with rfl | hy
          · exact ⟨_, _, ht⟩
          · exact h1 y hy
        · cases T' with
          | nil => rw [joinT, ← ht.len]; omega
          | cons y T2 => rw [joinT, List.length_append, List.length_cons, ← ht.len]; omega
/-- What is joined of tokens has the same tokens, but for their places. -/
theorem join_back : ∀ (T : List Tk) (p : Nat × Nat), (∀ x ∈ T, isTk x) → ∃ M, tokT (joinT T) p = .ok M ∧ M.map (fun x => (x.k, x.t, x.line)) = T.map (fun x => (x.k, x.t, p.1))
  | [], p, _ => ⟨[], by rw [joinT, tok_end (step_none p)], rfl⟩
  | [x], p, h => by
    obtain ⟨l, n, ht⟩ := h x (by simp)
    have hs := step_tk ht [] (.inl rfl) p
    rw [List.append_nil] at hs
    refine ⟨[⟨x.k, x.t, p.1, p.2⟩], ?_, rfl⟩
    rw [joinT, tok_more hs, tok_end (step_none _)]
  | x :: y :: T, p, h => by
    obtain ⟨l, n, ht⟩ := h x (by simp)
    have hs := step_tk ht (32 :: joinT (y :: T)) (.inr rfl) p
    obtain ⟨M, hM, hm⟩ := join_back (y :: T) (p.1, p.2 + n + 1) (fun z hz => h z (List.mem_cons_of_mem _ hz))
    refine ⟨⟨x.k, x.t, p.1, p.2⟩ :: M, ?_, by rw [List.map_cons, hm, List.map_cons]; rfl⟩
    rw [joinT, tok_more hs, tok_32, hM]
theorem tokL_join {l : List UInt8} {T : List Tk} (h : tokL l = .ok T) (hl : l.length ≤ 32768) : ∃ M, tokL (joinT T) = .ok M ∧ M.map (fun x => (x.k, x.t, x.line)) = T.map (fun x => (x.k, x.t, 1)) := by
  rw [tokL, if_neg (by omega)] at h
  obtain ⟨h1, h2, _⟩ := tok_tks _ _ _ _ h
  obtain ⟨M, hM, hm⟩ := join_back T (1, 1) h1
  exact ⟨M, by rw [tokL, if_neg (by omega)]; exact hM, hm⟩
/-- Blanks, and a sign behind them. -/
def longL (n : Nat) : List UInt8 := List.replicate n 32 ++ [40]
theorem long_step : ∀ (n : Nat) (p : Nat × Nat), stepT (longL n) p = .ok (some (⟨5, [40], p.1, p.2 + n⟩, [], (p.1, p.2 + n + 1)))
  | 0, p => by
    have h : firstT [40] = .ok (5, [40], 1) := by
      rw [firstT, if_neg (by decide), if_pos (by decide), if_neg (by decide)]; rfl
    exact step_tk (told_first h) [] (.inl rfl) p
  | n + 1, p => by
    have h := long_step n (p.1, p.2 + 1)
    rw [show longL (n + 1) = 32 :: longL n from rfl, step_32, h]
    simp only [Except.ok.injEq, Option.some.injEq, Prod.mk.injEq, Tk.mk.injEq, true_and]
    omega
theorem long_len (n : Nat) : (longL n).length = n + 1 := by simp [longL]
theorem long_tok {n : Nat} (h : n < 65536) : tokL (longL n) = .ok [⟨5, [40], 1, n + 1⟩] := by
  rw [tokL, if_neg (by rw [long_len]; omega), tok_more (long_step n (1, 1)), tok_end (step_none _)]
  simp only [Except.ok.injEq, List.cons.injEq, Tk.mk.injEq, true_and, and_true]
  omega
theorem long_many {n : Nat} (h : 65536 ≤ n) : tokL (longL n) = .error (3, 1, 1) := by
  rw [tokL, if_pos (by rw [long_len]; omega)]
end Go.Proofs.YtmknmmbfaljkbaaGreatDoor

/- NumMath -/
namespace Go.Proofs.YtmknmmbfaljkbaaGreatDoor
open Go.RowKit

/-- The number that is told: itself, or 0 where it goes over. -/
def tn (n : Int) : Int := if -9223372036854775808 ≤ n ∧ n ≤ 9223372036854775807 then n else 0
/-- The error that is told: 0, or 6 where it goes over. -/
def te (n : Int) : Int := if -9223372036854775808 ≤ n ∧ n ≤ 9223372036854775807 then 0 else 6
/-- Does it fit? -/
def tb (n : Int) : Bool := decide (-9223372036854775808 ≤ n ∧ n ≤ 9223372036854775807)

theorem tn_yes {n : Int} (h1 : -9223372036854775808 ≤ n) (h2 : n ≤ 9223372036854775807) : tn n = n := if_pos ⟨h1, h2⟩
theorem te_yes {n : Int} (h1 : -9223372036854775808 ≤ n) (h2 : n ≤ 9223372036854775807) : te n = 0 := if_pos ⟨h1, h2⟩
theorem tb_yes {n : Int} (h1 : -9223372036854775808 ≤ n) (h2 : n ≤ 9223372036854775807) : tb n = true := decide_eq_true ⟨h1, h2⟩
theorem tn_no {n : Int} (h : ¬ (-9223372036854775808 ≤ n ∧ n ≤ 9223372036854775807)) : tn n = 0 := if_neg h
theorem te_no {n : Int} (h : ¬ (-9223372036854775808 ≤ n ∧ n ≤ 9223372036854775807)) : te n = 6 := if_neg h
theorem tb_no {n : Int} (h : ¬ (-9223372036854775808 ≤ n ∧ n ≤ 9223372036854775807)) : tb n = false := decide_eq_false h
theorem tn_bounds (n : Int) : -9223372036854775808 ≤ tn n ∧ tn n ≤ 9223372036854775807 := by
  by_cases h : -9223372036854775808 ≤ n ∧ n ≤ 9223372036854775807
  · rw [tn_yes h.1 h.2]; exact h
  · rw [tn_no h]; omega
theorem wrap_over_up {n : Int} (h1 : 9223372036854775807 < n) (h2 : n ≤ 18446744073709551616) : wrap64 n = n - 18446744073709551616 := by
  unfold wrap64; omega
theorem wrap_over_down {n : Int} (h1 : n < -9223372036854775808) (h2 : -18446744073709551616 ≤ n) : wrap64 n = n + 18446744073709551616 := by
  unfold wrap64; omega

/-! ### products and quotients -/
theorem wrap_mul (n : Int) : ∃ k : Int, wrap64 n = n - k * 18446744073709551616 ∧ -9223372036854775808 ≤ wrap64 n ∧ wrap64 n ≤ 9223372036854775807 := by
  refine ⟨(n + 9223372036854775808) / 18446744073709551616, ?_, ?_, ?_⟩ <;> unfold wrap64 <;> omega
theorem wrap_in {n : Int} (h1 : -9223372036854775808 ≤ n) (h2 : n ≤ 9223372036854775807) : wrap64 n = n := by
  unfold wrap64; omega
theorem tdiv_fits {p b : Int} (h0 : b ≠ 0) (h1 : b ≠ -1) (hp : -9223372036854775808 ≤ p ∧ p ≤ 9223372036854775807) :
    -9223372036854775808 ≤ p.tdiv b ∧ p.tdiv b ≤ 9223372036854775807 := by
  have hn : (p.tdiv b).natAbs = p.natAbs / b.natAbs := Int.natAbs_tdiv p b
  by_cases hb : b = 1
  · subst hb; simpa using hp
  · have h2 : 2 ≤ b.natAbs := by omega
    have hd : p.natAbs / b.natAbs ≤ p.natAbs / 2 := Nat.div_le_div_left h2 (by omega)
    omega
theorem least_fits {b : Int} (h0 : b ≠ 0) (h1 : b ≠ -1) : -9223372036854775808 ≤ -(9223372036854775808 : Int).tdiv b ∧ -(9223372036854775808 : Int).tdiv b ≤ 9223372036854775807 := by
  have h := tdiv_fits (p := -9223372036854775808) h0 h1 ⟨by omega, by omega⟩
  rwa [show (-9223372036854775808 : Int) = -(9223372036854775808 : Int) from rfl, Int.neg_tdiv] at h
theorem tdiv_back {a b : Int} (h0 : b ≠ 0) : (a * b).tdiv b = a := Int.mul_tdiv_cancel a h0
theorem mul_over {a b : Int} (h0 : b ≠ 0) (h1 : b ≠ -1) (hb : -9223372036854775808 ≤ b ∧ b ≤ 9223372036854775807)
    (h : ¬ (-9223372036854775808 ≤ a * b ∧ a * b ≤ 9223372036854775807)) : ¬ (wrap64 (a * b)).tdiv b = a := by
  intro he
  obtain ⟨k, hk, hl, hu⟩ := wrap_mul (a * b)
  have hm := Int.mul_tdiv_add_tmod (wrap64 (a * b)) b
  rw [he, Int.mul_comm b a] at hm
  have ht : ((wrap64 (a * b)).tmod b).natAbs = (wrap64 (a * b)).natAbs % b.natAbs := Int.natAbs_tmod _ _
  have hlt : (wrap64 (a * b)).natAbs % b.natAbs < b.natAbs := Nat.mod_lt _ (by omega)
  omega
theorem pos_pos {a b : Int} (ha : 0 < a) (hb : 0 < b) : (9223372036854775807 : Int).tdiv b < a ↔ ¬ (-9223372036854775808 ≤ a * b ∧ a * b ≤ 9223372036854775807) := by
  rw [Int.tdiv_eq_ediv_of_nonneg (by omega)]
  have h := Int.le_ediv_iff_mul_le (a := a) (b := 9223372036854775807) hb
  have hp := Int.mul_pos ha hb
  omega
theorem pos_neg {a b : Int} (ha : 0 < a) (hb : b < 0) : b < -(9223372036854775808 : Int).tdiv a ↔ ¬ (-9223372036854775808 ≤ a * b ∧ a * b ≤ 9223372036854775807) := by
  rw [Int.tdiv_eq_ediv_of_nonneg (by omega)]
  have h := Int.le_ediv_iff_mul_le (a := -b) (b := 9223372036854775808) ha
  have e2 : -b * a = -(a * b) := by rw [Int.neg_mul, Int.mul_comm]
  have hp := Int.mul_pos ha (show 0 < -b by omega)
  rw [Int.mul_neg] at hp
  rw [e2] at h
  omega
theorem neg_pos {a b : Int} (ha : a < 0) (hb : 0 < b) : a < -(9223372036854775808 : Int).tdiv b ↔ ¬ (-9223372036854775808 ≤ a * b ∧ a * b ≤ 9223372036854775807) := by
  rw [Int.mul_comm]; exact pos_neg hb ha
theorem neg_neg {a b : Int} (ha : a < 0) (hb : b < 0) : a < (9223372036854775807 : Int).tdiv b ↔ ¬ (-9223372036854775808 ≤ a * b ∧ a * b ≤ 9223372036854775807) := by
  have h := pos_pos (show 0 < -a by omega) (show 0 < -b by omega)
  rw [Int.tdiv_neg, Int.neg_mul_neg] at h
  rw [← h]; omega

/-! ### quotients as they are told -/
def dn (a b : Int) : Int := if b = 0 then 0 else tn (a.tdiv b)
def de (a b : Int) : Int := if b = 0 then 7 else te (a.tdiv b)
def mn (a b : Int) : Int := if b = 0 then 0 else a.tmod b
def me (b : Int) : Int := if b = 0 then 7 else 0
theorem tdiv_m1 (a : Int) : a.tdiv (-1) = -a := by rw [Int.tdiv_neg, Int.tdiv_one]
theorem tmod_m1 (a : Int) : a.tmod (-1) = 0 := by rw [Int.tmod_neg, Int.tmod_one]
theorem tmod_fits {a b : Int} (ha : -9223372036854775808 ≤ a ∧ a ≤ 9223372036854775807) :
    -9223372036854775808 ≤ a.tmod b ∧ a.tmod b ≤ 9223372036854775807 := by
  have hn : (a.tmod b).natAbs = a.natAbs % b.natAbs := Int.natAbs_tmod a b
  have hm : a.natAbs % b.natAbs ≤ a.natAbs := Nat.mod_le _ _
  have hs : a ≤ 0 → a.tmod b ≤ 0 := fun h => by
    have h2 := Int.tmod_nonneg b (show 0 ≤ -a by omega)
    rw [Int.neg_tmod] at h2
    omega
  omega
theorem dn_zero (a : Int) : dn a 0 = 0 := if_pos rfl
theorem de_zero (a : Int) : de a 0 = 7 := if_pos rfl
theorem mn_zero (a : Int) : mn a 0 = 0 := if_pos rfl
theorem me_zero : me 0 = 7 := if_pos rfl
theorem dn_ne {a b : Int} (h : b ≠ 0) : dn a b = tn (a.tdiv b) := if_neg h
theorem de_ne {a b : Int} (h : b ≠ 0) : de a b = te (a.tdiv b) := if_neg h
theorem mn_ne {a b : Int} (h : b ≠ 0) : mn a b = a.tmod b := if_neg h
theorem me_ne {b : Int} (h : b ≠ 0) : me b = 0 := if_neg h
theorem te_not7 (n : Int) : te n ≠ 7 := by
  unfold te; split <;> omega
end Go.Proofs.YtmknmmbfaljkbaaGreatDoor

/- NumForm -/
namespace Go.Proofs.YtmknmmbfaljkbaaGreatDoor

def isD (c : UInt8) : Bool := decide (48 ≤ c.toNat ∧ c.toNat ≤ 57)
/-- What stands behind the sign. -/
def mag (l : List UInt8) : List UInt8 := if l.head? = some 45 then l.tail else l
/-- Is it of the form of a number's text, however great that number? -/
def formB (l : List UInt8) : Bool := !(mag l).isEmpty && (if (mag l).head? = some 48 then l == [48] else (mag l).all isD)
/-- What digits come to. -/
def dv (acc : Nat) (l : List UInt8) : Nat := l.foldl (fun a c => a * 10 + (c.toNat - 48)) acc
/-- The number of a text of that form. -/
def vl (l : List UInt8) : Int := if l.head? = some 45 then -(dv 0 (mag l) : Int) else (dv 0 (mag l) : Int)
/-- What Parse tells: the number, and the error. -/
def pn (l : List UInt8) : Int := if formB l = true then tn (vl l) else 0
def pe (l : List UInt8) : Int := if formB l = true then (if tb (vl l) = true then 0 else 5) else 4

theorem dv_snoc (acc : Nat) (l : List UInt8) (c : UInt8) : dv acc (l ++ [c]) = dv acc l * 10 + (c.toNat - 48) := by simp [dv]
theorem dv_cons (acc : Nat) (c : UInt8) (l : List UInt8) : dv acc (c :: l) = dv (acc * 10 + (c.toNat - 48)) l := by simp only [dv, List.foldl_cons]
theorem dv_le (l : List UInt8) (acc : Nat) : acc ≤ dv acc l := by
  induction l generalizing acc with
  | nil => exact Nat.le_refl _
  | cons c r ih => rw [dv_cons]; have := ih (acc * 10 + (c.toNat - 48)); omega
theorem dv_append (acc : Nat) (l r : List UInt8) : dv acc (l ++ r) = dv (dv acc l) r := by simp [dv]
theorem dv_take_le (l : List UInt8) (k : Nat) : dv 0 (l.take k) ≤ dv 0 l := by
  have e : dv 0 l = dv (dv 0 (l.take k)) (l.drop k) := by rw [← dv_append, List.take_append_drop]
  rw [e]; exact dv_le _ _

/-! ### the library's parse, on texts of that form -/
theorem parseUintM_digits : ∀ (l : List UInt8) (acc : Nat), l.all isD = true → acc ≤ 18446744073709551615 →
    Lib.parseUintM 18446744073709551615 acc l = if dv acc l ≤ 18446744073709551615 then .ok (dv acc l) else .range
  | [], acc, _, h => by simp [Lib.parseUintM, dv, h]
  | c :: r, acc, hd, h => by
    simp only [List.all_cons, Bool.and_eq_true] at hd
    have hc : 48 ≤ c.toNat ∧ c.toNat ≤ 57 := by simpa [isD] using hd.1
    have hle := dv_le r (acc * 10 + (c.toNat - 48))
    rw [dv_cons]
    unfold Lib.parseUintM
    rw [if_pos hc]
    by_cases h1 : 1844674407370955162 ≤ acc
    · rw [if_pos h1, if_neg (by omega)]
    · rw [if_neg h1]
      by_cases h2 : 18446744073709551615 < acc * 10 + (c.toNat - 48)
      · rw [if_pos h2, if_neg (by omega)]
      · rw [if_neg h2]
        exact parseUintM_digits r _ hd.2 (by omega)

theorem form_digits {l : List UInt8} (h : formB l = true) : mag l ≠ [] ∧ (mag l).all isD = true := by
  simp only [formB, Bool.and_eq_true, Bool.not_eq_true', List.isEmpty_eq_false_iff] at h
  refine ⟨h.1, ?_⟩
  have h2 := h.2
  split at h2
  · have e : l = [48] := by simpa using h2
    subst e; decide
  · exact h2

theorem pow64 : (2 : Nat) ^ 64 - 1 = 18446744073709551615 := by decide
theorem pow63 : (2 : Nat) ^ (64 - 1) = 9223372036854775808 := by decide
theorem parse_form {l : List UInt8} (h : formB l = true) :
    Lib.parseIntB 64 l = if tb (vl l) = true then .ok (vl l) else .range := by
  obtain ⟨hne, hd⟩ := form_digits h
  cases l with
  | nil => exact absurd rfl hne
  | cons c r =>
    by_cases hc : c = 45
    · subst hc
      have em : mag (45 :: r) = r := rfl
      have ev : vl (45 :: r) = -(dv 0 r : Int) := rfl
      rw [em] at hne hd
      rw [ev]
      simp only [Lib.parseIntB, Lib.parseUintB]
      rw [if_pos (Or.inr (by decide)), if_neg hne, pow64, pow63, parseUintM_digits r 0 hd (by omega)]
      by_cases h1 : dv 0 r ≤ 18446744073709551615
      · rw [if_pos h1]
        simp only
        rw [if_neg (by simp), if_pos (show ((45 : UInt8).toNat = 45) by decide)]
        by_cases h2 : 9223372036854775808 < dv 0 r
        · rw [if_pos ⟨by decide, h2⟩, tb_no (by omega)]; rfl
        · rw [if_neg (fun x => h2 x.2), tb_yes (by omega) (by omega)]; rfl
      · rw [if_neg h1, tb_no (by omega)]; rfl
    · have hh : (c :: r).head? ≠ some 45 := by simpa using hc
      have em : mag (c :: r) = c :: r := if_neg hh
      have ev : vl (c :: r) = (dv 0 (c :: r) : Int) := by unfold vl; rw [if_neg hh, em]
      rw [em] at hd
      have hc2 : 48 ≤ c.toNat ∧ c.toNat ≤ 57 := by
        simp only [List.all_cons, Bool.and_eq_true] at hd; simpa [isD] using hd.1
      rw [ev]
      simp only [Lib.parseIntB, Lib.parseUintB]
      rw [if_neg (show ¬ (c.toNat = 43 ∨ c.toNat = 45) by omega), if_neg (show ¬ (c :: r) = [] by simp), pow64, pow63, parseUintM_digits (c :: r) 0 hd (by omega)]
      by_cases h1 : dv 0 (c :: r) ≤ 18446744073709551615
      · rw [if_pos h1]
        simp only
        rw [if_neg (show ¬ c.toNat = 45 by omega)]
        by_cases h2 : 9223372036854775808 ≤ dv 0 (c :: r)
        · rw [if_pos ⟨by omega, h2⟩, tb_no (by omega)]; rfl
        · rw [if_neg (fun x => h2 x.2), if_neg (fun x => by omega), tb_yes (by omega) (by omega)]; rfl
      · rw [if_neg h1, tb_no (by omega)]; rfl

/-! ### numerals -/
theorem byteD (k : Nat) (h : k < 10) : (UInt8.ofNat (48 + k)).toNat = 48 + k := by
  simp [UInt8.toNat_ofNat']; omega
theorem isD_byte (k : Nat) (h : k < 10) : isD (UInt8.ofNat (48 + k)) = true := by
  unfold isD; rw [byteD k h]; simp; omega
theorem dec_big {u : Nat} (h : ¬ u < 10) : Lib.decDigits u = Lib.decDigits (u / 10) ++ [UInt8.ofNat (48 + u % 10)] := by
  rw [Lib.decDigits, dif_neg h]
theorem dv_dec (u : Nat) : dv 0 (Lib.decDigits u) = u := by
  induction u using Nat.strongRecOn with
  | ind u ih =>
    by_cases h : u < 10
    · rw [Lib.decDigits_one h]
      show 0 * 10 + ((UInt8.ofNat (48 + u)).toNat - 48) = u
      rw [byteD u h]; omega
    · rw [dec_big h, dv_snoc, ih (u / 10) (by omega), byteD _ (by omega)]; omega
theorem dec_digits (u : Nat) : (Lib.decDigits u).all isD = true := by
  induction u using Nat.strongRecOn with
  | ind u ih =>
    by_cases h : u < 10
    · rw [Lib.decDigits_one h, List.all_cons, isD_byte u h]; rfl
    · rw [dec_big h, List.all_append, ih (u / 10) (by omega), List.all_cons, isD_byte (u % 10) (by omega)]; rfl
theorem dec_ne (u : Nat) : Lib.decDigits u ≠ [] := by
  by_cases h : u < 10
  · rw [Lib.decDigits_one h]; simp
  · rw [dec_big h]; simp
theorem dec_head (u : Nat) (h0 : u ≠ 0) : (Lib.decDigits u).head? ≠ some 48 := by
  induction u using Nat.strongRecOn with
  | ind u ih =>
    by_cases h : u < 10
    · rw [Lib.decDigits_one h]
      intro e
      have e2 : (UInt8.ofNat (48 + u)).toNat = (48 : UInt8).toNat := by simpa using congrArg UInt8.toNat (Option.some.inj e)
      rw [byteD u h] at e2
      have : (48 : UInt8).toNat = 48 := rfl
      omega
    · rw [dec_big h]
      have := ih (u / 10) (by omega) (by omega)
      cases hd : Lib.decDigits (u / 10) with
      | nil => exact absurd hd (dec_ne _)
      | cons a t => rw [hd] at this; simpa using this
theorem dec_head45 (u : Nat) : (Lib.decDigits u).head? ≠ some 45 := by
  intro e
  cases hd : Lib.decDigits u with
  | nil => exact absurd hd (dec_ne _)
  | cons a t =>
    have hall := dec_digits u
    rw [hd] at e hall
    have ea : a = 45 := by simpa using e
    subst ea
    simp [isD] at hall

theorem itoa_form (n : Int) : formB (Lib.itoa n) = true ∧ vl (Lib.itoa n) = n := by
  unfold Lib.itoa
  by_cases hn : n < 0
  · rw [if_pos hn]
    have em : mag (45 :: Lib.decDigits n.natAbs) = Lib.decDigits n.natAbs := rfl
    have ev : vl (45 :: Lib.decDigits n.natAbs) = -(dv 0 (Lib.decDigits n.natAbs) : Int) := rfl
    refine ⟨?_, by rw [ev, dv_dec]; omega⟩
    unfold formB
    rw [em, if_neg (dec_head _ (by omega)), dec_digits]
    simp [dec_ne]
  · rw [if_neg hn]
    have em : mag (Lib.decDigits n.toNat) = Lib.decDigits n.toNat := if_neg (dec_head45 _)
    have ev : vl (Lib.decDigits n.toNat) = (dv 0 (Lib.decDigits n.toNat) : Int) := by unfold vl; rw [if_neg (dec_head45 _), em]
    refine ⟨?_, by rw [ev, dv_dec]; omega⟩
    unfold formB
    rw [em]
    by_cases h0 : n.toNat = 0
    · rw [h0]; decide +kernel
    · rw [if_neg (dec_head _ h0), dec_digits]; simp [dec_ne]

/-- Digits without a nought ahead are the numeral of what they come to. -/
theorem dec_dv (l : List UInt8) (hd : l.all isD = true) (hne : l ≠ []) (h0 : l.head? ≠ some 48) : 1 ≤ dv 0 l ∧ Lib.decDigits (dv 0 l) = l := by
  obtain ⟨k, hk⟩ : ∃ k, k = l.length := ⟨_, rfl⟩
  induction k generalizing l with
  | zero => exact absurd (List.length_eq_zero_iff.1 hk.symm) hne
  | succ k ih =>
    rcases l.eq_nil_or_concat with rfl | ⟨r, c, rfl⟩
    · exact absurd rfl hne
    rw [List.concat_eq_append] at *
    rw [List.all_append, Bool.and_eq_true] at hd
    have hc : 48 ≤ c.toNat ∧ c.toNat ≤ 57 := by simpa [isD] using hd.2
    have ec : UInt8.ofNat (48 + (c.toNat - 48)) = c := by
      have : 48 + (c.toNat - 48) = c.toNat := by omega
      rw [this]; simp
    by_cases hr : r = []
    · subst hr
      have hcz : c.toNat ≠ 48 := fun e => h0 (by
        have : c = 48 := UInt8.toNat_inj.1 (by rw [e]; rfl)
        simp [this])
      have e : dv 0 ([] ++ [c]) = c.toNat - 48 := by simp [dv]
      rw [e]
      refine ⟨by omega, ?_⟩
      rw [Lib.decDigits_one (by omega), ec]; rfl
    · have hh : r.head? ≠ some 48 := by
        cases r with
        | nil => exact absurd rfl hr
        | cons a t => simpa using h0
      obtain ⟨g1, g2⟩ := ih r hd.1 hr hh (by simp at hk; omega)
      rw [dv_snoc]
      refine ⟨by omega, ?_⟩
      rw [dec_big (by omega), show (dv 0 r * 10 + (c.toNat - 48)) / 10 = dv 0 r by omega, show (dv 0 r * 10 + (c.toNat - 48)) % 10 = c.toNat - 48 by omega, g2, ec]

theorem form_itoa {l : List UInt8} (h : formB l = true) : Lib.itoa (vl l) = l := by
  obtain ⟨hne, hd⟩ := form_digits h
  by_cases h48 : (mag l).head? = some 48
  · have e : l = [48] := by
      simp only [formB, Bool.and_eq_true] at h
      rw [if_pos h48] at h
      simpa using h.2
    subst e
    decide +kernel
  · obtain ⟨g1, g2⟩ := dec_dv _ hd hne h48
    by_cases hs : l.head? = some 45
    · have em : mag l = l.tail := if_pos hs
      have ev : vl l = -(dv 0 (mag l) : Int) := if_pos hs
      rw [ev]
      unfold Lib.itoa
      rw [if_pos (by omega), show (-(dv 0 (mag l) : Int)).natAbs = dv 0 (mag l) by omega, g2, em]
      cases l with
      | nil => simp at hs
      | cons a t => simp at hs; simp [hs]
    · have em : mag l = l := if_neg hs
      have ev : vl l = (dv 0 (mag l) : Int) := if_neg hs
      rw [ev]
      unfold Lib.itoa
      rw [if_neg (by omega), Int.toNat_natCast, g2, em]
end Go.Proofs.YtmknmmbfaljkbaaGreatDoor
