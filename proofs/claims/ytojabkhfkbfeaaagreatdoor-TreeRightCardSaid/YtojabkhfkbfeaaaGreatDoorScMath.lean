/- Names, declarations and their texts, as plain mathematics: no program. -/
import Derived.Test.YtojabkhfkbfeaaaGreatDoorBase
import Derived.Lib.Join
namespace Go.Proofs.YtojabkhfkbfeaaaGreatDoor
open Go.RowKit
set_option linter.unusedVariables false

theorem sc_size (s : ByteArray) : s.size = s.data.toList.length := (Array.length_toList (xs := s.data)).symm
theorem sc_tl (s : ByteArray) : s.toList = s.data.toList := ByteArray.toList_eq s
theorem sc_eq {s : ByteArray} {t : List UInt8} (h : s.data.toList = t) : s = ⟨t.toArray⟩ := by
  cases s with
  | mk d => subst h; simp
theorem sc_ext {s t : ByteArray} (h : s.data.toList = t.data.toList) : s = t := (sc_eq (s := s) h).trans (sc_eq (s := t) rfl).symm
theorem sc_empty {s : ByteArray} (h : s.data.toList = []) : s = ByteArray.empty := sc_ext h

/-- A letter, a digit, and what names are made of. -/
def letterB (c : UInt8) : Bool := (decide (65 ≤ c.toNat) && decide (c.toNat ≤ 90)) || (decide (97 ≤ c.toNat) && decide (c.toNat ≤ 122))
def digitB (c : UInt8) : Bool := decide (48 ≤ c.toNat) && decide (c.toNat ≤ 57)
def nameC (c : UInt8) : Bool := letterB c || digitB c || c == 95
/-- Whether a text is spelt as a name. -/
def speltL : List UInt8 → Bool
  | [] => false
  | c :: r => decide ((c :: r).length ≤ 32) && (!digitB c && (c :: r).all nameC)
/-- The words. -/
def wordsL : List ByteArray := [⟨#[97, 99, 99, 101, 112, 116]⟩, ⟨#[97, 108, 115, 111]⟩, ⟨#[97, 110, 100]⟩, ⟨#[98, 111, 111, 108]⟩, ⟨#[100, 111]⟩, ⟨#[101, 118, 101, 110, 116]⟩, ⟨#[101, 120, 105, 115, 116, 115]⟩, ⟨#[102, 97, 108, 115, 101]⟩, ⟨#[102, 111, 114, 97, 108, 108]⟩, ⟨#[102, 114, 101, 101]⟩, ⟨#[105, 102]⟩, ⟨#[105, 110, 116]⟩, ⟨#[110, 101, 120, 116]⟩, ⟨#[110, 111, 116]⟩, ⟨#[111, 110]⟩, ⟨#[111, 114]⟩, ⟨#[113, 101, 97]⟩, ⟨#[115, 107, 105, 112]⟩, ⟨#[115, 116, 97, 114, 116]⟩, ⟨#[115, 116, 114, 105, 110, 103]⟩, ⟨#[116, 111]⟩, ⟨#[116, 114, 117, 101]⟩]
def isT (s t : ByteArray) : Bool := s.toList == t.toList
theorem isT_iff {s t : ByteArray} : isT s t = true ↔ s = t := by
  unfold isT
  rw [beq_iff_eq, sc_tl, sc_tl]
  exact ⟨sc_ext, fun h => by rw [h]⟩
theorem isT_comm (s t : ByteArray) : isT s t = isT t s := by
  rw [Bool.eq_iff_iff, isT_iff, isT_iff]
  exact ⟨Eq.symm, Eq.symm⟩
theorem isT_refl (s : ByteArray) : isT s s = true := isT_iff.2 rfl
def wordB (s : ByteArray) : Bool := wordsL.any (isT s)
def speltB (s : ByteArray) : Bool := speltL s.data.toList
def lineB (s : ByteArray) : Bool := isT s ⟨#[95]⟩
/-- Whether a text is a name. -/
def nameB (s : ByteArray) : Bool := speltB s && (!wordB s && !lineB s)
/-- The word at a place. -/
def wordAt (n : Nat) : ByteArray := wordsL.getD n ⟨#[]⟩
theorem words_drop (n : Nat) (h : n < 22) : wordsL.drop n = wordAt n :: wordsL.drop (n + 1) := by
  rw [List.drop_eq_getElem_cons (show n < wordsL.length from h), wordAt, List.getD, List.getElem?_eq_getElem (show n < wordsL.length from h)]
  rfl
/-- No word so far. -/
def noWord (s : ByteArray) (n : Nat) : Prop := wordB s = (wordsL.drop n).any (isT s)
theorem noWord_zero (s : ByteArray) : noWord s 0 := rfl
theorem noWord_step {s : ByteArray} {n : Nat} (h : noWord s n) (hn : n < 22) (e : isT s (wordAt n) = false) : noWord s (n + 1) := by
  unfold noWord at h ⊢
  rw [h, words_drop n hn, List.any_cons, e]; rfl
theorem noWord_hit {s : ByteArray} {n : Nat} (h : noWord s n) (hn : n < 22) (e : isT s (wordAt n) = true) : wordB s = true := by
  unfold noWord at h
  rw [h, words_drop n hn, List.any_cons, e]; rfl
theorem noWord_end {s : ByteArray} (h : noWord s 22) : wordB s = false := by
  unfold noWord at h
  rw [h]; rfl

/-- Spelling, byte by byte. -/
theorem spelt_none {s : ByteArray} (h : s.size = 0) : speltB s = false := by
  unfold speltB
  rw [sc_size] at h
  rw [List.length_eq_zero_iff.1 h]; rfl
theorem spelt_long {s : ByteArray} (h : 32 < s.size) : speltB s = false := by
  unfold speltB
  rw [sc_size] at h
  cases e : s.data.toList with
  | nil => rw [e] at h; simp at h
  | cons c r =>
    rw [e] at h
    rw [speltL, decide_eq_false (by omega)]; rfl
theorem spelt_digit {s : ByteArray} (h : 0 < s.size) (e : digitB (s[0]'h) = true) : speltB s = false := by
  unfold speltB
  have hh : s.data.toList[0]? = some s[0] := by
    rw [sc_size] at h
    rw [List.getElem?_eq_getElem h]; rfl
  cases e2 : s.data.toList with
  | nil => rw [e2] at hh; simp at hh
  | cons c r =>
    rw [e2] at hh
    have : c = s[0] := by simpa using hh
    rw [speltL, this, e]
    simp
theorem spelt_at {s : ByteArray} {n : Nat} (h : n < s.size) : s.data.toList[n]? = some s[n] := by
  rw [sc_size] at h
  rw [List.getElem?_eq_getElem h]; rfl
theorem spelt_bad {s : ByteArray} {n : Nat} (h : n < s.size) (e : nameC s[n] = false) : speltB s = false := by
  unfold speltB
  have hm : s[n] ∈ s.data.toList := List.mem_of_getElem? (spelt_at h)
  cases e2 : s.data.toList with
  | nil => rw [e2] at hm; simp at hm
  | cons c r =>
    rw [e2] at hm
    have : (c :: r).all nameC = false := by
      rw [Bool.eq_false_iff]
      intro h2
      have := List.all_eq_true.1 h2 _ hm
      rw [e] at this; cases this
    rw [speltL, this]
    simp
/-- All bytes so far are what names are made of. -/
def namesTo (s : ByteArray) (n : Nat) : Prop := ∀ c ∈ s.data.toList.take n, nameC c = true
theorem namesTo_zero (s : ByteArray) : namesTo s 0 := fun c hc => by simp at hc
theorem namesTo_step {s : ByteArray} {n : Nat} (h : namesTo s n) (hn : n < s.size) (e : nameC s[n] = true) : namesTo s (n + 1) := by
  intro c hc
  rw [List.take_add_one, spelt_at hn] at hc
  rcases List.mem_append.1 hc with h1 | h1
  · exact h c h1
  · simp at h1; rw [h1]; exact e
theorem spelt_good {s : ByteArray} (h0 : 0 < s.size) (h1 : s.size ≤ 32) (e : digitB (s[0]'h0) = false) (h : namesTo s s.size) : speltB s = true := by
  unfold speltB
  unfold namesTo at h
  rw [sc_size, List.take_length] at h
  have hh := spelt_at h0
  rw [sc_size] at h1
  cases e2 : s.data.toList with
  | nil => rw [e2] at hh; simp at hh
  | cons c r =>
    rw [e2] at hh h h1
    have : c = s[0] := by simpa using hh
    rw [speltL, decide_eq_true h1, List.all_eq_true.2 h, this, e]
    rfl

/-- A declaration: its name, and its kinds. -/
abbrev Dc := ByteArray × List Int
/-- The name at a place. -/
def nmAt (L : List Dc) (n : Nat) : ByteArray := (L.getD n default).1
def ksAt (L : List Dc) (n : Nat) : List Int := (L.getD n default).2
/-- The first place at which something is so. -/
def firstN (p : Nat → Bool) (n : Nat) : Option Nat := (List.range n).find? p
theorem first_some {p : Nat → Bool} {n i : Nat} (h : ∀ j, j < i → p j = false) (hi : i < n) (e : p i = true) : firstN p n = some i := by
  unfold firstN
  rw [List.find?_range_eq_some]
  exact ⟨e, List.mem_range.2 hi, fun j hj => by rw [h j hj]; rfl⟩
theorem first_none {p : Nat → Bool} {n : Nat} (h : ∀ j, j < n → p j = false) : firstN p n = none := by
  unfold firstN
  rw [List.find?_range_eq_none]
  exact fun j hj => by rw [h j hj]; rfl
/-- None so far. -/
def noneTo (p : Nat → Bool) (n : Nat) : Prop := ∀ j, j < n → p j = false
theorem noneTo_zero (p : Nat → Bool) : noneTo p 0 := fun j h => by omega
theorem noneTo_step {p : Nat → Bool} {n : Nat} (h : noneTo p n) (e : p n = false) : noneTo p (n + 1) := fun j hj => by
  by_cases hn : j = n
  · rw [hn]; exact e
  · exact h j (by omega)
/-- Where a name is. -/
def findL (L : List Dc) (x : ByteArray) : Option Nat := firstN (fun n => isT (nmAt L n) x) L.length
def findI (L : List Dc) (x : ByteArray) : Int := ((findL L x).getD 0 : Nat)
def findB (L : List Dc) (x : ByteArray) : Bool := (findL L x).isSome
/-- .. as the reference says it. -/
def findR (L : List Dc) (x : ByteArray) : Int := match findL L x with | some n => n | none => -1
theorem find_some {L : List Dc} {x : ByteArray} {n : Nat} (h : noneTo (fun n => isT (nmAt L n) x) n) (hn : n < L.length) (e : isT (nmAt L n) x = true) : findL L x = some n := first_some h hn e
theorem find_none {L : List Dc} {x : ByteArray} (h : noneTo (fun n => isT (nmAt L n) x) L.length) : findL L x = none := first_none h
theorem nmAt_take {L : List Dc} {n j : Nat} (h : j < n) : nmAt (L.take n) j = nmAt L j := by
  simp [nmAt, List.getD, h]
/-- A name that stands ahead. -/
theorem twice_iff {L : List Dc} {n : Nat} (hn : n < L.length) : findB (L.take n) (nmAt L n) = true ↔ ∃ j, j < n ∧ isT (nmAt L j) (nmAt L n) = true := by
  unfold findB findL firstN
  rw [List.find?_isSome]
  simp only [List.mem_range, List.length_take]
  constructor
  · rintro ⟨j, h1, h2⟩
    have hj : j < n := by omega
    rw [nmAt_take hj] at h2
    exact ⟨j, hj, h2⟩
  · rintro ⟨j, h1, h2⟩
    exact ⟨j, by omega, by rw [nmAt_take h1]; exact h2⟩
theorem twice_ref {L : List Dc} {n : Nat} (hn : n < L.length) : decide (findR L (nmAt L n) < (n : Int)) = findB (L.take n) (nmAt L n) := by
  rw [Bool.eq_iff_iff, twice_iff hn, decide_eq_true_iff]
  unfold findR
  constructor
  · intro h
    cases e : findL L (nmAt L n) with
    | none =>
      unfold findL firstN at e
      rw [List.find?_range_eq_none] at e
      have := e n hn
      rw [isT_refl] at this; cases this
    | some j =>
      rw [e] at h
      unfold findL firstN at e
      rw [List.find?_range_eq_some] at e
      exact ⟨j, by simpa using h, e.1⟩
  · rintro ⟨j, h1, h2⟩
    cases e : findL L (nmAt L n) with
    | none => show (-1 : Int) < _; omega
    | some i =>
      unfold findL firstN at e
      rw [List.find?_range_eq_some] at e
      show (i : Int) < n
      rcases Nat.lt_or_ge i n with h | h
      · omega
      · have := e.2.2 j (by omega)
        rw [h2] at this; cases this

/-- A kind's name, as bytes; and whether a number is no kind's. -/
def kindL (k : Int) : List UInt8 := if k = 1 then [105, 110, 116] else if k = 2 then [115, 116, 114, 105, 110, 103] else if k = 3 then [98, 111, 111, 108] else []
def kindT (k : Int) : ByteArray := ⟨(kindL k).toArray⟩
def noKind (k : Int) : Bool := !decide (1 ≤ k ∧ k ≤ 3)
theorem noKind_iff (k : Int) : noKind k = isT (kindT k) ⟨#[]⟩ := by
  unfold noKind isT
  rw [sc_tl, sc_tl]
  unfold kindT kindL
  by_cases h1 : k = 1
  · subst h1; decide
  by_cases h2 : k = 2
  · subst h2; decide
  by_cases h3 : k = 3
  · subst h3; decide
  rw [if_neg h1, if_neg h2, if_neg h3, decide_eq_false (by omega)]; decide
theorem kindL_len (k : Int) : (kindL k).length ≤ 6 := by
  unfold kindL
  split
  · decide
  · split
    · decide
    · split <;> decide
/-- What is wrong with a declaration: an error's number; 0: nothing. -/
def wrongAt (L : List Dc) (n : Nat) : Nat :=
  if nameB (nmAt L n) = false then 11 else if findB (L.take n) (nmAt L n) = true then 10 else if 8 < (ksAt L n).length then 14 else if (ksAt L n).any noKind = true then 8 else 0
/-- What is wrong with a schema, and where. -/
def checkL (L : List Dc) : Int × Nat :=
  if 32 < L.length then (32, 14) else match firstN (fun n => wrongAt L n != 0) L.length with
    | some n => (n, wrongAt L n)
    | none => (-1, 0)
theorem check_long {L : List Dc} (h : 32 < L.length) : checkL L = (32, 14) := by rw [checkL, if_pos h]
theorem check_at {L : List Dc} {n : Nat} (h : ¬ 32 < L.length) (hn : n < L.length) (h0 : noneTo (fun n => wrongAt L n != 0) n) (e : wrongAt L n ≠ 0) : checkL L = ((n : Int), wrongAt L n) := by
  rw [checkL, if_neg h, first_some h0 hn (by simpa using e)]
theorem check_none {L : List Dc} (h : ¬ 32 < L.length) (h0 : noneTo (fun n => wrongAt L n != 0) L.length) : checkL L = (-1, 0) := by
  rw [checkL, if_neg h, first_none h0]
theorem wrong_name {L : List Dc} {n : Nat} (h : nameB (nmAt L n) = false) : wrongAt L n = 11 := by rw [wrongAt, if_pos h]
theorem wrong_twice {L : List Dc} {n : Nat} (h : nameB (nmAt L n) = true) (h2 : findB (L.take n) (nmAt L n) = true) : wrongAt L n = 10 := by rw [wrongAt, if_neg (by rw [h]; simp), if_pos h2]
theorem wrong_many {L : List Dc} {n : Nat} (h : nameB (nmAt L n) = true) (h2 : findB (L.take n) (nmAt L n) = false) (h3 : 8 < (ksAt L n).length) : wrongAt L n = 14 := by
  rw [wrongAt, if_neg (by rw [h]; simp), if_neg (by rw [h2]; simp), if_pos h3]
theorem wrong_kind {L : List Dc} {n : Nat} (h : nameB (nmAt L n) = true) (h2 : findB (L.take n) (nmAt L n) = false) (h3 : ¬ 8 < (ksAt L n).length) (h4 : (ksAt L n).any noKind = true) : wrongAt L n = 8 := by
  rw [wrongAt, if_neg (by rw [h]; simp), if_neg (by rw [h2]; simp), if_neg h3, if_pos h4]
theorem wrong_not {L : List Dc} {n : Nat} (h : nameB (nmAt L n) = true) (h2 : findB (L.take n) (nmAt L n) = false) (h3 : ¬ 8 < (ksAt L n).length) (h4 : (ksAt L n).any noKind = false) : wrongAt L n = 0 := by
  rw [wrongAt, if_neg (by rw [h]; simp), if_neg (by rw [h2]; simp), if_neg h3, if_neg (by rw [h4]; simp)]

/-- A declaration's text: up to a kind, and the whole. -/
def kindsN (V : List Int) : Nat → List UInt8
  | 0 => []
  | n + 1 => if n = 0 then kindL (V.getD 0 0) else kindsN V n ++ [44, 32] ++ kindL (V.getD n 0)
def textN (x : ByteArray) (V : List Int) (n : Nat) : List UInt8 := x.data.toList ++ [40] ++ kindsN V n
def scTextL (x : ByteArray) (V : List Int) : List UInt8 := textN x V V.length ++ [41]
def textT (x : ByteArray) (V : List Int) : ByteArray := ⟨(scTextL x V).toArray⟩
theorem kinds_join : ∀ (V : List Int) (n : Nat), n ≤ V.length → kindsN V n = Lib.join ((V.take n).map kindL) [44, 32]
  | V, 0, _ => rfl
  | V, n + 1, h => by
    have ih := kinds_join V n (by omega)
    have ht : V.take (n + 1) = V.take n ++ [V.getD n 0] := by
      rw [List.take_succ_eq_append_getElem (by omega)]
      simp [List.getD, show n < V.length by omega]
    rw [kindsN]
    by_cases h0 : n = 0
    · subst h0
      rw [if_pos rfl, ht]
      simp [Lib.join_one]
    · rw [if_neg h0, ih, ht]
      cases hV : V.take n with
      | nil =>
        have := congrArg List.length hV
        rw [List.length_take, List.length_nil] at this
        omega
      | cons y r =>
        rw [List.cons_append, List.map_cons, List.map_cons, List.map_append, Lib.join_cons, Lib.join_cons, Lib.joinTail, Lib.joinTail]
        simp
theorem kinds_len : ∀ (V : List Int) (n : Nat), (kindsN V n).length ≤ 8 * n
  | V, 0 => by simp [kindsN]
  | V, n + 1 => by
    have ih := kinds_len V n
    rw [kindsN]
    split
    · have := kindL_len (V.getD 0 0)
      omega
    · have := kindL_len (V.getD n 0)
      simp only [List.length_append, List.length_cons, List.length_nil]
      omega
theorem text_same {x y : ByteArray} {V : List Int} (h : scTextL x V = scTextL y V) : x = y := by
  unfold scTextL textN at h
  exact sc_ext (List.append_cancel_right (List.append_cancel_right (List.append_cancel_right h)))

theorem byteB (c : UInt8) (n : Nat) (b : Bool) (h : decide (n ≤ c.toNat) = b) : decide ((n : Int) ≤ (c.toNat : Int)) = b := by
  rw [← h, decide_eq_decide]; omega
theorem byteT (c : UInt8) (n : Nat) (b : Bool) (h : decide (c.toNat ≤ n) = b) : decide ((c.toNat : Int) ≤ (n : Int)) = b := by
  rw [← h, decide_eq_decide]; omega
theorem byte95 (c : UInt8) : ((c.toNat : Int) == 95) = (c == 95) := by
  rw [Bool.eq_iff_iff, beq_iff_eq, beq_iff_eq]
  constructor
  · intro h; exact UInt8.toNat_inj.1 (by show c.toNat = 95; omega)
  · rintro rfl; rfl
theorem nameC_letter {c : UInt8} (h : letterB c = true) : nameC c = true := by unfold nameC; rw [h]; rfl
theorem nameC_digit {c : UInt8} (h : letterB c = false) (h2 : digitB c = true) : nameC c = true := by unfold nameC; rw [h, h2]; rfl
theorem nameC_line {c : UInt8} (h : letterB c = false) (h2 : digitB c = false) : nameC c = (c == 95) := by unfold nameC; rw [h, h2]; rfl
/-- The table of words, as values. -/
def wordsV : Array Value := #[.string ⟨#[97, 99, 99, 101, 112, 116]⟩, .string ⟨#[97, 108, 115, 111]⟩, .string ⟨#[97, 110, 100]⟩, .string ⟨#[98, 111, 111, 108]⟩, .string ⟨#[100, 111]⟩, .string ⟨#[101, 118, 101, 110, 116]⟩, .string ⟨#[101, 120, 105, 115, 116, 115]⟩, .string ⟨#[102, 97, 108, 115, 101]⟩, .string ⟨#[102, 111, 114, 97, 108, 108]⟩, .string ⟨#[102, 114, 101, 101]⟩, .string ⟨#[105, 102]⟩, .string ⟨#[105, 110, 116]⟩, .string ⟨#[110, 101, 120, 116]⟩, .string ⟨#[110, 111, 116]⟩, .string ⟨#[111, 110]⟩, .string ⟨#[111, 114]⟩, .string ⟨#[113, 101, 97]⟩, .string ⟨#[115, 107, 105, 112]⟩, .string ⟨#[115, 116, 97, 114, 116]⟩, .string ⟨#[115, 116, 114, 105, 110, 103]⟩, .string ⟨#[116, 111]⟩, .string ⟨#[116, 114, 117, 101]⟩]
end Go.Proofs.YtojabkhfkbfeaaaGreatDoor
