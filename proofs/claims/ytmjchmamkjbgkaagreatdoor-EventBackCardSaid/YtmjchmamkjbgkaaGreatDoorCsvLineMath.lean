/- Rows as they are written, as plain data; and that they are read as they were. -/
import Derived.Test.YtmjchmamkjbgkaaGreatDoorCsvMath
import Derived.Lib.ReplaceLaws
namespace Go.Proofs.YtmjchmamkjbgkaaGreatDoor
open Go.RowKit
set_option linter.unusedVariables false

/-- Each quote is two. -/
def dupL : List UInt8 → List UInt8
  | [] => []
  | c :: r => if c = 34 then 34 :: 34 :: dupL r else c :: dupL r
theorem dupL_q (r : List UInt8) : dupL (34 :: r) = 34 :: 34 :: dupL r := by rw [dupL, if_pos rfl]
theorem dupL_else {c : UInt8} (h : c ≠ 34) (r : List UInt8) : dupL (c :: r) = c :: dupL r := by rw [dupL, if_neg h]
theorem dupL_app : ∀ (a b : List UInt8), dupL (a ++ b) = dupL a ++ dupL b
  | [], b => rfl
  | c :: a, b => by
    by_cases h : c = 34
    · subst h; rw [List.cons_append, dupL_q, dupL_q, dupL_app a b]; rfl
    · rw [List.cons_append, dupL_else h, dupL_else h, dupL_app a b]; rfl
theorem dupL_len : ∀ l, (dupL l).length ≤ 2 * l.length
  | [] => Nat.le_refl _
  | c :: r => by
    have := dupL_len r
    rw [dupL]
    split <;> simp <;> omega
theorem dup_replaceK : ∀ l : List UInt8, Lib.replaceK [34] [34, 34] (Lib.count l [34]) l = dupL l
  | [] => by
    rw [Lib.count_miss (by rfl)]; rfl
  | c :: r => by
    have ih := dup_replaceK r
    by_cases hc : c = 34
    · subst hc
      have h0 : Lib.index (34 :: r) [34] = ((0 : Nat) : Int) := by simp [Lib.index]
      rw [Lib.count_hit (by simp) h0, Nat.add_comm, Lib.replaceK_hit _ _ _ _ 0 h0, dupL_q]
      simp
      exact ih
    · rw [dupL_else hc]
      have hp : ¬ (List.isPrefixOf [34] (c :: r)) = true := by simp [List.isPrefixOf]; exact fun e => hc e.symm
      by_cases hm : Lib.index r [34] = -1
      · have h1 : Lib.index (c :: r) [34] = -1 := by rw [Lib.index, if_neg hp, if_pos (by rw [hm]; rfl)]
        rw [Lib.count_miss hm] at ih
        rw [Lib.count_miss h1, Lib.replaceK]
        rw [Lib.replaceK] at ih
        rw [← ih]
      · have hge := Lib.index_ge r [34]
        obtain ⟨i, hi⟩ : ∃ i : Nat, Lib.index r [34] = i := ⟨(Lib.index r [34]).toNat, by omega⟩
        have h1 : Lib.index (c :: r) [34] = ((i + 1 : Nat) : Int) := by
          rw [Lib.index, if_neg hp, if_neg (by rw [hi]; simp), hi]; rfl
        rw [Lib.count_hit (by simp) hi, Nat.add_comm, Lib.replaceK_hit _ _ _ _ i hi] at ih
        rw [Lib.count_hit (by simp) h1, Nat.add_comm, Lib.replaceK_hit _ _ _ _ (i + 1) h1]
        rw [show (c :: r).drop (i + 1 + [(34 : UInt8)].length) = r.drop (i + [(34 : UInt8)].length) by simp, List.take_succ_cons]
        rw [← ih]
        simp
theorem dup_replace (l : List UInt8) : Lib.replaceAll l [34] [34, 34] = dupL l := by
  have h : ([(34 : UInt8)] == [34, 34]) = false := by decide
  rw [Lib.replaceAll, Lib.replace, if_neg (by rw [h]; simp), Lib.replaceNum, if_pos (.inl (by decide)), dup_replaceK]

/-- A field as it is written. -/
def fieldL (f : List UInt8) : List UInt8 := if plSize f = f.length then f else 34 :: (dupL f ++ [34])
theorem fieldL_len (f : List UInt8) : (fieldL f).length ≤ 2 * f.length + 2 := by
  have := dupL_len f
  rw [fieldL]
  split
  · omega
  · simp; omega
theorem endQ_dup : ∀ (f r : List UInt8), r.head? ≠ some 34 → endQ (dupL f ++ 34 :: r) = some (dupL f).length
  | [], r, h => endQ_end h
  | c :: f, r, h => by
    by_cases hc : c = 34
    · subst hc
      rw [dupL_q, List.cons_append, List.cons_append, endQ_two, endQ_dup f r h]
      simp
    · rw [dupL_else hc, List.cons_append, endQ_else hc, endQ_dup f r h]
      simp
theorem unq_dup : ∀ f : List UInt8, unqL (dupL f) = f
  | [] => rfl
  | c :: f => by
    by_cases hc : c = 34
    · subst hc; rw [dupL_q, unqL_two, unq_dup f]
    · rw [dupL_else hc, unqL_else hc, unq_dup f]
theorem plC_not {c : UInt8} (h : c = 44 ∨ c = 13) : plC c = false := by
  rcases h with rfl | rfl <;> decide
/-- A field that was written is read as it was, ahead of a comma, or a row's end. -/
theorem fieldF_back (f : List UInt8) (c : UInt8) (r : List UInt8) (hc : c = 44 ∨ c = 13) : fieldF (fieldL f ++ c :: r) = some (f, (fieldL f).length) := by
  have hc34 : c ≠ 34 := by rcases hc with rfl | rfl <;> decide
  rw [fieldL]
  by_cases h : plSize f = f.length
  · rw [if_pos h]
    have hall := plSize_all h
    have hsz : plSize (f ++ c :: r) = f.length := plSize_of _ _ (by simp) (fun d hd => hall d (by simpa using hd)) (fun d hd => by
      simp at hd
      rw [← hd]; exact plC_not hc)
    have hh : (f ++ c :: r).head? ≠ some 34 := by
      cases f with
      | nil => simpa using hc34
      | cons d f =>
        have := hall d (by simp)
        intro e
        have e2 : d = 34 := by simpa using e
        rw [e2] at this
        exact absurd this (by decide)
    rw [fieldF, if_neg hh, hsz, if_neg (by simpa using hc34)]
    simp
  · rw [if_neg h, fieldF, if_pos (by rfl)]
    have e : (34 :: (dupL f ++ [34]) ++ c :: r).drop 1 = dupL f ++ 34 :: (c :: r) := by simp
    rw [e, endQ_dup f (c :: r) (by simpa using hc34)]
    simp [unq_dup]
/-- Fields with commas between. -/
def joinL : List (List UInt8) → List UInt8
  | [] => []
  | [f] => fieldL f
  | f :: g :: r => fieldL f ++ 44 :: joinL (g :: r)
/-- The first n fields, with commas between. -/
def joinN (fs : List (List UInt8)) : Nat → List UInt8
  | 0 => []
  | n + 1 => joinN fs n ++ (if n = 0 then [] else [44]) ++ fieldL (fs.getD n [])
theorem joinN_cons (f : List UInt8) (fs : List (List UInt8)) : ∀ n, joinN (f :: fs) (n + 1) = fieldL f ++ (if n = 0 then [] else 44 :: joinN fs n)
  | 0 => by simp [joinN]
  | n + 1 => by
    rw [joinN, joinN_cons f fs n, if_neg (Nat.succ_ne_zero n), if_neg (Nat.succ_ne_zero n), joinN]
    by_cases h : n = 0
    · subst h
      simp [joinN]
    · rw [if_neg h, if_neg h]
      simp
theorem joinN_all : ∀ fs, joinN fs fs.length = joinL fs
  | [] => rfl
  | [f] => by rw [List.length_singleton, joinN_cons]; simp [joinL]
  | f :: g :: r => by
    have ih := joinN_all (g :: r)
    rw [List.length_cons, joinN_cons, if_neg (by simp), ih]
    rfl
/-- A row as it is written. -/
def lineL (fs : List (List UInt8)) : List UInt8 := if fs = [] then [] else joinL fs ++ [13, 10]
/-- How many bytes fields take at most. -/
def costF : List (List UInt8) → Nat
  | [] => 0
  | f :: r => (2 * f.length + 3) + costF r
theorem joinL_len : ∀ fs, (joinL fs).length ≤ costF fs
  | [] => Nat.le_refl _
  | [f] => by have := fieldL_len f; simp [joinL, costF]; omega
  | f :: g :: r => by
    have h1 := fieldL_len f
    have h2 := joinL_len (g :: r)
    rw [joinL, List.length_append, List.length_cons, costF]
    omega
theorem joinN_len : ∀ (fs : List (List UInt8)) (n : Nat), n ≤ fs.length → (joinN fs n).length ≤ costF fs
  | _, 0, _ => by simp [joinN]
  | [], n + 1, h => by simp at h
  | f :: fs, n + 1, h => by
    have h1 := fieldL_len f
    have h2 := joinN_len fs n (by simpa using h)
    rw [joinN_cons, costF]
    split
    · simp; omega
    · simp; omega
theorem lineL_len (fs : List (List UInt8)) : (lineL fs).length ≤ costF fs + 2 := by
  have := joinL_len fs
  rw [lineL]
  split
  · simp
  · simp; omega
/-- The first field that is too long, from 1 on; 0, if there is none. -/
def longF : List (List UInt8) → Nat
  | [] => 0
  | f :: r => if 4096 < f.length then 1 else if longF r = 0 then 0 else longF r + 1
theorem longF_snoc : ∀ (fs : List (List UInt8)) (f : List UInt8), longF (fs ++ [f]) = if longF fs ≠ 0 then longF fs else if 4096 < f.length then fs.length + 1 else 0
  | [], f => by simp [longF]
  | g :: fs, f => by
    rw [List.cons_append, longF, longF, longF_snoc fs f]
    by_cases h : 4096 < g.length
    · simp [h]
    · by_cases h2 : longF fs = 0
      · by_cases h3 : 4096 < f.length <;> simp [h, h2, h3]
      · simp [h, h2]
theorem endsF_44 (r : List UInt8) : endsF (44 :: r) = true := by simp [endsF]
theorem endsF_end (r : List UInt8) : endsF (13 :: 10 :: r) = true := by simp [endsF, List.isPrefixOf]
theorem fieldR_back (f : List UInt8) (c : UInt8) (r : List UInt8) (hc : c = 44 ∨ c = 13) (he : endsF (c :: r) = true) : fieldR (fieldL f ++ c :: r) = if 4096 < f.length then .error 3 else .ok (f, c :: r) := by
  rw [fieldR, fieldF_back f c r hc]
  simp [he]
/-- A row that was written is read as it was; or its first field that is too long is told. -/
theorem rowR_back (rest : List UInt8) : ∀ fs : List (List UInt8), fs ≠ [] → rowR (joinL fs ++ 13 :: 10 :: rest) = if longF fs = 0 then .ok (fs, rest) else .error (3, longF fs)
  | [], h => absurd rfl h
  | [f], _ => by
    have h1 := fieldR_back f 13 (10 :: rest) (.inr rfl) (endsF_end rest)
    rw [joinL]
    by_cases h : 4096 < f.length
    · rw [if_pos h] at h1
      rw [rowR_err h1]
      simp [longF, h]
    · rw [if_neg h] at h1
      rw [rowR_end h1 (by simp)]
      simp [longF, h, cutE, List.isPrefixOf]
  | f :: g :: r, _ => by
    have h1 := fieldR_back f 44 (joinL (g :: r) ++ 13 :: 10 :: rest) (.inl rfl) (endsF_44 _)
    have ih := rowR_back rest (g :: r) (by simp)
    have e : joinL (f :: g :: r) ++ 13 :: 10 :: rest = fieldL f ++ 44 :: (joinL (g :: r) ++ 13 :: 10 :: rest) := by simp [joinL]
    rw [e, longF]
    by_cases h : 4096 < f.length
    · rw [if_pos h] at h1
      rw [rowR_err h1]
      simp [h]
    · rw [if_neg h] at h1
      rw [rowR_more h1 (by simp), List.drop_one, List.tail_cons, ih]
      by_cases h2 : longF (g :: r) = 0
      · simp [h, h2]
      · simp [h, h2]
theorem line_row (fs : List (List UInt8)) (rest : List UInt8) (h : fs ≠ []) : lineL fs ++ rest = joinL fs ++ 13 :: 10 :: rest := by
  rw [lineL, if_neg h]; simp
/-- The first row that has a field that is too long, from 1 on, and that field; zeros, if there is none. -/
def longR : List (List (List UInt8)) → Nat × Nat
  | [] => (0, 0)
  | fs :: r => if longF fs ≠ 0 then (1, longF fs) else if (longR r).1 = 0 then (0, 0) else ((longR r).1 + 1, (longR r).2)
theorem longR_zero : ∀ R, (longR R).1 = 0 → longR R = (0, 0)
  | [], _ => rfl
  | fs :: r, h => by
    rw [longR] at h ⊢
    split
    · next h1 => rw [if_pos h1] at h; cases h
    · next h1 =>
      rw [if_neg h1] at h
      split
      · rfl
      · next h2 => rw [if_neg h2] at h; cases h
theorem longR_snoc : ∀ (R : List (List (List UInt8))) (fs : List (List UInt8)), longR (R ++ [fs]) = if (longR R).1 ≠ 0 then longR R else if longF fs ≠ 0 then (R.length + 1, longF fs) else (0, 0)
  | [], fs => by
    simp [longR]
  | g :: R, fs => by
    have ih := longR_snoc R fs
    rw [List.cons_append, longR, longR, ih]
    by_cases h1 : longF g ≠ 0
    · simp [h1]
    · by_cases h2 : (longR R).1 = 0
      · by_cases h3 : longF fs = 0 <;> simp [h1, h2, h3]
      · simp [h1, h2]
/-- Rows one behind the other. -/
def textL : List (List (List UInt8)) → List UInt8
  | [] => []
  | fs :: r => lineL fs ++ textL r
theorem textL_snoc : ∀ (R : List (List (List UInt8))) (fs : List (List UInt8)), textL (R ++ [fs]) = textL R ++ lineL fs
  | [], fs => by simp [textL]
  | g :: R, fs => by rw [List.cons_append, textL, textL, textL_snoc R fs, List.append_assoc]
/-- Rows that were written one behind the other are read as they were. -/
theorem allR_back : ∀ R : List (List (List UInt8)), (∀ fs ∈ R, fs ≠ []) → allR (textL R) = if (longR R).1 = 0 then (R, 0, 0, 0) else (R.take ((longR R).1 - 1), 3, (longR R).1, (longR R).2)
  | [], _ => rfl
  | fs :: R, h => by
    have hfs := h fs (by simp)
    have ih := allR_back R (fun g hg => h g (by simp [hg]))
    have hne : lineL fs ++ textL R ≠ [] := by rw [line_row fs _ hfs]; simp
    have hrow := rowR_back (textL R) fs hfs
    rw [← line_row fs _ hfs] at hrow
    rw [textL, longR]
    by_cases h1 : longF fs = 0
    · rw [if_pos h1] at hrow
      rw [allR_ok hne hrow, ih]
      by_cases h2 : (longR R).1 = 0
      · simp [h1, h2]
      · obtain ⟨j, hj⟩ : ∃ j, (longR R).1 = j + 1 := ⟨(longR R).1 - 1, by omega⟩
        simp [h1, hj]
    · rw [if_neg h1] at hrow
      rw [allR_err hne hrow]
      simp [h1]
end Go.Proofs.YtmjchmamkjbgkaaGreatDoor
