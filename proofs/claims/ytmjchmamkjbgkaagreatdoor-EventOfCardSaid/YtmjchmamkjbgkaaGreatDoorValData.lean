/- A value's text, the value of a text, and that they give each other. -/
import Derived.Test.YtmjchmamkjbgkaaGreatDoorValMath
import Derived.Test.YtmjchmamkjbgkaaGreatDoorNumParse
import Derived.Test.YtmjchmamkjbgkaaGreatDoorQuoteCut
namespace Go.Proofs.YtmjchmamkjbgkaaGreatDoor
open Go.RowKit
set_option linter.unusedVariables false

/-- What the library's and quote's variables hold. -/
def Laid (w : World) : Prop := (Tab w ∧ ∃ a, ErrR w a) ∧ Esc w
theorem Laid.below {w w' : World} (h : Laid w) (hb : Below w.heap.size w w') : Laid w' := by
  obtain ⟨⟨h1, a, h2⟩, h3⟩ := h
  exact ⟨⟨tab_below h1 hb, a, errR_below h2 hb⟩, esc_below h3 (var_lt gEsc h3) hb⟩

def tru : List UInt8 := [116, 114, 117, 101]
def fls : List UInt8 := [102, 97, 108, 115, 101]
/-- A value's text. -/
def valText (k i : Int) (s : ByteArray) (b : Bool) : List UInt8 :=
  if rightB k i s b = true then (if k = 1 then Lib.itoa i else if k = 2 then quoteL s.data.toList else if b = true then tru else fls) else []

theorem quote_inj {t u : List UInt8} (h : quoteL t = quoteL u) : t = u := by
  have h1 : quoteL t = quoteL u ++ [] := by rw [h, List.append_nil]
  have h2 : quoteL t = quoteL t ++ [] := by rw [List.append_nil]
  rw [quote_split.1 h2] at h1
  exact body_same t u [] [] (List.cons.inj (quote_split.1 h1)).2

/-- The text whose quoted form this is. -/
noncomputable def unq (l : List UInt8) : Option (List UInt8) := open Classical in if h : ∃ t, l = quoteL t then some h.choose else none
theorem unq_quote (t : List UInt8) : unq (quoteL t) = some t := by
  unfold unq
  have h : ∃ u, quoteL t = quoteL u := ⟨t, rfl⟩
  rw [dif_pos h, quote_inj h.choose_spec.symm]
theorem unq_none {l : List UInt8} (h : ∀ t, l ≠ quoteL t) : unq l = none := by
  unfold unq
  rw [dif_neg (fun ⟨t, e⟩ => h t e)]
theorem unq_some {l t : List UInt8} (h : unq l = some t) : l = quoteL t := by
  unfold unq at h
  by_cases hx : ∃ t, l = quoteL t
  · rw [dif_pos hx] at h
    rw [← Option.some.inj h]
    exact hx.choose_spec
  · rw [dif_neg hx] at h; cases h
theorem unq_told {l t : List UInt8} {n : Nat} {ok : Bool} (h : CutTold l t n ok) : unq l = if ok = true ∧ n = l.length then some t else none := by
  rcases h with ⟨rfl, rfl, y, hy⟩ | ⟨rfl, rfl, rfl, hn⟩
  · by_cases hl : (quoteL t).length = l.length
    · rw [if_pos ⟨rfl, hl⟩]
      have : y = [] := by
        have h1 := congrArg List.length hy
        rw [List.length_append] at h1
        exact List.length_eq_zero_iff.1 (by omega)
      subst this
      rw [hy, List.append_nil, unq_quote]
    · rw [if_neg (fun h => hl h.2)]
      refine unq_none fun u hu => hl ?_
      have h1 : quoteL t ++ y = quoteL u ++ [] := by rw [← hy, ← hu, List.append_nil]
      rw [quote_split.1 (show quoteL t ++ y = quoteL t ++ y from rfl)] at h1
      have h2 := body_same t u y [] (List.cons.inj (quote_split.1 h1)).2
      rw [h2, ← hu]
  · rw [if_neg (fun h => by cases h.1)]
    exact unq_none fun u hu => hn u [] (by rw [List.append_nil]; exact hu)

/-- What Parse tells: a value, and an error. -/
structure PVal where
  (k i : Int) (s : List UInt8) (b : Bool) (e : Int)
def PVal.val (p : PVal) : Value := .tuple #[.agg #[.int .i64 p.k, .int .i64 p.i, .string ⟨p.s.toArray⟩, .bool p.b], .int .i64 p.e]
def strV (o : Option (List UInt8)) : PVal := match o with | some t => if 4096 < t.length then ⟨0, 0, [], false, 3⟩ else ⟨2, 0, t, false, 0⟩ | none => ⟨0, 0, [], false, 4⟩
noncomputable def parsedV (l : List UInt8) : PVal :=
  if l = tru then ⟨3, 0, [], true, 0⟩ else if l = fls then ⟨3, 0, [], false, 0⟩ else
  if l.head? = some 34 then strV (unq l) else
  if pe l = 0 then ⟨1, pn l, [], false, 0⟩ else ⟨0, 0, [], false, pe l⟩

theorem parsed_tru : parsedV tru = ⟨3, 0, [], true, 0⟩ := by unfold parsedV; rw [if_pos rfl]
theorem parsed_fls : parsedV fls = ⟨3, 0, [], false, 0⟩ := by unfold parsedV; rw [if_neg (by decide), if_pos rfl]
theorem parsed_str {l : List UInt8} (h : l.head? = some 34) : parsedV l = strV (unq l) := by
  unfold parsedV
  rw [if_neg (fun e => by rw [e] at h; cases h), if_neg (fun e => by rw [e] at h; cases h), if_pos h]
theorem parsed_yes {l : List UInt8} (h1 : l ≠ tru) (h2 : l ≠ fls) (h : l.head? ≠ some 34) (hp : pe l = 0) : parsedV l = ⟨1, pn l, [], false, 0⟩ := by
  unfold parsedV
  rw [if_neg h1, if_neg h2, if_neg h, if_pos hp]
theorem parsed_no {l : List UInt8} (h1 : l ≠ tru) (h2 : l ≠ fls) (h : l.head? ≠ some 34) (hp : pe l ≠ 0) : parsedV l = ⟨0, 0, [], false, pe l⟩ := by
  unfold parsedV
  rw [if_neg h1, if_neg h2, if_neg h, if_neg hp]
theorem PVal.val_eq (p : PVal) : ∃ k i T b e, p.val = .tuple #[.agg #[.int .i64 k, .int .i64 i, .string T, .bool b], .int .i64 e] := ⟨_, _, _, _, _, rfl⟩
theorem pn_itoa (n : Int) (h : -9223372036854775808 ≤ n ∧ n ≤ 9223372036854775807) : pn (Lib.itoa n) = n := by
  unfold pn; rw [if_pos (itoa_form n).1, (itoa_form n).2, tn_yes h.1 h.2]
theorem pe_itoa (n : Int) (h : -9223372036854775808 ≤ n ∧ n ≤ 9223372036854775807) : pe (Lib.itoa n) = 0 := by
  unfold pe; rw [if_pos (itoa_form n).1, (itoa_form n).2, tb_yes h.1 h.2, if_pos rfl]
theorem pe_zero {l : List UInt8} (h : pe l = 0) : Lib.itoa (pn l) = l ∧ -9223372036854775808 ≤ pn l ∧ pn l ≤ 9223372036854775807 := by
  unfold pe at h
  by_cases hf : formB l = true
  · rw [if_pos hf] at h
    by_cases hb : tb (vl l) = true
    · have hr : -9223372036854775808 ≤ vl l ∧ vl l ≤ 9223372036854775807 := by simpa [tb] using hb
      have e : pn l = vl l := by unfold pn; rw [if_pos hf, tn_yes hr.1 hr.2]
      rw [e, form_itoa hf]
      exact ⟨rfl, hr⟩
    · rw [if_neg hb] at h; omega
  · rw [if_neg hf] at h; omega
theorem form_head {l : List UInt8} (h : formB l = true) : l.head? ≠ some 34 := by
  intro hh
  obtain ⟨hne, hd⟩ := form_digits h
  cases l with
  | nil => cases hh
  | cons c r =>
    obtain rfl : c = 34 := by simpa using hh
    have em : mag (34 :: r) = 34 :: r := if_neg (by simp)
    rw [em] at hd
    simp [isD] at hd
theorem tl_data (s : ByteArray) : s.toList = s.data.toList := ByteArray.toList_eq s
theorem empty_of {s : ByteArray} (h : s.toList.isEmpty = true) : s.data.toList = [] := by rw [← tl_data]; simpa using h
theorem back_ba (s : ByteArray) : (⟨s.data.toList.toArray⟩ : ByteArray) = s := rfl

theorem parsed_text (k i : Int) (s : ByteArray) (b : Bool) (hi : -9223372036854775808 ≤ i ∧ i ≤ 9223372036854775807) (h : rightB k i s b = true) :
    parsedV (valText k i s b) = ⟨k, i, s.data.toList, b, 0⟩ := by
  unfold valText
  rw [if_pos h]
  unfold rightB at h
  by_cases h1 : k = 1
  · rw [if_pos h1] at h ⊢
    simp only [Bool.and_eq_true, Bool.not_eq_true'] at h
    have hf := (itoa_form i).1
    unfold parsedV
    rw [if_neg (fun e => by rw [e] at hf; revert hf; decide), if_neg (fun e => by rw [e] at hf; revert hf; decide), if_neg (form_head hf), if_pos (pe_itoa i hi), pn_itoa i hi, empty_of h.1, h.2, h1]
  · rw [if_neg h1] at h ⊢
    by_cases h2 : k = 2
    · rw [if_pos h2] at h ⊢
      simp only [Bool.and_eq_true, Bool.not_eq_true', beq_iff_eq, decide_eq_true_eq] at h
      have hl : ¬ 4096 < s.data.toList.length := by rw [← ba_size]; omega
      unfold parsedV
      rw [if_neg (fun e => by cases e), if_neg (fun e => by cases e), if_pos (show (quoteL s.data.toList).head? = some 34 from rfl), unq_quote]
      simp only [strV, if_neg hl, h.1.1, h.1.2, h2]
    · rw [if_neg h2] at h ⊢
      simp only [Bool.and_eq_true, beq_iff_eq] at h
      rw [empty_of h.2, h.1.1, h.1.2]
      cases b
      · rw [if_neg (by simp)]; unfold parsedV; rw [if_neg (by decide), if_pos rfl]
      · rw [if_pos rfl]; unfold parsedV; rw [if_pos rfl]

theorem parsed_back {l : List UInt8} (h : (parsedV l).e = 0) : rightB (parsedV l).k (parsedV l).i ⟨(parsedV l).s.toArray⟩ (parsedV l).b = true ∧ valText (parsedV l).k (parsedV l).i ⟨(parsedV l).s.toArray⟩ (parsedV l).b = l ∧ -9223372036854775808 ≤ (parsedV l).i ∧ (parsedV l).i ≤ 9223372036854775807 := by
  have key : ∀ k i s b, parsedV l = ⟨k, i, s, b, 0⟩ → rightB k i ⟨s.toArray⟩ b = true → (if k = 1 then Lib.itoa i else if k = 2 then quoteL s else if b = true then tru else fls) = l → -9223372036854775808 ≤ i ∧ i ≤ 9223372036854775807 →
      rightB (parsedV l).k (parsedV l).i ⟨(parsedV l).s.toArray⟩ (parsedV l).b = true ∧ valText (parsedV l).k (parsedV l).i ⟨(parsedV l).s.toArray⟩ (parsedV l).b = l ∧ -9223372036854775808 ≤ (parsedV l).i ∧ (parsedV l).i ≤ 9223372036854775807 := by
    intro k i s b hp hr ht hb
    rw [hp]
    refine ⟨hr, ?_, hb⟩
    unfold valText
    rw [if_pos hr]
    exact ht
  unfold parsedV at h
  by_cases h1 : l = tru
  · exact key 3 0 [] true (by unfold parsedV; rw [if_pos h1]) (by simp [rightB, ByteArray.toList_eq]) (by rw [h1]; rfl) ⟨by omega, by omega⟩
  rw [if_neg h1] at h
  by_cases h2 : l = fls
  · exact key 3 0 [] false (by unfold parsedV; rw [if_neg h1, if_pos h2]) (by simp [rightB, ByteArray.toList_eq]) (by rw [h2]; rfl) ⟨by omega, by omega⟩
  rw [if_neg h2] at h
  by_cases h3 : l.head? = some 34
  · rw [if_pos h3] at h
    cases hu : unq l with
    | none => rw [hu] at h; exact absurd h (by decide)
    | some t =>
      rw [hu] at h
      simp only [strV] at h
      by_cases h4 : 4096 < t.length
      · rw [if_pos h4] at h; exact absurd h (by decide)
      · refine key 2 0 t false (by unfold parsedV; rw [if_neg h1, if_neg h2, if_pos h3, hu]; simp only [strV, if_neg h4]) ?_ (unq_some hu).symm ⟨by omega, by omega⟩
        have e : (⟨t.toArray⟩ : ByteArray).size = t.length := by rw [ba_size]
        simp [rightB, e]
        omega
  · rw [if_neg h3] at h
    by_cases h5 : pe l = 0
    · obtain ⟨e1, e2⟩ := pe_zero h5
      exact key 1 (pn l) [] false (by unfold parsedV; rw [if_neg h1, if_neg h2, if_neg h3, if_pos h5]) (by simp [rightB, ByteArray.toList_eq]) e1 e2
    · rw [if_neg h5] at h; exact absurd h h5
end Go.Proofs.YtmjchmamkjbgkaaGreatDoor
