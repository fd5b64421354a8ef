/- Rows of fields as plain data: fields, rows, texts of rows; no program. -/
import Derived.Test.YtmjchmamkjbgkaaGreatDoorRows
import Derived.Lib.Bytealg
import Derived.WalkKit
namespace Go.Proofs.YtmjchmamkjbgkaaGreatDoor
open Go.RowKit
set_option linter.unusedVariables false

/-- A byte that may stand without quotes. -/
def plC (c : UInt8) : Bool := decide (32 ≤ c.toNat) && (decide (c.toNat ≤ 126) && (c != 34 && c != 44))
/-- How many bytes at the beginning may stand without quotes. -/
def plSize : List UInt8 → Nat
  | [] => 0
  | c :: r => if plC c then plSize r + 1 else 0
theorem plSize_le : ∀ l, plSize l ≤ l.length
  | [] => Nat.le_refl _
  | c :: r => by
    have := plSize_le r
    rw [plSize]
    split <;> simp
    exact this
/-- The first n bytes may. -/
def plTo (l : List UInt8) (n : Nat) : Prop := ∀ c ∈ l.take n, plC c = true
theorem plSize_of : ∀ (l : List UInt8) (n : Nat), n ≤ l.length → plTo l n → (∀ c, l[n]? = some c → plC c = false) → plSize l = n
  | [], n, h, _, _ => by simp at h; subst h; rfl
  | c :: r, 0, _, _, h3 => by
    have := h3 c rfl
    rw [plSize, this]; rfl
  | c :: r, n + 1, h, h2, h3 => by
    have hc : plC c = true := h2 c (by simp)
    rw [plSize, if_pos hc, plSize_of r n (by simpa using h) (fun d hd => h2 d (by simp [hd])) (fun d hd => h3 d (by simpa using hd))]
theorem plTo_succ {l : List UInt8} {n : Nat} (h : n < l.length) (k : plTo l n) (hc : plC l[n] = true) : plTo l (n + 1) := by
  intro c hm
  rw [List.take_succ_eq_append_getElem h] at hm
  rcases List.mem_append.1 hm with e | e
  · exact k c e
  · rw [List.mem_singleton.1 e]; exact hc
theorem plTo_size : ∀ l, plTo l (plSize l)
  | [] => fun c h => by simp at h
  | d :: r => fun c h => by
    rw [plSize] at h
    by_cases hd : plC d = true
    · rw [if_pos hd, List.take_succ_cons] at h
      rcases List.mem_cons.1 h with e | e
      · rw [e]; exact hd
      · exact plTo_size r c e
    · rw [if_neg hd] at h; simp at h
theorem plSize_all {l : List UInt8} (h : plSize l = l.length) : ∀ c ∈ l, plC c = true := fun c hc => by
  have := plTo_size l
  rw [h] at this
  exact this c (by rw [List.take_length]; exact hc)

/-- Each two quotes are one. -/
def unqL : List UInt8 → List UInt8
  | [] => []
  | [c] => [c]
  | c :: d :: r => if c = 34 ∧ d = 34 then 34 :: unqL r else c :: unqL (d :: r)
theorem unqL_two (r : List UInt8) : unqL (34 :: 34 :: r) = 34 :: unqL r := by rw [unqL, if_pos ⟨rfl, rfl⟩]
theorem unqL_else {c : UInt8} (h : c ≠ 34) (r : List UInt8) : unqL (c :: r) = c :: unqL r := by
  cases r with
  | nil => rfl
  | cons d r => rw [unqL, if_neg (fun e => h e.1)]
/-- Where the quote stands that ends a field, behind its first one. -/
def endQ : List UInt8 → Option Nat
  | [] => none
  | [c] => if c = 34 then some 0 else none
  | c :: d :: r => if c = 34 then (if d = 34 then (endQ r).map (· + 2) else some 0) else (endQ (d :: r)).map (· + 1)
theorem endQ_else {c : UInt8} (h : c ≠ 34) (r : List UInt8) : endQ (c :: r) = (endQ r).map (· + 1) := by
  cases r with
  | nil => simp [endQ, h]
  | cons d r => rw [endQ, if_neg h]
theorem endQ_two (r : List UInt8) : endQ (34 :: 34 :: r) = (endQ r).map (· + 2) := by rw [endQ, if_pos rfl, if_pos rfl]
theorem endQ_end {r : List UInt8} (h : r.head? ≠ some 34) : endQ (34 :: r) = some 0 := by
  cases r with
  | nil => simp [endQ]
  | cons d r =>
    have hd : d ≠ 34 := fun e => h (by rw [e]; rfl)
    rw [endQ, if_pos rfl, if_neg hd]
theorem endQ_skip : ∀ (a r : List UInt8), (34 : UInt8) ∉ a → endQ (a ++ r) = (endQ r).map (· + a.length)
  | [], r, _ => by simp
  | c :: a, r, h => by
    have hc : c ≠ 34 := fun e => h (by rw [e]; simp)
    rw [List.cons_append, endQ_else hc, endQ_skip a r (fun e => h (by simp [e]))]
    cases endQ r with
    | none => rfl
    | some n => simp; omega
theorem endQ_none {a : List UInt8} (h : (34 : UInt8) ∉ a) : endQ a = none := by
  have := endQ_skip a [] h
  rw [List.append_nil] at this
  rw [this]; rfl
theorem endQ_lt : ∀ (l : List UInt8) (n : Nat), endQ l = some n → n < l.length
  | [], n, h => by simp [endQ] at h
  | [c], n, h => by
    rw [endQ] at h
    split at h
    · cases h; simp
    · cases h
  | c :: d :: r, n, h => by
    by_cases hc : c = 34
    · subst hc
      by_cases hd : d = 34
      · subst hd
        rw [endQ_two] at h
        cases e : endQ r with
        | none => rw [e] at h; cases h
        | some m =>
          rw [e] at h
          have := endQ_lt r m e
          cases h
          simp; omega
      · rw [endQ_end (by simpa using hd)] at h
        cases h; simp
    · rw [endQ_else hc] at h
      cases e : endQ (d :: r) with
      | none => rw [e] at h; cases h
      | some m =>
        rw [e] at h
        have := endQ_lt (d :: r) m e
        cases h
        simp at this ⊢; omega
/-- What the field is, and how many bytes it takes; none, where a quote is wrong. -/
def fieldF (l : List UInt8) : Option (List UInt8 × Nat) :=
  if l.head? = some 34 then (endQ (l.drop 1)).map fun n => (unqL ((l.drop 1).take n), n + 2)
  else if (l.drop (plSize l)).head? = some 34 then none else some (l.take (plSize l), plSize l)
theorem fieldF_le {l f : List UInt8} {n : Nat} (h : fieldF l = some (f, n)) : n ≤ l.length := by
  rw [fieldF] at h
  split at h
  next h34 =>
    cases e : endQ (l.drop 1) with
    | none => rw [e] at h; cases h
    | some m =>
      rw [e] at h
      have := endQ_lt _ _ e
      cases h
      rw [List.length_drop] at this
      omega
  next =>
    split at h
    · cases h
    · cases h; exact plSize_le l
theorem unqL_len : ∀ l, (unqL l).length ≤ l.length
  | [] => Nat.le_refl _
  | [c] => Nat.le_refl _
  | c :: d :: r => by
    have h1 := unqL_len r
    have h2 := unqL_len (d :: r)
    rw [unqL]
    split
    · simp; omega
    · simp at h2 ⊢; omega
theorem fieldF_len {l f : List UInt8} {n : Nat} (h : fieldF l = some (f, n)) : f.length ≤ l.length := by
  rw [fieldF] at h
  split at h
  next h34 =>
    cases e : endQ (l.drop 1) with
    | none => rw [e] at h; cases h
    | some m =>
      rw [e] at h
      have h2 := unqL_len ((l.drop 1).take m)
      cases h
      rw [List.length_take, List.length_drop] at h2
      omega
  next =>
    split at h
    · cases h
    · cases h; rw [List.length_take]; omega
/-- May a field end ahead of these bytes? -/
def endsF (r : List UInt8) : Bool := r.isEmpty || (r.head? == some 44 || [13, 10].isPrefixOf r)
/-- Without a line's end at the beginning. -/
def cutE (r : List UInt8) : List UInt8 := if [13, 10].isPrefixOf r then r.drop 2 else r
/-- The field at the beginning, and what stands behind it; or what is wrong. -/
def fieldR (l : List UInt8) : Except Nat (List UInt8 × List UInt8) :=
  match fieldF l with
  | none => .error 17
  | some (f, n) => if 4096 < f.length then .error 3 else if endsF (l.drop n) then .ok (f, l.drop n) else .error (if l.head? = some 34 then 17 else 15)
theorem fieldR_ok {l f r : List UInt8} (h : fieldR l = .ok (f, r)) : ∃ n, fieldF l = some (f, n) ∧ r = l.drop n ∧ f.length ≤ 4096 ∧ endsF r = true ∧ n ≤ l.length := by
  rw [fieldR] at h
  split at h
  · cases h
  · next f' n e =>
    split at h
    · cases h
    · split at h
      · next h1 h2 => cases h; exact ⟨n, e, rfl, by omega, h2, fieldF_le e⟩
      · cases h
theorem fieldR_err {l : List UInt8} {e : Nat} (h : fieldR l = .error e) : e = 17 ∨ e = 3 ∨ e = 15 := by
  rw [fieldR] at h
  split at h
  · cases h; exact .inl rfl
  · split at h
    · cases h; exact .inr (.inl rfl)
    · split at h
      · cases h
      · cases h
        split
        · exact .inl rfl
        · exact .inr (.inr rfl)
theorem fieldR_rest {l f r : List UInt8} (h : fieldR l = .ok (f, r)) : r.length ≤ l.length := by
  obtain ⟨n, _, rfl, _⟩ := fieldR_ok h
  rw [List.length_drop]; omega
/-- The fields of a row, and what stands behind it; or what is wrong, and in which field. -/
def rowN : Nat → List UInt8 → Except (Nat × Nat) (List (List UInt8) × List UInt8)
  | 0, _ => .error (0, 0)
  | n + 1, l => match fieldR l with
    | .error e => .error (e, 1)
    | .ok (f, r) => if r.head? = some 44 then (match rowN n (r.drop 1) with | .error (e, c) => .error (e, c + 1) | .ok (fs, r') => .ok (f :: fs, r')) else .ok ([f], cutE r)
theorem rowN_eq : ∀ (n m : Nat) (l : List UInt8), l.length < n → l.length < m → rowN n l = rowN m l
  | 0, _, l, h, _ => by omega
  | _, 0, l, _, h => by omega
  | n + 1, m + 1, l, h1, h2 => by
    rw [rowN, rowN]
    cases e : fieldR l with
    | error x => rfl
    | ok x =>
      obtain ⟨f, r⟩ := x
      have hr := fieldR_rest e
      simp only
      by_cases h44 : r.head? = some 44
      · rw [if_pos h44, if_pos h44, rowN_eq n m (r.drop 1)]
        all_goals
          rw [List.length_drop]
          cases r with
          | nil => simp at h44
          | cons c r => simp at hr ⊢; omega
      · rw [if_neg h44, if_neg h44]
def rowR (l : List UInt8) : Except (Nat × Nat) (List (List UInt8) × List UInt8) := rowN (l.length + 1) l
theorem rowR_err {l : List UInt8} {e : Nat} (h : fieldR l = .error e) : rowR l = .error (e, 1) := by
  rw [rowR, rowN, h]
theorem rowR_end {l f r : List UInt8} (h : fieldR l = .ok (f, r)) (h44 : r.head? ≠ some 44) : rowR l = .ok ([f], cutE r) := by
  rw [rowR, rowN, h]
  simp only
  rw [if_neg h44]
theorem rowR_more {l f r : List UInt8} (h : fieldR l = .ok (f, r)) (h44 : r.head? = some 44) : rowR l = (match rowR (r.drop 1) with | .error (e, c) => .error (e, c + 1) | .ok (fs, r') => .ok (f :: fs, r')) := by
  have hr := fieldR_rest h
  rw [rowR, rowN, h]
  simp only
  rw [if_pos h44, rowR, rowN_eq l.length ((r.drop 1).length + 1) (r.drop 1)]
  · rw [List.length_drop]
    cases r with
    | nil => simp at h44
    | cons c r => simp at hr ⊢; omega
  · omega
/-- A row of which some fields are known. -/
def rowX (l0 : List UInt8) (fs : List (List UInt8)) (l : List UInt8) : Prop :=
  rowR l0 = (match rowR l with | .error (e, c) => .error (e, c + fs.length) | .ok (gs, r') => .ok (fs ++ gs, r'))
theorem rowX_refl (l : List UInt8) : rowX l [] l := by
  rw [rowX]
  cases rowR l with
  | error x => rfl
  | ok x => rfl
theorem rowX_more {l0 l f r : List UInt8} {fs : List (List UInt8)} (h : rowX l0 fs l) (k : fieldR l = .ok (f, r)) (h44 : r.head? = some 44) : rowX l0 (fs ++ [f]) (r.drop 1) := by
  rw [rowX] at h ⊢
  rw [h, rowR_more k h44]
  cases rowR (r.drop 1) with
  | error x => simp; omega
  | ok x => simp
theorem rowX_err {l0 l : List UInt8} {fs : List (List UInt8)} {e : Nat} (h : rowX l0 fs l) (k : fieldR l = .error e) : rowR l0 = .error (e, fs.length + 1) := by
  rw [rowX] at h
  rw [h, rowR_err k]
  simp only
  rw [Nat.add_comm]
theorem rowX_end {l0 l f r : List UInt8} {fs : List (List UInt8)} (h : rowX l0 fs l) (k : fieldR l = .ok (f, r)) (h44 : r.head? ≠ some 44) : rowR l0 = .ok (fs ++ [f], cutE r) := by
  rw [rowX] at h
  rw [h, rowR_end k h44]
theorem cutE_len (r : List UInt8) : (cutE r).length ≤ r.length := by
  rw [cutE]
  split
  · rw [List.length_drop]; omega
  · exact Nat.le_refl _
theorem pre2 {a b : UInt8} {r : List UInt8} (h : [a, b].isPrefixOf r = true) : ∃ x, r = a :: b :: x := by
  cases r with
  | nil => simp [List.isPrefixOf] at h
  | cons c r =>
    cases r with
    | nil => simp [List.isPrefixOf] at h
    | cons d r =>
      simp [List.isPrefixOf] at h
      exact ⟨r, by rw [h.1, h.2]⟩
/-- A row takes bytes, fields are as many as its bytes at most, and each one is short. -/
theorem rowN_facts : ∀ (n : Nat) (l : List UInt8) (fs : List (List UInt8)) (r : List UInt8), rowN n l = .ok (fs, r) → (l ≠ [] → r.length < l.length) ∧ fs.length + r.length ≤ l.length + 1 ∧ (∀ f ∈ fs, f.length ≤ 4096) ∧ fs ≠ [] ∧ ∃ k, r = l.drop k
  | 0, l, fs, r, h => by cases h
  | n + 1, l, fs, r, h => by
    rw [rowN] at h
    cases e : fieldR l with
    | error x => rw [e] at h; cases h
    | ok x =>
      obtain ⟨f, r1⟩ := x
      rw [e] at h
      simp only at h
      obtain ⟨k, hf, hr1, hlen, hends, hk⟩ := fieldR_ok e
      have hr1l : r1.length = l.length - k := by rw [hr1, List.length_drop]
      by_cases h44 : r1.head? = some 44
      · rw [if_pos h44] at h
        cases r1 with
        | nil => simp at h44
        | cons c r2 =>
          rw [List.drop_one, List.tail_cons] at h
          cases e2 : rowN n r2 with
          | error x => rw [e2] at h; cases h
          | ok x =>
            obtain ⟨gs, r'⟩ := x
            rw [e2] at h
            cases h
            obtain ⟨h1, h2, h3, h4, j, hj⟩ := rowN_facts n r2 gs r e2
            simp at hr1l
            have hrr : r.length ≤ r2.length := by rw [hj, List.length_drop]; omega
            refine ⟨fun _ => by omega, by simp; omega, ?_, by simp, k + 1 + j, ?_⟩
            · intro g hg
              rcases List.mem_cons.1 hg with e | e
              · rw [e]; exact hlen
              · exact h3 g e
            · have : r2 = l.drop (k + 1) := by
                rw [← List.drop_drop, ← hr1]; simp
              rw [hj, this, List.drop_drop]
      · rw [if_neg h44] at h
        cases h
        have hcl := cutE_len r1
        refine ⟨fun hl => ?_, by simp; omega, by simpa using hlen, by simp, ?_⟩
        · by_cases hk0 : k = 0
          · subst hk0
            simp at hr1
            subst hr1
            have : [13, 10].isPrefixOf r1 = true := by
              rw [endsF] at hends
              cases r1 with
              | nil => exact absurd rfl hl
              | cons c r2 =>
                simp only [List.isEmpty_cons, Bool.false_or, Bool.or_eq_true, beq_iff_eq] at hends
                exact hends.resolve_left h44
            obtain ⟨x, rfl⟩ := pre2 this
            simp [cutE]
            omega
          · have : l.length ≠ 0 := fun e => hl (List.length_eq_zero_iff.1 e)
            omega
        · rw [cutE]
          split
          · exact ⟨k + 2, by rw [hr1, List.drop_drop]⟩
          · exact ⟨k, hr1⟩
theorem rowR_facts {l : List UInt8} {fs : List (List UInt8)} {r : List UInt8} (h : rowR l = .ok (fs, r)) : (l ≠ [] → r.length < l.length) ∧ fs.length + r.length ≤ l.length + 1 ∧ (∀ f ∈ fs, f.length ≤ 4096) ∧ fs ≠ [] ∧ ∃ k, r = l.drop k := rowN_facts _ l fs r h
theorem rowN_err : ∀ (n : Nat) (l : List UInt8) (e c : Nat), l.length < n → rowN n l = .error (e, c) → (e = 17 ∨ e = 3 ∨ e = 15) ∧ 1 ≤ c ∧ c ≤ l.length + 1
  | 0, l, e, c, hn, _ => by omega
  | n + 1, l, e, c, hn, h => by
    rw [rowN] at h
    cases k : fieldR l with
    | error x =>
      rw [k] at h
      cases h
      exact ⟨fieldR_err k, Nat.le_refl _, by omega⟩
    | ok x =>
      obtain ⟨f, r1⟩ := x
      rw [k] at h
      simp only at h
      have hr := fieldR_rest k
      by_cases h44 : r1.head? = some 44
      · rw [if_pos h44] at h
        cases r1 with
        | nil => simp at h44
        | cons c1 r2 =>
          rw [List.drop_one, List.tail_cons] at h
          simp at hr
          cases e2 : rowN n r2 with
          | ok x => rw [e2] at h; cases h
          | error x =>
            obtain ⟨e', c'⟩ := x
            rw [e2] at h
            have := rowN_err n r2 e' c' (by omega) e2
            cases h
            exact ⟨this.1, by omega, by omega⟩
      · rw [if_neg h44] at h
        cases h
theorem rowR_errs {l : List UInt8} {e c : Nat} (h : rowR l = .error (e, c)) : (e = 17 ∨ e = 3 ∨ e = 15) ∧ 1 ≤ c ∧ c ≤ l.length + 1 := rowN_err _ l e c (Nat.lt_succ_self _) h

/-- All rows; and what is wrong (0: nothing), in which row, in which field. -/
def allN : Nat → List UInt8 → List (List (List UInt8)) × Nat × Nat × Nat
  | 0, _ => ([], 0, 0, 0)
  | n + 1, l => if l = [] then ([], 0, 0, 0) else match rowR l with
    | .error (e, c) => ([], e, 1, c)
    | .ok (fs, r) => (fs :: (allN n r).1, (allN n r).2.1, if (allN n r).2.1 = 0 then 0 else (allN n r).2.2.1 + 1, (allN n r).2.2.2)
theorem allN_eq : ∀ (n m : Nat) (l : List UInt8), l.length < n → l.length < m → allN n l = allN m l
  | 0, _, l, h, _ => by omega
  | _, 0, l, _, h => by omega
  | n + 1, m + 1, l, h1, h2 => by
    rw [allN, allN]
    by_cases hl : l = []
    · rw [if_pos hl, if_pos hl]
    · rw [if_neg hl, if_neg hl]
      cases e : rowR l with
      | error x => rfl
      | ok x =>
        obtain ⟨fs, r⟩ := x
        have := (rowR_facts e).1 hl
        simp only
        rw [allN_eq n m r (by omega) (by omega)]
def allR (l : List UInt8) : List (List (List UInt8)) × Nat × Nat × Nat := allN (l.length + 1) l
theorem allR_nil : allR [] = ([], 0, 0, 0) := rfl
theorem allR_err {l : List UInt8} {e c : Nat} (hl : l ≠ []) (h : rowR l = .error (e, c)) : allR l = ([], e, 1, c) := by
  rw [allR, allN, if_neg hl, h]
theorem allR_ok {l r : List UInt8} {fs : List (List UInt8)} (hl : l ≠ []) (h : rowR l = .ok (fs, r)) : allR l = (fs :: (allR r).1, (allR r).2.1, if (allR r).2.1 = 0 then 0 else (allR r).2.2.1 + 1, (allR r).2.2.2) := by
  have := (rowR_facts h).1 hl
  rw [allR, allN, if_neg hl, h]
  simp only
  rw [allN_eq l.length (r.length + 1) r (by omega) (by omega)]
  rfl
/-- All rows of a text of which some are known. -/
def allX (l0 : List UInt8) (R : List (List (List UInt8))) (l : List UInt8) : Prop :=
  allR l0 = (R ++ (allR l).1, (allR l).2.1, if (allR l).2.1 = 0 then 0 else (allR l).2.2.1 + R.length, (allR l).2.2.2)
theorem allN_zero : ∀ (n : Nat) (l : List UInt8), (allN n l).2.1 = 0 → (allN n l).2.2.1 = 0 ∧ (allN n l).2.2.2 = 0
  | 0, l, h => ⟨rfl, rfl⟩
  | n + 1, l, h => by
    rw [allN] at h ⊢
    by_cases hl : l = []
    · rw [if_pos hl]; exact ⟨rfl, rfl⟩
    · rw [if_neg hl] at h ⊢
      cases e : rowR l with
      | error x =>
        obtain ⟨e', c⟩ := x
        rw [e] at h
        simp only at h
        have := (rowR_errs e).1
        omega
      | ok x =>
        obtain ⟨fs, r⟩ := x
        rw [e] at h
        simp only at h ⊢
        rw [if_pos h]
        exact ⟨rfl, (allN_zero n r h).2⟩
theorem allX_refl (l : List UInt8) : allX l [] l := by
  rw [allX]
  by_cases h : (allR l).2.1 = 0
  · rw [if_pos h]
    have := allN_zero _ l h
    refine Prod.ext rfl (Prod.ext rfl (Prod.ext this.1 rfl))
  · rw [if_neg h]; rfl
theorem allX_more {l0 l r : List UInt8} {R : List (List (List UInt8))} {fs : List (List UInt8)} (h : allX l0 R l) (hl : l ≠ []) (k : rowR l = .ok (fs, r)) : allX l0 (R ++ [fs]) r := by
  rw [allX] at h ⊢
  rw [h, allR_ok hl k]
  by_cases h0 : (allR r).2.1 = 0
  · simp [h0]
  · simp [h0]; omega
theorem allX_end {l0 : List UInt8} {R : List (List (List UInt8))} (h : allX l0 R []) : allR l0 = (R, 0, 0, 0) := by
  rw [allX, allR_nil] at h
  simpa using h
theorem allX_err {l0 l : List UInt8} {R : List (List (List UInt8))} {e c : Nat} (h : allX l0 R l) (hl : l ≠ []) (k : rowR l = .error (e, c)) : allR l0 = (R, e, R.length + 1, c) := by
  have := (rowR_errs k).1
  rw [allX, allR_err hl k] at h
  rw [h]
  simp only [List.append_nil]
  rw [if_neg (by omega), Nat.add_comm]
end Go.Proofs.YtmjchmamkjbgkaaGreatDoor
