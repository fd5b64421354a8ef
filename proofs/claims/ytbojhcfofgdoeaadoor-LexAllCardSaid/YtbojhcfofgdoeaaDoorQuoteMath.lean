/- The plain mathematics of quoted forms: what each byte stands as, that no form begins another one, and what is cut. No program. -/
import Derived.WalkSpells
namespace Go.Proofs.YtbojhcfofgdoeaaDoor

/-- A digit of 16, as its byte. -/
def hx (n : Nat) : UInt8 := if n < 10 then UInt8.ofNat (48 + n) else UInt8.ofNat (87 + n)
/-- What a byte stands as between quotes. -/
def one (c : UInt8) : List UInt8 :=
  if c = 34 then [92, 34] else if c = 92 then [92, 92] else if c = 10 then [92, 110] else if c = 13 then [92, 114] else if c = 9 then [92, 116]
  else if c < 32 ∨ 126 < c then [92, 120, hx (c.toNat / 16), hx (c.toNat % 16)] else [c]
def body (l : List UInt8) : List UInt8 := l.flatMap one
/-- The quoted form. -/
def quoteL (l : List UInt8) : List UInt8 := 34 :: (body l ++ [34])
def plB (c : UInt8) : Bool := decide (32 ≤ c.toNat) && (decide (c.toNat ≤ 126) && (c != 34 && c != 92))
def ltB (c : UInt8) : Bool := c == 34 || (c == 92 || (c == 10 || (c == 13 || c == 9)))
def ltN (c : UInt8) : UInt8 := if c = 34 then 34 else if c = 92 then 92 else if c = 10 then 110 else if c = 13 then 114 else if c = 9 then 116 else 0
def chB (c : UInt8) : Bool := c == 34 || (c == 92 || (c == 110 || (c == 114 || c == 116)))
def chN (c : UInt8) : UInt8 := if c = 34 then 34 else if c = 92 then 92 else if c = 110 then 10 else if c = 114 then 13 else if c = 116 then 9 else 0
/-- The number of a digit of 16; 16, if the byte is none. -/
def ux (c : UInt8) : Nat := if 48 ≤ c.toNat ∧ c.toNat ≤ 57 then c.toNat - 48 else if 97 ≤ c.toNat ∧ c.toNat ≤ 102 then c.toNat - 87 else 16
def fdV (x y : UInt8) : UInt8 := UInt8.ofNat (16 * ux x + ux y)
def fdB (x y : UInt8) : Bool := decide (ux x < 16) && (decide (ux y < 16) && (!ltB (fdV x y) && !plB (fdV x y)))

theorem all8 {P : UInt8 → Prop} (h : ∀ n : Fin 256, P (UInt8.ofFin n)) (c : UInt8) : P c := by
  have := h c.toFin
  rwa [show UInt8.ofFin c.toFin = c from rfl] at this

theorem one_plain : ∀ c, plB c = true → one c = [c] := all8 (by decide +kernel)
theorem one_lt : ∀ c, ltB c = true → one c = [92, ltN c] := all8 (by decide +kernel)
theorem one_hex : ∀ c, plB c = false → ltB c = false → one c = [92, 120, hx (c.toNat / 16), hx (c.toNat % 16)] := all8 (by decide +kernel)
theorem plain_lt : ∀ c, plB c = true → ltB c = false := all8 (by decide +kernel)
theorem plain_92 : ∀ c, plB c = true → c ≠ 92 := all8 (by decide +kernel)
theorem plain_34 : ∀ c, plB c = true → c ≠ 34 := all8 (by decide +kernel)
theorem ch_lt : ∀ c, ltB c = true → chB (ltN c) = true ∧ chN (ltN c) = c ∧ ltN c ≠ 120 := all8 (by decide +kernel)
theorem one_ch : ∀ d, chB d = true → one (chN d) = [92, d] := all8 (by decide +kernel)
theorem ux_hx : ∀ c : UInt8, fdV (hx (c.toNat / 16)) (hx (c.toNat % 16)) = c ∧ ux (hx (c.toNat / 16)) < 16 ∧ ux (hx (c.toNat % 16)) < 16 := all8 (by decide +kernel)
theorem hx_ux : ∀ x, ux x < 16 → hx (ux x) = x := all8 (by decide +kernel)
theorem one_len : ∀ c, 1 ≤ (one c).length ∧ (one c).length ≤ 4 := all8 (by decide +kernel)
theorem one_len1 : ∀ c, plB c = false → 2 ≤ (one c).length := all8 (by decide +kernel)
theorem one_head : ∀ c, (one c).head? ≠ some 34 := all8 (by decide +kernel)
theorem ch_120 : chB 120 = false := by decide
theorem lt_no : ∀ c, ltB c = false → ltN c = 0 := all8 (by decide +kernel)
theorem ch_no : ∀ c, chB c = false → chN c = 0 := all8 (by decide +kernel)

/-- The byte as which a text begins, and in how many bytes it stands; 0 and 0, if there is none: the steps of the code. -/
def cc : List UInt8 → UInt8 × Nat
  | [] => (0, 0)
  | a :: r => if plB a = true then (a, 1) else if a ≠ 92 then (0, 0) else
    match r with
    | [] => (0, 0)
    | d :: r' => if chB d = true then (chN d, 2) else if d ≠ 120 then (0, 0) else
      match r' with
      | x :: y :: _ => if fdB x y = true then (fdV x y, 4) else (0, 0)
      | _ => (0, 0)

theorem fdB_hx (c : UInt8) (hp : plB c = false) (hl : ltB c = false) : fdB (hx (c.toNat / 16)) (hx (c.toNat % 16)) = true := by
  obtain ⟨h1, h2, h3⟩ := ux_hx c
  unfold fdB
  rw [h1, hp, hl]
  simp [h2, h3]

theorem one_fd (x y : UInt8) (h : fdB x y = true) : one (fdV x y) = [92, 120, x, y] := by
  unfold fdB at h
  simp only [Bool.and_eq_true, decide_eq_true_eq, Bool.not_eq_true'] at h
  obtain ⟨h1, h2, h3, h4⟩ := h
  rw [one_hex _ h4 h3]
  have e : (fdV x y).toNat = 16 * ux x + ux y := by
    unfold fdV
    rw [UInt8.toNat_ofNat']
    omega
  rw [e, show (16 * ux x + ux y) / 16 = ux x by omega, show (16 * ux x + ux y) % 16 = ux y by omega, hx_ux x h1, hx_ux y h2]

theorem cc_one (c : UInt8) (x : List UInt8) : cc (one c ++ x) = (c, (one c).length) := by
  by_cases hp : plB c = true
  · rw [one_plain c hp]
    simp [cc, hp]
  have hp' : plB c = false := by simpa using hp
  by_cases hl : ltB c = true
  · obtain ⟨h1, h2, h3⟩ := ch_lt c hl
    rw [one_lt c hl]
    have p92 : plB 92 = false := by decide
    simp [cc, p92, h1, h2]
  · have hl' : ltB c = false := by simpa using hl
    rw [one_hex c hp' hl']
    have p92 : plB 92 = false := by decide
    simp [cc, p92, ch_120, fdB_hx c hp' hl', (ux_hx c).1]

theorem cc_some (l : List UInt8) (h : (cc l).2 ≠ 0) : ∃ x, l = one (cc l).1 ++ x ∧ (one (cc l).1).length = (cc l).2 := by
  unfold cc at h ⊢
  split at h
  · simp at h
  · rename_i a r
    by_cases hp : plB a = true
    · simp only [if_pos hp]
      exact ⟨r, by rw [one_plain a hp]; rfl, by rw [one_plain a hp]; rfl⟩
    · simp only [if_neg hp] at h ⊢
      by_cases h92 : a ≠ 92
      · simp [if_pos h92] at h
      · simp only [if_neg h92] at h ⊢
        have h92' : a = 92 := by simpa using h92
        subst h92'
        split at h
        · simp at h
        · rename_i d r'
          by_cases hd : chB d = true
          · simp only [if_pos hd]
            exact ⟨r', by rw [one_ch d hd]; rfl, by rw [one_ch d hd]; rfl⟩
          · simp only [if_neg hd] at h ⊢
            by_cases h120 : d ≠ 120
            · simp [if_pos h120] at h
            · simp only [if_neg h120] at h ⊢
              have h120' : d = 120 := by simpa using h120
              subst h120'
              split at h
              · rename_i x y z
                by_cases hf : fdB x y = true
                · simp only [if_pos hf]
                  exact ⟨z, by rw [one_fd x y hf]; rfl, by rw [one_fd x y hf]; rfl⟩
                · simp [if_neg hf] at h
              · simp at h

theorem cc_zero (l : List UInt8) (h : (cc l).2 = 0) : (cc l).1 = 0 := by
  unfold cc at h ⊢
  split
  · rfl
  · rename_i a r
    by_cases hp : plB a = true
    · simp [if_pos hp] at h
    · simp only [if_neg hp] at h ⊢
      by_cases h92 : a ≠ 92
      · simp [if_pos h92]
      · simp only [if_neg h92] at h ⊢
        split
        · rfl
        · rename_i d r'
          by_cases hd : chB d = true
          · simp [if_pos hd] at h
          · simp only [if_neg hd] at h ⊢
            by_cases h120 : d ≠ 120
            · simp [if_pos h120]
            · simp only [if_neg h120] at h ⊢
              split
              · rename_i x y z
                by_cases hf : fdB x y = true
                · simp [if_pos hf] at h
                · simp [if_neg hf]
              · rfl

theorem cc_no (l : List UInt8) (h : ∀ c x, l ≠ one c ++ x) : cc l = (0, 0) := by
  by_cases h0 : (cc l).2 = 0
  · rw [Prod.ext_iff]
    exact ⟨cc_zero l h0, h0⟩
  · obtain ⟨x, hx, _⟩ := cc_some l h0
    exact absurd hx (h _ _)

theorem one_inj {c c' : UInt8} {x x' : List UInt8} (h : one c ++ x = one c' ++ x') : c = c' ∧ x = x' := by
  have h1 := cc_one c x
  rw [h, cc_one c' x'] at h1
  have e : c' = c := by simpa using (Prod.ext_iff.1 h1).1
  subst e
  exact ⟨rfl, List.append_cancel_left h⟩

theorem body_cons (c : UInt8) (l : List UInt8) : body (c :: l) = one c ++ body l := by simp [body]
theorem body_snoc (l : List UInt8) (c : UInt8) : body (l ++ [c]) = body l ++ one c := by simp [body]
theorem body_append (l m : List UInt8) : body (l ++ m) = body l ++ body m := by simp [body]

theorem one_not34 {c : UInt8} {x y : List UInt8} (h : one c ++ x = 34 :: y) : False := by
  have h1 := one_head c
  have h2 := (one_len c).1
  cases hc : one c with
  | nil => rw [hc] at h2; simp at h2
  | cons a r =>
    rw [hc] at h h1
    simp at h h1
    exact h1 h.1

/-- Where nothing can be read on and no quote stands, no quoted form stands at all. -/
theorem stuck : ∀ (t t' rest y : List UInt8), body t ++ rest = body t' ++ 34 :: y → (∀ z, rest ≠ 34 :: z) → (∀ c x, rest ≠ one c ++ x) → False
  | [], [], rest, y, h, h1, _ => h1 y (by simpa [body] using h)
  | [], c :: t', rest, y, h, _, h2 => h2 c (body t' ++ 34 :: y) (by rw [body_cons, List.append_assoc] at h; simpa [body] using h)
  | c :: t, [], rest, y, h, _, _ => one_not34 (c := c) (x := body t ++ rest) (y := y) (by rw [body_cons, List.append_assoc] at h; simpa [body] using h)
  | c :: t, c' :: t', rest, y, h, h1, h2 => by
    rw [body_cons, body_cons, List.append_assoc, List.append_assoc] at h
    exact stuck t t' rest y (one_inj h).2 h1 h2

theorem body_len (l : List UInt8) : l.length ≤ (body l).length ∧ (body l).length ≤ 4 * l.length := by
  induction l with
  | nil => simp [body]
  | cons c l ih =>
    rw [body_cons, List.length_append, List.length_cons]
    have := one_len c
    omega
theorem quote_len (l : List UInt8) : (quoteL l).length = (body l).length + 2 := by simp [quoteL]
theorem body_plain (l : List UInt8) (h : l.all plB = true) : body l = l := by
  induction l with
  | nil => rfl
  | cons c l ih =>
    rw [List.all_cons, Bool.and_eq_true] at h
    rw [body_cons, one_plain c h.1, ih h.2]; rfl
theorem body_longer (l : List UInt8) (h : l.all plB = false) : l.length < (body l).length := by
  induction l with
  | nil => simp at h
  | cons c l ih =>
    rw [List.all_cons, Bool.and_eq_false_iff] at h
    rw [body_cons, List.length_append, List.length_cons]
    rcases h with h | h
    · have := one_len1 c h
      have := (body_len l).1
      omega
    · have := (one_len c).1
      have := ih h
      omega
/-- A text stands as it is just if each of its bytes does. -/
theorem plain_iff (l : List UInt8) : (quoteL l == 34 :: (l ++ [34])) = l.all plB := by
  by_cases h : l.all plB = true
  · rw [h, quoteL, body_plain l h]; simp
  · have h' : l.all plB = false := by simpa using h
    rw [h', beq_eq_false_iff_ne]
    intro e
    have := congrArg List.length e
    simp [quoteL] at this
    have := body_longer l h'
    omega
theorem all_takeP (p : UInt8 → Bool) (l : List UInt8) (k : Nat) (h : k < l.length) : (l.take (k + 1)).all p = ((l.take k).all p && p l[k]) := by
  rw [List.take_succ_eq_append_getElem h, List.all_append, List.all_cons, List.all_nil, Bool.and_true]
theorem all_deadP (p : UInt8 → Bool) (l : List UInt8) (k : Nat) (h : k < l.length) (hd : p l[k] = false) : l.all p = false := by
  rw [List.all_eq_false]
  exact ⟨l[k], List.getElem_mem h, by simp [hd]⟩
end Go.Proofs.YtbojhcfofgdoeaaDoor
