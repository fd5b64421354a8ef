/- What a text is made of: blanks, tokens, places; what is joined of tokens. No program. -/
import Derived.Test.YtbojhcfofgdoeaaDoorQuoteMath
import Derived.Test.YtbojhcfofgdoeaaDoorScMath
namespace Go.Proofs.YtbojhcfofgdoeaaDoor
set_option linter.unusedVariables false

/-- A token: its kind, its text, its place. -/
structure Tk where
  k : Nat
  t : List UInt8
  line : Nat
  col : Nat
instance : Inhabited Tk := ⟨⟨0, [], 0, 0⟩⟩
def blankB (c : UInt8) : Bool := c == 32 || (c == 10 || (c == 13 || c == 9))
/-- How many bytes at the beginning are blanks and remarks (true: inside a remark). -/
def blankN : List UInt8 → Bool → Nat
  | [], _ => 0
  | c :: r, true => if c = 10 then blankN r false + 1 else blankN r true + 1
  | c :: r, false => if c = 35 then blankN r true + 1 else if blankB c then blankN r false + 1 else 0
theorem blank_le : ∀ (l : List UInt8) (b : Bool), blankN l b ≤ l.length
  | [], _ => by simp [blankN]
  | c :: r, true => by
    have h1 := blank_le r true
    have h2 := blank_le r false
    rw [blankN, List.length_cons]
    split <;> omega
  | c :: r, false => by
    have h1 := blank_le r true
    have h2 := blank_le r false
    rw [blankN, List.length_cons]
    split
    · omega
    · split <;> omega
/-- The place behind bytes. -/
def adv : List UInt8 → Nat × Nat → Nat × Nat
  | [], p => p
  | c :: r, p => adv r (if c = 10 then (p.1 + 1, 1) else (p.1, p.2 + 1))
theorem adv_append : ∀ (l m : List UInt8) (p : Nat × Nat), adv (l ++ m) p = adv m (adv l p)
  | [], m, p => rfl
  | c :: r, m, p => by rw [List.cons_append, adv, adv, adv_append r m]
/-- How many bytes the sign takes with which a text begins; 0: none. -/
def signN : List UInt8 → Nat
  | [] => 0
  | c :: r => if (c = 61 ∨ c = 33 ∨ c = 60 ∨ c = 62) ∧ r.head? = some 61 then 2 else if c = 60 ∨ c = 62 ∨ c = 61 ∨ c = 40 ∨ c = 41 ∨ c = 44 ∨ c = 58 ∨ c = 43 ∨ c = 45 ∨ c = 42 ∨ c = 47 ∨ c = 37 then 1 else 0
theorem sign_le : ∀ l, signN l ≤ l.length
  | [] => by simp [signN]
  | [c] => by
    rw [signN]
    split
    · rename_i h; simp at h
    · split <;> simp
  | c :: d :: r => by
    rw [signN]
    split
    · simp
    · split <;> simp
/-- The bytes of a name, a word or a number at the beginning. -/
def runL (l : List UInt8) : List UInt8 := l.takeWhile nameC
open Classical in
/-- The text whose quoted form a text begins with. -/
noncomputable def cutL (l : List UInt8) : Option (List UInt8) := if h : ∃ t y, l = quoteL t ++ y then some h.choose else none
theorem body_one : ∀ (t t' y y' : List UInt8), body t ++ 34 :: y = body t' ++ 34 :: y' → t = t'
  | [], [], _, _, _ => rfl
  | [], c :: t', y, y', h => (one_not34 (c := c) (x := body t' ++ 34 :: y') (y := y) (by rw [body_cons, List.append_assoc] at h; exact (by simpa [body] using h.symm))).elim
  | c :: t, [], y, y', h => (one_not34 (c := c) (x := body t ++ 34 :: y) (y := y') (by rw [body_cons, List.append_assoc] at h; exact (by simpa [body] using h))).elim
  | c :: t, c' :: t', y, y', h => by
    rw [body_cons, body_cons, List.append_assoc, List.append_assoc] at h
    obtain ⟨rfl, h2⟩ := one_inj h
    rw [body_one t t' y y' h2]
theorem quote_one {t t' y y' : List UInt8} (h : quoteL t ++ y = quoteL t' ++ y') : t = t' := by
  refine body_one t t' y y' ?_
  simpa [quoteL] using h
theorem cut_yes (t y : List UInt8) : cutL (quoteL t ++ y) = some t := by
  have h : ∃ t' y', quoteL t ++ y = quoteL t' ++ y' := ⟨t, y, rfl⟩
  rw [cutL, dif_pos h]
  obtain ⟨y', hy⟩ := h.choose_spec
  rw [← quote_one hy]
theorem cut_no {l : List UInt8} (h : ∀ t y, l ≠ quoteL t ++ y) : cutL l = none := by
  rw [cutL, dif_neg (by rintro ⟨t, y, e⟩; exact h t y e)]
theorem cut_some {l t : List UInt8} (h : cutL l = some t) : ∃ y, l = quoteL t ++ y := by
  rw [cutL] at h
  split at h
  · rename_i h1
    cases h
    exact h1.choose_spec
  · cases h
/-- The token that letters, digits and _ make. -/
def wordT (x : List UInt8) : Except Nat (Nat × List UInt8 × Nat) :=
  if x.head?.any digitB = true then
    if x.all digitB = false then .error 4
    else if 1 < x.length ∧ x.head? = some 48 then .error 4
    else if 32 < x.length then .error 3
    else .ok (3, x, x.length)
  else if 32 < x.length then .error 3
  else if (nameB ⟨x.toArray⟩ || x == [95]) = true then .ok (1, x, x.length)
  else .ok (2, x, x.length)
/-- The token with which a text begins (no blanks): kind, text, how many bytes; or what is wrong. -/
noncomputable def firstT (l : List UInt8) : Except Nat (Nat × List UInt8 × Nat) :=
  if l.head? = some 34 then
    match cutL l with
    | none => .error 17
    | some t => if 4096 < t.length then .error 3 else .ok (4, t, (quoteL t).length)
  else if runL l = [] then (if signN l = 0 then .error 15 else .ok (5, l.take (signN l), signN l))
  else wordT (runL l)
theorem word_ok {x t : List UInt8} {k n : Nat} (h : wordT x = .ok (k, t, n)) : t = x ∧ n = x.length ∧ 1 ≤ k ∧ k ≤ 3 := by
  unfold wordT at h
  repeat' split at h
  all_goals first | (cases h; exact ⟨rfl, rfl, by omega, by omega⟩) | cases h
/-- A token as it stands in a text. -/
def tkL (k : Nat) (t : List UInt8) : List UInt8 := if k = 4 then quoteL t else t
/-- What stands at the beginning of a text, alone or ahead of a blank, is the token. -/
def endsT (r : List UInt8) : Prop := r = [] ∨ r.head? = some 32
theorem run_ends {x r : List UInt8} (hx : x.all nameC = true) (h : endsT r) : runL (x ++ r) = x := by
  unfold runL
  rw [List.takeWhile_append_of_pos (fun c hc => List.all_eq_true.1 hx c hc)]
  rcases h with rfl | h
  · simp
  · cases r with
    | nil => cases h
    | cons c r =>
      simp at h
      subst h
      rw [List.takeWhile_cons_of_neg (by decide), List.append_nil]
theorem run_all (l : List UInt8) : (runL l).all nameC = true := List.all_takeWhile
theorem run_pre (l : List UInt8) : ∃ y, l = runL l ++ y := ⟨l.dropWhile nameC, (List.takeWhile_append_dropWhile).symm⟩
theorem run_head {l : List UInt8} {c : UInt8} {x : List UInt8} (h : runL l = c :: x) : l.head? = some c := by
  obtain ⟨y, hy⟩ := run_pre l
  rw [h] at hy
  rw [hy]; rfl
theorem name_34 : nameC 34 = false := by decide
theorem one_no10 : ∀ c, (one c).all (fun d => d != 10) = true := all8 (by decide +kernel)
theorem name_no : ∀ c, nameC c = true → c ≠ 10 ∧ c ≠ 34 ∧ c ≠ 35 ∧ blankB c = false := all8 (by decide +kernel)
theorem body_no10 : ∀ (t : List UInt8), ∀ c ∈ body t, c ≠ 10
  | [], c, hc => by simp [body] at hc
  | d :: t, c, hc => by
    rw [body_cons, List.mem_append] at hc
    rcases hc with h | h
    · have := List.all_eq_true.1 (one_no10 d) c h
      simpa using this
    · exact body_no10 t c h
theorem quote_no10 (t : List UInt8) : ∀ c ∈ quoteL t, c ≠ 10 := by
  intro c hc
  unfold quoteL at hc
  rw [List.mem_cons, List.mem_append, List.mem_singleton] at hc
  rcases hc with rfl | h | rfl
  · decide
  · exact body_no10 t c h
  · decide
/-- What the first token is, tells what stands there, and that it is the same wherever it stands so. -/
structure Told (l : List UInt8) (k : Nat) (t : List UInt8) (n : Nat) : Prop where
  pos : 1 ≤ n
  len : n = (tkL k t).length
  pre : ∃ y, l = tkL k t ++ y
  no10 : ∀ c ∈ tkL k t, c ≠ 10
  same : ∀ r, endsT r → firstT (tkL k t ++ r) = .ok (k, t, n)
  blank : ∀ r, blankN (tkL k t ++ r) false = 0
  kind : 1 ≤ k ∧ k ≤ 5
theorem sign_two {c : UInt8} {r : List UInt8} (h : signN (c :: r) = 2) : (c = 61 ∨ c = 33 ∨ c = 60 ∨ c = 62) ∧ ∃ y, r = 61 :: y := by
  rw [signN] at h
  split at h
  · rename_i h1
    refine ⟨h1.1, ?_⟩
    cases r with
    | nil => simp at h1
    | cons d r => simp at h1; exact ⟨r, by rw [h1.2]⟩
  · split at h <;> cases h
theorem sign_cases (l : List UInt8) : signN l = 0 ∨ signN l = 1 ∨ signN l = 2 := by
  cases l with
  | nil => exact .inl rfl
  | cons c r =>
    rw [signN]
    split
    · exact .inr (.inr rfl)
    · split
      · exact .inr (.inl rfl)
      · exact .inl rfl
theorem sign_one {c : UInt8} {r : List UInt8} (h : signN (c :: r) = 1) : c = 60 ∨ c = 62 ∨ c = 61 ∨ c = 40 ∨ c = 41 ∨ c = 44 ∨ c = 58 ∨ c = 43 ∨ c = 45 ∨ c = 42 ∨ c = 47 ∨ c = 37 := by
  rw [signN] at h
  split at h
  · cases h
  · split at h
    · rename_i h1; exact h1
    · cases h
theorem ends_61 {r : List UInt8} (h : endsT r) : r.head? ≠ some 61 := by
  rcases h with rfl | h
  · simp
  · rw [h]; decide
theorem first_run {l : List UInt8} (h : (runL l).isEmpty = false) : firstT l = wordT (runL l) := by
  have h0 : runL l ≠ [] := by intro e; rw [e] at h; cases h
  rw [firstT, if_neg, if_neg h0]
  intro e
  cases hr : runL l with
  | nil => exact h0 hr
  | cons c x =>
    have h1 := run_head hr
    rw [h1] at e
    have h2 := List.all_eq_true.1 (run_all l) c (by rw [hr]; simp)
    exact (name_no c h2).2.1 (by simpa using e)
theorem told_first {l : List UInt8} {k n : Nat} {t : List UInt8} (h : firstT l = .ok (k, t, n)) : Told l k t n := by
  by_cases h34 : l.head? = some 34
  · rw [firstT, if_pos h34] at h
    split at h
    · cases h
    · rename_i t' hc
      split at h
      · cases h
      · rename_i hl
        cases h
        obtain ⟨y, hy⟩ := cut_some hc
        have e4 : tkL 4 t = quoteL t := rfl
        refine ⟨by rw [quote_len]; omega, rfl, ⟨y, hy⟩, quote_no10 t, fun r hr => ?_, fun r => ?_, by omega⟩
        · rw [e4, firstT, if_pos (by rfl), cut_yes]
          simp only
          rw [if_neg hl]
        · rw [e4]; rfl
  · by_cases hr : runL l = []
    · rw [firstT, if_neg h34, if_pos hr] at h
      split at h
      · cases h
      · rename_i hs
        cases h
        cases l with
        | nil => exact absurd rfl hs
        | cons c r =>
          rcases sign_cases (c :: r) with h0 | h1 | h2
          · exact absurd h0 hs
          · have hc := sign_one h1
            rw [h1]
            have e5 : tkL 5 ((c :: r).take 1) = [c] := rfl
            refine ⟨by omega, rfl, ⟨r, rfl⟩, ?_, fun x hx => ?_, fun x => ?_, by omega⟩
            · rw [e5]; intro d hd; rw [List.mem_singleton] at hd; subst hd
              rcases hc with rfl | rfl | rfl | rfl | rfl | rfl | rfl | rfl | rfl | rfl | rfl | rfl <;> decide
            · have h61 := ends_61 hx
              rw [e5]
              show firstT (c :: x) = _
              have hs1 : signN (c :: x) = 1 := by
                rw [signN, if_neg (fun hh => h61 hh.2), if_pos hc]
              rw [firstT, if_neg, if_pos, if_neg (by rw [hs1]; decide), hs1]
              · rfl
              · rcases hc with rfl | rfl | rfl | rfl | rfl | rfl | rfl | rfl | rfl | rfl | rfl | rfl <;> rfl
              · rcases hc with rfl | rfl | rfl | rfl | rfl | rfl | rfl | rfl | rfl | rfl | rfl | rfl <;> simp
            · rw [e5]
              rcases hc with rfl | rfl | rfl | rfl | rfl | rfl | rfl | rfl | rfl | rfl | rfl | rfl <;> rfl
          · obtain ⟨hc, y, rfl⟩ := sign_two h2
            rw [h2]
            have e5 : tkL 5 ((c :: 61 :: y).take 2) = [c, 61] := rfl
            refine ⟨by omega, rfl, ⟨y, rfl⟩, ?_, fun x hx => ?_, fun x => ?_, by omega⟩
            · rw [e5]; intro d hd
              rcases hc with rfl | rfl | rfl | rfl <;> (simp at hd; rcases hd with rfl | rfl <;> decide)
            · rw [e5]
              show firstT (c :: 61 :: x) = _
              have hs1 : signN (c :: 61 :: x) = 2 := by rw [signN, if_pos ⟨hc, rfl⟩]
              rw [firstT, if_neg, if_pos, if_neg (by rw [hs1]; decide), hs1]
              · rfl
              · rcases hc with rfl | rfl | rfl | rfl <;> rfl
              · rcases hc with rfl | rfl | rfl | rfl <;> simp
            · rw [e5]
              rcases hc with rfl | rfl | rfl | rfl <;> rfl
    · have hne : (runL l).isEmpty = false := by cases e : runL l with | nil => exact absurd e hr | cons c x => rfl
      rw [first_run hne] at h
      obtain ⟨rfl, rfl, hk⟩ := word_ok h
      have hall := run_all l
      obtain ⟨y, hy⟩ := run_pre l
      have e : tkL k (runL l) = runL l := by rw [tkL, if_neg (by omega)]
      obtain ⟨x, hx⟩ : ∃ x, x = runL l := ⟨_, rfl⟩
      rw [← hx] at h hall hy e hne ⊢
      obtain ⟨c, z, hz⟩ : ∃ c z, x = c :: z := by cases x with | nil => cases hne | cons c z => exact ⟨c, z, rfl⟩
      have hc := name_no c (List.all_eq_true.1 hall c (by rw [hz]; simp))
      refine ⟨by rw [hz]; simp, by rw [e], ⟨y, by rw [e]; exact hy⟩, ?_, fun r hr => ?_, fun r => ?_, by omega⟩
      · rw [e]; intro d hd; exact (name_no d (List.all_eq_true.1 hall d hd)).1
      · rw [e]
        have hrr := run_ends hall hr
        rw [first_run (by rw [hrr]; exact hne), hrr]
        exact h
      · rw [e, hz, List.cons_append, blankN, if_neg hc.2.2.1, if_neg (by rw [hc.2.2.2]; decide)]

/-- The next token, what is left, and the place behind it; nothing, if there is none any more; or what is wrong, and where. -/
noncomputable def stepT (l : List UInt8) (p : Nat × Nat) : Except (Nat × Nat × Nat) (Option (Tk × List UInt8 × (Nat × Nat))) :=
  if l.drop (blankN l false) = [] then .ok none
  else match firstT (l.drop (blankN l false)) with
    | .error e => .error (e, adv (l.take (blankN l false)) p)
    | .ok z => .ok (some (⟨z.1, z.2.1, (adv (l.take (blankN l false)) p).1, (adv (l.take (blankN l false)) p).2⟩, (l.drop (blankN l false)).drop z.2.2, ((adv (l.take (blankN l false)) p).1, (adv (l.take (blankN l false)) p).2 + z.2.2)))
noncomputable def tokF : Nat → List UInt8 → Nat × Nat → Except (Nat × Nat × Nat) (List Tk)
  | 0, _, _ => .ok []
  | f + 1, l, p => match stepT l p with
    | .error e => .error e
    | .ok none => .ok []
    | .ok (some (x, r, q)) => match tokF f r q with
      | .error e => .error e
      | .ok T => .ok (x :: T)
/-- All tokens of a text that begins at a place. -/
noncomputable def tokT (l : List UInt8) (p : Nat × Nat) : Except (Nat × Nat × Nat) (List Tk) := tokF (l.length + 1) l p
/-- All tokens of a text, or what is wrong, and where. -/
noncomputable def tokL (l : List UInt8) : Except (Nat × Nat × Nat) (List Tk) := if 65536 < l.length then .error (3, 1, 1) else tokT l (1, 1)
theorem step_some {l r : List UInt8} {p q : Nat × Nat} {x : Tk} (h : stepT l p = .ok (some (x, r, q))) :
    ∃ n y, Told (l.drop (blankN l false)) x.k x.t n ∧ l.drop (blankN l false) = tkL x.k x.t ++ r ∧ q = (x.line, x.col + n) ∧ (x.line, x.col) = adv (l.take (blankN l false)) p ∧ y = n ∧ r.length + n ≤ l.length := by
  unfold stepT at h
  split at h
  · cases h
  · split at h
    · cases h
    · rename_i z hz
      obtain ⟨k, t, n⟩ := z
      have ht := told_first hz
      simp only [Except.ok.injEq, Option.some.injEq, Prod.mk.injEq] at h
      obtain ⟨rfl, rfl, rfl⟩ := h
      obtain ⟨y, hy⟩ := ht.pre
      have hd : (l.drop (blankN l false)).drop n = y := by rw [hy, ht.len, List.drop_left]
      refine ⟨n, n, ht, ?_, rfl, rfl, rfl, ?_⟩
      · rw [hd]; exact hy
      · rw [List.length_drop, List.length_drop]
        have h1 := congrArg List.length hy
        rw [List.length_append, List.length_drop, ← ht.len] at h1
        omega
theorem step_less {l r : List UInt8} {p q : Nat × Nat} {x : Tk} (h : stepT l p = .ok (some (x, r, q))) : r.length < l.length := by
  obtain ⟨n, _, ht, _, _, _, _, h1⟩ := step_some h
  have := ht.pos
  omega
theorem tok_fuel : ∀ (f g : Nat) (l : List UInt8) (p : Nat × Nat), l.length < f → l.length < g → tokF f l p = tokF g l p
  | 0, _, l, p, h, _ => by omega
  | _, 0, l, p, _, h => by omega
  | f + 1, g + 1, l, p, hf, hg => by
    rw [tokF, tokF]
    split
    · rfl
    · rfl
    · rename_i x r q hs
      have := step_less hs
      rw [tok_fuel f g r q (by omega) (by omega)]
theorem tok_end {l : List UInt8} {p : Nat × Nat} (h : stepT l p = .ok none) : tokT l p = .ok [] := by
  rw [tokT, tokF, h]
theorem tok_bad {l : List UInt8} {p : Nat × Nat} {e : Nat × Nat × Nat} (h : stepT l p = .error e) : tokT l p = .error e := by
  rw [tokT, tokF, h]
theorem tok_more {l r : List UInt8} {p q : Nat × Nat} {x : Tk} (h : stepT l p = .ok (some (x, r, q))) : tokT l p = match tokT r q with | .error e => .error e | .ok T => .ok (x :: T) := by
  have := step_less h
  rw [tokT, tokF, h]
  simp only
  rw [tok_fuel l.length (r.length + 1) r q this (by omega)]
  rfl
/-- What is gone through, and what is left. -/
def tokX (l0 : List UInt8) (M : List Tk) (l : List UInt8) (p : Nat × Nat) : Prop :=
  tokT l0 (1, 1) = match tokT l p with | .error e => .error e | .ok T => .ok (M ++ T)
theorem tokX_zero (l : List UInt8) : tokX l [] l (1, 1) := by
  unfold tokX
  split
  · assumption
  · rename_i h; rw [h]; rfl
theorem tokX_more {l0 l r : List UInt8} {M : List Tk} {p q : Nat × Nat} {x : Tk} (h : tokX l0 M l p) (hs : stepT l p = .ok (some (x, r, q))) : tokX l0 (M ++ [x]) r q := by
  unfold tokX at h ⊢
  rw [h, tok_more hs]
  cases tokT r q with
  | error e => rfl
  | ok T => simp
theorem tokX_end {l0 l : List UInt8} {M : List Tk} {p : Nat × Nat} (h : tokX l0 M l p) (hs : stepT l p = .ok none) : tokT l0 (1, 1) = .ok M := by
  unfold tokX at h
  rw [h, tok_end hs]; simp
theorem tokX_bad {l0 l : List UInt8} {M : List Tk} {p : Nat × Nat} {e : Nat × Nat × Nat} (h : tokX l0 M l p) (hs : stepT l p = .error e) : tokT l0 (1, 1) = .error e := by
  unfold tokX at h
  rw [h, tok_bad hs]
theorem blank_32 (l : List UInt8) : blankN (32 :: l) false = blankN l false + 1 := by
  rw [blankN, if_neg (by decide), if_pos (by decide)]
theorem adv_32 (m : List UInt8) (p : Nat × Nat) : adv (32 :: m) p = adv m (p.1, p.2 + 1) := by
  rw [adv, if_neg (by decide)]
theorem step_none (p : Nat × Nat) : stepT [] p = .ok none := by
  unfold stepT
  rw [if_pos (show List.drop (blankN [] false) [] = ([] : List UInt8) from rfl)]
theorem step_32 (l : List UInt8) (p : Nat × Nat) : stepT (32 :: l) p = stepT l (p.1, p.2 + 1) := by
  unfold stepT
  rw [blank_32, List.drop_succ_cons, List.take_succ_cons, adv_32]
theorem tok_32 (l : List UInt8) (p : Nat × Nat) : tokT (32 :: l) p = tokT l (p.1, p.2 + 1) := by
  cases hs : stepT l (p.1, p.2 + 1) with
  | error e => rw [tok_bad hs, tok_bad ((step_32 l p).trans hs)]
  | ok o =>
    cases o with
    | none => rw [tok_end hs, tok_end ((step_32 l p).trans hs)]
    | some z => obtain ⟨x, r, q⟩ := z; rw [tok_more hs, tok_more ((step_32 l p).trans hs)]
/-- A token that is ahead of a blank, or of the end. -/
theorem step_tk {l : List UInt8} {k n : Nat} {t : List UInt8} (h : Told l k t n) (r : List UInt8) (hr : endsT r) (p : Nat × Nat) : stepT (tkL k t ++ r) p = .ok (some (⟨k, t, p.1, p.2⟩, r, (p.1, p.2 + n))) := by
  have h0 : tkL k t ++ r ≠ [] := by
    intro e
    have h1 := h.pos
    have h2 := h.len
    rw [(List.append_eq_nil_iff.1 e).1] at h2
    simp at h2; omega
  unfold stepT
  rw [h.blank r, List.drop_zero, if_neg h0, h.same r hr, List.take_zero]
  simp only [adv]
  rw [h.len, List.drop_left]
/-- What is joined of tokens. -/
def joinT : List Tk → List UInt8
  | [] => []
  | [x] => tkL x.k x.t
  | x :: y :: T => tkL x.k x.t ++ 32 :: joinT (y :: T)
/-- A token that stands in a text. -/
def isTk (x : Tk) : Prop := ∃ l n, Told l x.k x.t n
theorem tok_tks : ∀ (f : Nat) (l : List UInt8) (p : Nat × Nat) (T : List Tk), tokF f l p = .ok T → (∀ x ∈ T, isTk x) ∧ (joinT T).length + 1 ≤ 2 * l.length + 1 ∧ T.length ≤ l.length
  | 0, l, p, T, h => by
    rw [tokF] at h; cases h
    exact ⟨fun x hx => by simp at hx, by simp [joinT], by simp⟩
  | f + 1, l, p, T, h => by
    rw [tokF] at h
    split at h
    · cases h
    · cases h; exact ⟨fun x hx => by simp at hx, by simp [joinT], by simp⟩
    · rename_i x r q hs
      split at h
      · cases h
      · rename_i T' hT
        cases h
        obtain ⟨n, _, ht, _, _, _, _, hn⟩ := step_some hs
        obtain ⟨h1, h2, h3⟩ := tok_tks f r q T' hT
        have hp := ht.pos
        refine ⟨fun y hy => ?_, ?_, by rw [List.length_cons]; omega⟩
        · rcases List.mem_cons.1 hy with rfl | hy
          · exact ⟨_, _, ht⟩
          · exact h1 y hy
        · cases T' with
          | nil => rw [joinT, ← ht.len]; omega
          | cons y T2 => rw [joinT, List.length_append, List.length_cons, ← ht.len]; omega
/-- What is joined of tokens has the same tokens, but for their places. -/
theorem join_back : ∀ (T : List Tk) (p : Nat × Nat), (∀ x ∈ T, isTk x) → ∃ M, tokT (joinT T) p = .ok M ∧ M.map (fun x => (x.k, x.t, x.line)) = T.map (fun x => (x.k, x.t, p.1))
  | [], p, _ => ⟨[], by rw [joinT, tok_end (step_none p)], rfl⟩
  | [x], p, h => by
    obtain ⟨l, n, ht⟩ := h x (by simp)
    have hs := step_tk ht [] (.inl rfl) p
    rw [List.append_nil] at hs
    refine ⟨[⟨x.k, x.t, p.1, p.2⟩], ?_, rfl⟩
    rw [joinT, tok_more hs, tok_end (step_none _)]
  | x :: y :: T, p, h => by
    obtain ⟨l, n, ht⟩ := h x (by simp)
    have hs := step_tk ht (32 :: joinT (y :: T)) (.inr rfl) p
    obtain ⟨M, hM, hm⟩ := join_back (y :: T) (p.1, p.2 + n + 1) (fun z hz => h z (List.mem_cons_of_mem _ hz))
    refine ⟨⟨x.k, x.t, p.1, p.2⟩ :: M, ?_, by rw [List.map_cons, hm, List.map_cons]; rfl⟩
    rw [joinT, tok_more hs, tok_32, hM]
theorem tokL_join {l : List UInt8} {T : List Tk} (h : tokL l = .ok T) (hl : l.length ≤ 32768) : ∃ M, tokL (joinT T) = .ok M ∧ M.map (fun x => (x.k, x.t, x.line)) = T.map (fun x => (x.k, x.t, 1)) := by
  rw [tokL, if_neg (by omega)] at h
  obtain ⟨h1, h2, _⟩ := tok_tks _ _ _ _ h
  obtain ⟨M, hM, hm⟩ := join_back T (1, 1) h1
  exact ⟨M, by rw [tokL, if_neg (by omega)]; exact hM, hm⟩
/-- Blanks, and a sign behind them. -/
def longL (n : Nat) : List UInt8 := List.replicate n 32 ++ [40]
theorem long_step : ∀ (n : Nat) (p : Nat × Nat), stepT (longL n) p = .ok (some (⟨5, [40], p.1, p.2 + n⟩, [], (p.1, p.2 + n + 1)))
  | 0, p => by
    have h : firstT [40] = .ok (5, [40], 1) := by
      rw [firstT, if_neg (by decide), if_pos (by decide), if_neg (by decide)]; rfl
    exact step_tk (told_first h) [] (.inl rfl) p
  | n + 1, p => by
    have h := long_step n (p.1, p.2 + 1)
    rw [show longL (n + 1) = 32 :: longL n from rfl, step_32, h]
    simp only [Except.ok.injEq, Option.some.injEq, Prod.mk.injEq, Tk.mk.injEq, true_and]
    omega
theorem long_len (n : Nat) : (longL n).length = n + 1 := by simp [longL]
theorem long_tok {n : Nat} (h : n < 65536) : tokL (longL n) = .ok [⟨5, [40], 1, n + 1⟩] := by
  rw [tokL, if_neg (by rw [long_len]; omega), tok_more (long_step n (1, 1)), tok_end (step_none _)]
  simp only [Except.ok.injEq, List.cons.injEq, Tk.mk.injEq, true_and, and_true]
  omega
theorem long_many {n : Nat} (h : 65536 ≤ n) : tokL (longL n) = .error (3, 1, 1) := by
  rw [tokL, if_pos (by rw [long_len]; omega)]
end Go.Proofs.YtbojhcfofgdoeaaDoor
