/- Keys as plain lists of bytes: what they are, that each tells its value, and their order. -/
import Derived.Test.YtjohiehlnbgdaaaDoorValCells
namespace Go.Proofs.YtjohiehlnbgdaaaDoor
open Go.RowKit
set_option linter.unusedVariables false

/-- The last n bytes of a number, the highest first. -/
def numL : Nat → Nat → List UInt8
  | 0, _ => []
  | n + 1, u => UInt8.ofNat (u / 256 ^ n) :: numL n u
theorem numL_len : ∀ n u, (numL n u).length = n
  | 0, _ => rfl
  | n + 1, u => by rw [numL, List.length_cons, numL_len n u]
/-- The number of bytes, the highest first. -/
def numOf : List UInt8 → Nat
  | [] => 0
  | c :: l => c.toNat * 256 ^ l.length + numOf l
theorem numOf_lt : ∀ l, numOf l < 256 ^ l.length
  | [] => by simp [numOf]
  | c :: l => by
    have h := numOf_lt l
    have hc := c.toNat_lt
    rw [numOf, List.length_cons, Nat.pow_succ]
    have : (c.toNat + 1) * 256 ^ l.length ≤ 256 * 256 ^ l.length := Nat.mul_le_mul_right _ (by omega)
    rw [Nat.add_mul] at this
    omega
theorem numOf_snoc : ∀ (l : List UInt8) (c : UInt8), numOf (l ++ [c]) = numOf l * 256 + c.toNat
  | [], c => by simp [numOf]
  | d :: l, c => by
    rw [List.cons_append, numOf, numOf, numOf_snoc l c, List.length_append, List.length_singleton, Nat.pow_succ, Nat.add_mul, Nat.mul_assoc, Nat.add_assoc]
theorem numOf_numL : ∀ n u, numOf (numL n u) = u % 256 ^ n
  | 0, u => by simp [numL, numOf, Nat.mod_one]
  | n + 1, u => by
    rw [numL, numOf, numL_len, numOf_numL n u, Nat.pow_succ, Nat.mod_mul]
    simp only [UInt8.toNat_ofNat', Nat.reducePow]
    rw [Nat.mul_comm (256 ^ n), Nat.add_comm]
theorem numL_of : ∀ (l : List UInt8) (a : Nat), numL l.length (a * 256 ^ l.length + numOf l) = l
  | [], _ => rfl
  | c :: l, a => by
    have h := numOf_lt l
    have hp : 0 < 256 ^ l.length := Nat.pow_pos (by omega)
    have e : a * 256 ^ (l.length + 1) + (c.toNat * 256 ^ l.length + numOf l) = (a * 256 + c.toNat) * 256 ^ l.length + numOf l := by
      rw [Nat.pow_succ, Nat.add_mul, Nat.mul_assoc, Nat.mul_comm 256, Nat.add_assoc]
    rw [numOf, List.length_cons, e, numL, numL_of l]
    congr 1
    rw [Nat.add_comm, Nat.add_mul_div_right _ _ hp, Nat.div_eq_of_lt h, Nat.zero_add]
    apply UInt8.toNat_inj.1
    have := c.toNat_lt
    rw [UInt8.toNat_ofNat']
    omega
theorem numL_inj {n a b : Nat} (ha : a < 256 ^ n) (hb : b < 256 ^ n) (h : numL n a = numL n b) : a = b := by
  have := congrArg numOf h
  rwa [numOf_numL, numOf_numL, Nat.mod_eq_of_lt ha, Nat.mod_eq_of_lt hb] at this

/-- A text's bytes in its key. -/
def escL : List UInt8 → List UInt8
  | [] => []
  | c :: t => if c = 0 then 0 :: 255 :: escL t else c :: escL t
theorem escL_zero (t : List UInt8) : escL (0 :: t) = 0 :: 255 :: escL t := by rw [escL, if_pos rfl]
theorem escL_else {c : UInt8} (h : c ≠ 0) (t : List UInt8) : escL (c :: t) = c :: escL t := by rw [escL, if_neg h]
theorem escL_app : ∀ (s t : List UInt8), escL (s ++ t) = escL s ++ escL t
  | [], _ => rfl
  | c :: s, t => by
    rw [List.cons_append]
    by_cases h : c = 0
    · subst h; rw [escL_zero, escL_zero, escL_app s t]; rfl
    · rw [escL_else h, escL_else h, escL_app s t]; rfl
theorem escL_len : ∀ t : List UInt8, (escL t).length = t.length + t.count 0
  | [] => rfl
  | c :: t => by
    by_cases h : c = 0
    · subst h; rw [escL_zero]; simp [escL_len t]; omega
    · rw [escL_else h]; simp [escL_len t, h]; omega
theorem escL_le (t : List UInt8) : (escL t).length ≤ 2 * t.length := by
  rw [escL_len]; have := List.count_le_length (l := t) (a := (0 : UInt8)); omega
theorem escL_ge (t : List UInt8) : t.length ≤ (escL t).length := by rw [escL_len]; omega
theorem esc_pre : ∀ (t rest s x : List UInt8), escL t ++ rest = escL s ++ 0 :: 1 :: x → ∃ s', s = t ++ s' ∧ rest = escL s' ++ 0 :: 1 :: x
  | [], rest, s, x, h => ⟨s, rfl, h⟩
  | c :: t, rest, s, x, h => by
    by_cases hc : c = 0
    · subst hc
      rw [escL_zero] at h
      cases s with
      | nil => simp [escL] at h
      | cons d s =>
        by_cases hd : d = 0
        · subst hd
          rw [escL_zero] at h
          simp only [List.cons_append, List.cons.injEq, true_and] at h
          obtain ⟨s', e, r⟩ := esc_pre t rest s x h
          exact ⟨s', by rw [e]; rfl, r⟩
        · rw [escL_else hd] at h
          simp only [List.cons_append, List.cons.injEq] at h
          exact absurd h.1.symm hd
    · rw [escL_else hc] at h
      cases s with
      | nil =>
        simp only [escL, List.cons_append, List.nil_append, List.cons.injEq] at h
        exact absurd h.1 hc
      | cons d s =>
        by_cases hd : d = 0
        · subst hd
          rw [escL_zero] at h
          simp only [List.cons_append, List.cons.injEq] at h
          exact absurd h.1 hc
        · rw [escL_else hd] at h
          simp only [List.cons_append, List.cons.injEq] at h
          obtain ⟨s', e, r⟩ := esc_pre t rest s x h.2
          exact ⟨s', by rw [e, h.1]; rfl, r⟩

/-- Values that may be, and whose number fits. -/
def rightD (v : Vd) : Prop := rightB v.k v.i v.s v.b = true ∧ -9223372036854775808 ≤ v.i ∧ v.i ≤ 9223372036854775807
/-- A value's key. -/
def keyV (v : Vd) : List UInt8 :=
  if v.k = 3 then [3, if v.b = true then 1 else 0] else if v.k = 2 then 2 :: (escL v.s.toList ++ [0, 1]) else 1 :: numL 8 (v.i + 9223372036854775808).toNat
def keysL : List Vd → List UInt8
  | [] => []
  | v :: L => keyV v ++ keysL L
theorem keysL_app : ∀ A B, keysL (A ++ B) = keysL A ++ keysL B
  | [], _ => rfl
  | v :: A, B => by rw [List.cons_append, keysL, keysL, keysL_app A B, List.append_assoc]

theorem tl_ext {a b : ByteArray} (h : a.toList = b.toList) : a = b := by
  rw [ByteArray.toList_eq, ByteArray.toList_eq] at h
  cases a; cases b
  congr
  exact Array.toList_inj.1 h
theorem tl_nil {a : ByteArray} (h : a.toList = []) : a = ⟨#[]⟩ := tl_ext (by rw [h, none_list])
theorem tl_mk (t : List UInt8) : (⟨t.toArray⟩ : ByteArray).toList = t := by rw [ByteArray.toList_eq]

/-- The three kinds of values that may be. -/
theorem right_three {v : Vd} (h : rightD v) :
    (∃ u : Nat, u < 256 ^ 8 ∧ v = ⟨1, (u : Int) - 9223372036854775808, ⟨#[]⟩, false⟩ ∧ keyV v = 1 :: numL 8 u) ∨
    (∃ t : List UInt8, t.length ≤ 4096 ∧ v = ⟨2, 0, ⟨t.toArray⟩, false⟩ ∧ keyV v = 2 :: (escL t ++ [0, 1])) ∨
    (∃ b : Bool, v = ⟨3, 0, ⟨#[]⟩, b⟩ ∧ keyV v = [3, if b = true then 1 else 0]) := by
  obtain ⟨k, i, s, b⟩ := v
  obtain ⟨h, h1, h2⟩ := h
  simp only at h h1 h2
  have hsz := right_size h
  rcases right_cases h with ⟨rfl, e, rfl⟩ | ⟨rfl, rfl, rfl⟩ | ⟨rfl, rfl, e⟩
  · refine .inl ⟨(i + 9223372036854775808).toNat, by omega, ?_, rfl⟩
    rw [tl_nil e, Int.toNat_of_nonneg (by omega)]
    congr 1; omega
  · refine .inr (.inl ⟨s.toList, by rw [tl_len]; exact hsz, ?_, rfl⟩)
    congr 1
    exact tl_ext (tl_mk _).symm
  · refine .inr (.inr ⟨b, by rw [tl_nil e], rfl⟩)
theorem right_num {u : Nat} (h : u < 18446744073709551616) : rightD ⟨1, (u : Int) - 9223372036854775808, ⟨#[]⟩, false⟩ :=
  ⟨by simp [rightB], by simp only; omega, by simp only; omega⟩
theorem right_text {t : List UInt8} (h : t.length ≤ 4096) : rightD ⟨2, 0, ⟨t.toArray⟩, false⟩ :=
  ⟨by simp [rightB]; show ((t.length : Nat) : Int) ≤ 4096; omega, by simp only; omega, by simp only; omega⟩
theorem right_bool (b : Bool) : rightD ⟨3, 0, ⟨#[]⟩, b⟩ := ⟨by simp [rightB], by simp only; omega, by simp only; omega⟩
theorem key_num {u : Nat} : keyV ⟨1, (u : Int) - 9223372036854775808, ⟨#[]⟩, false⟩ = 1 :: numL 8 u := by
  simp only [keyV]
  rw [if_neg (by decide), if_neg (by decide), show ((u : Int) - 9223372036854775808 + 9223372036854775808).toNat = u by omega]
theorem key_text (t : List UInt8) : keyV ⟨2, 0, ⟨t.toArray⟩, false⟩ = 2 :: (escL t ++ [0, 1]) := by
  simp only [keyV]
  rw [if_neg (by decide), if_pos trivial, tl_mk]
theorem key_bool (b : Bool) : keyV ⟨3, 0, ⟨#[]⟩, b⟩ = [3, if b = true then 1 else 0] := by
  simp only [keyV]
  rw [if_pos trivial]
theorem key_pos {v : Vd} (h : rightD v) : 2 ≤ (keyV v).length := by
  rcases right_three h with ⟨u, _, _, e⟩ | ⟨t, _, _, e⟩ | ⟨b, _, e⟩ <;> rw [e] <;> simp [numL_len]
theorem key_max {v : Vd} (h : rightD v) : (keyV v).length ≤ 8195 := by
  rcases right_three h with ⟨u, _, _, e⟩ | ⟨t, ht, _, e⟩ | ⟨b, _, e⟩ <;> rw [e] <;> simp [numL_len]
  have := escL_le t; omega

/-- What stands at the beginning is one value's key alone. -/
theorem key_pre {v u : Vd} (hv : rightD v) (hu : rightD u) {x y : List UInt8} (h : keyV v ++ x = keyV u ++ y) : v = u ∧ x = y := by
  rcases right_three hv with ⟨a, ha, rfl, e⟩ | ⟨s, hs, rfl, e⟩ | ⟨b, rfl, e⟩ <;> rcases right_three hu with ⟨a', ha', rfl, e'⟩ | ⟨s', hs', rfl, e'⟩ | ⟨b', rfl, e'⟩ <;> rw [e, e'] at h
  · simp only [List.cons_append, List.cons.injEq, true_and] at h
    obtain ⟨h1, h2⟩ := List.append_inj h (by rw [numL_len, numL_len])
    rw [numL_inj ha ha' h1]
    exact ⟨rfl, h2⟩
  · simp at h
  · simp at h
  · simp at h
  · simp only [List.cons_append, List.cons.injEq, true_and, List.append_assoc, List.nil_append] at h
    obtain ⟨t, h1, h2⟩ := esc_pre s (0 :: 1 :: x) s' y h
    cases t with
    | nil =>
      rw [List.append_nil] at h1
      rw [h1]
      simp [escL] at h2
      exact ⟨rfl, h2⟩
    | cons c t =>
      exfalso
      by_cases hc : c = 0
      · subst hc; rw [escL_zero] at h2; simp at h2
      · rw [escL_else hc] at h2
        simp only [List.cons_append, List.cons.injEq] at h2
        exact hc h2.1.symm
  · simp at h
  · simp at h
  · simp at h
  · simp only [List.cons_append, List.cons.injEq, true_and, List.nil_append] at h
    refine ⟨?_, h.2⟩
    have := h.1
    cases b <;> cases b' <;> simp at this ⊢

def allD (L : List Vd) : Prop := ∀ v ∈ L, rightD v
/-- .. and of values' keys, too. -/
theorem keys_pre : ∀ {A : List Vd}, allD A → ∀ {B : List Vd}, allD B → ∀ {x : List UInt8}, keysL A ++ x = keysL B → ∃ C, B = A ++ C ∧ x = keysL C
  | [], _, B, _, x, h => ⟨B, rfl, h⟩
  | v :: A, hA, [], _, x, h => by
    have := key_pos (hA v (by simp))
    have h2 := congrArg List.length h
    simp [keysL] at h2
    rw [h2.1] at this
    simp at this
  | v :: A, hA, u :: B, hB, x, h => by
    rw [keysL, keysL, List.append_assoc] at h
    obtain ⟨rfl, h2⟩ := key_pre (hA v (by simp)) (hB u (by simp)) h
    obtain ⟨C, rfl, h3⟩ := keys_pre (fun w hw => hA w (by simp [hw])) (fun w hw => hB w (by simp [hw])) h2
    exact ⟨C, rfl, h3⟩
theorem keys_inj {A B : List Vd} (hA : allD A) (hB : allD B) (h : keysL A = keysL B) : A = B := by
  obtain ⟨C, rfl, h2⟩ := keys_pre hA hB (x := []) (by rw [List.append_nil]; exact h)
  cases C with
  | nil => rw [List.append_nil]
  | cons c C =>
    have := key_pos (hB c (by simp))
    have h2 := congrArg List.length h2
    simp [keysL] at h2
    omega

/-- What is told of the value whose key bytes begin with. -/
def none0 : Vd := ⟨0, 0, ⟨#[]⟩, false⟩
def KeyTold (l : List UInt8) (v : Vd) (n : Nat) (ok : Bool) : Prop :=
  (ok = true ∧ rightD v ∧ n = (keyV v).length ∧ ∃ x, l = keyV v ++ x) ∨ (ok = false ∧ v = none0 ∧ n = 0 ∧ ∀ u, rightD u → ∀ x, l ≠ keyV u ++ x)
theorem KeyTold.same {l : List UInt8} {v v' : Vd} {n n' : Nat} {ok ok' : Bool} (h : KeyTold l v n ok) (h' : KeyTold l v' n' ok') : v = v' ∧ n = n' ∧ ok = ok' := by
  rcases h with ⟨rfl, h1, rfl, x, h2⟩ | ⟨rfl, rfl, rfl, h1⟩ <;> rcases h' with ⟨rfl, h1', rfl, x', h2'⟩ | ⟨rfl, rfl, rfl, h1'⟩
  · obtain ⟨rfl, _⟩ := key_pre h1 h1' (h2.symm.trans h2')
    exact ⟨rfl, rfl, rfl⟩
  · exact absurd h2 (h1' _ h1 _)
  · exact absurd h2' (h1 _ h1' _)
  · exact ⟨rfl, rfl, rfl⟩
theorem KeyTold.pos {l : List UInt8} {v : Vd} {n : Nat} {ok : Bool} (h : KeyTold l v n ok) : ok = decide (0 < n) ∧ n ≤ l.length := by
  rcases h with ⟨rfl, h1, rfl, x, rfl⟩ | ⟨rfl, rfl, rfl, h1⟩
  · have := key_pos h1
    refine ⟨?_, by simp⟩
    symm
    rw [decide_eq_true_iff]
    omega
  · exact ⟨rfl, by omega⟩
theorem KeyTold.take {l : List UInt8} {v : Vd} {n : Nat} (h : KeyTold l v n true) : rightD v ∧ l.take n = keyV v ∧ l = keyV v ++ l.drop n := by
  rcases h with ⟨_, h1, rfl, x, rfl⟩ | ⟨h, _⟩
  · exact ⟨h1, by simp, by simp⟩
  · cases h
theorem KeyTold.none' {l : List UInt8} {v : Vd} {n : Nat} (h : KeyTold l v n false) : v = none0 ∧ n = 0 ∧ ∀ u, rightD u → ∀ x, l ≠ keyV u ++ x := by
  rcases h with ⟨h, _⟩ | ⟨_, h1, h2, h3⟩
  · cases h
  · exact ⟨h1, h2, h3⟩
theorem told_nil : KeyTold [] none0 0 false := .inr ⟨rfl, rfl, rfl, fun u hu x h => by
  have := key_pos hu
  have h2 := congrArg List.length h
  simp at h2
  omega⟩
theorem told_kind {c : UInt8} {r : List UInt8} (h1 : c ≠ 1) (h2 : c ≠ 2) (h3 : c ≠ 3) : KeyTold (c :: r) none0 0 false := .inr ⟨rfl, rfl, rfl, fun u hu x h => by
  rcases right_three hu with ⟨_, _, _, e⟩ | ⟨_, _, _, e⟩ | ⟨_, _, e⟩ <;> rw [e] at h <;> simp only [List.cons_append, List.cons.injEq] at h
  · exact h1 h.1
  · exact h2 h.1
  · exact h3 h.1⟩
theorem told_num {r : List UInt8} (h : 8 ≤ r.length) : KeyTold (1 :: r) ⟨1, (numOf (r.take 8) : Int) - 9223372036854775808, ⟨#[]⟩, false⟩ 9 true := by
  have hl : (r.take 8).length = 8 := by rw [List.length_take]; omega
  have hb := numOf_lt (r.take 8)
  rw [hl] at hb
  refine .inl ⟨rfl, right_num (by omega), by rw [key_num, List.length_cons, numL_len], r.drop 8, ?_⟩
  rw [key_num]
  have e := numL_of (r.take 8) 0
  rw [Nat.zero_mul, Nat.zero_add, hl] at e
  rw [e]
  simp
theorem told_num_no {r : List UInt8} (h : r.length < 8) : KeyTold (1 :: r) none0 0 false := .inr ⟨rfl, rfl, rfl, fun u hu x hx => by
  rcases right_three hu with ⟨a, _, _, e⟩ | ⟨_, _, _, e⟩ | ⟨_, _, e⟩ <;> rw [e] at hx
  · have h2 := congrArg List.length hx
    simp [numL_len] at h2
    omega
  · simp at hx
  · simp at hx⟩
theorem told_bool {c : UInt8} {r : List UInt8} (h : c.toNat ≤ 1) : KeyTold (3 :: c :: r) ⟨3, 0, ⟨#[]⟩, c == 1⟩ 2 true := by
  refine .inl ⟨rfl, right_bool _, by rw [key_bool]; rfl, r, ?_⟩
  rw [key_bool]
  have : c = 0 ∨ c = 1 := by
    rcases Nat.le_one_iff_eq_zero_or_eq_one.1 h with e | e
    · exact .inl (UInt8.toNat_inj.1 e)
    · exact .inr (UInt8.toNat_inj.1 e)
  rcases this with rfl | rfl <;> rfl
theorem told_bool_no {r : List UInt8} (h : ∀ c x, r = c :: x → ¬ c.toNat ≤ 1) : KeyTold (3 :: r) none0 0 false := .inr ⟨rfl, rfl, rfl, fun u hu x hx => by
  rcases right_three hu with ⟨a, _, _, e⟩ | ⟨_, _, _, e⟩ | ⟨b, _, e⟩ <;> rw [e] at hx
  · simp at hx
  · simp at hx
  · simp only [List.cons_append, List.nil_append, List.cons.injEq, true_and] at hx
    refine h _ _ hx ?_
    cases b <;> simp⟩
theorem told_text {t x : List UInt8} (h : t.length ≤ 4096) : KeyTold (2 :: (escL t ++ 0 :: 1 :: x)) ⟨2, 0, ⟨t.toArray⟩, false⟩ (1 + ((escL t).length + 2)) true := by
  refine .inl ⟨rfl, right_text h, by rw [key_text]; simp; omega, x, ?_⟩
  rw [key_text]
  simp
theorem told_text_long {t x : List UInt8} (h : 4096 < t.length) : KeyTold (2 :: (escL t ++ x)) none0 0 false := .inr ⟨rfl, rfl, rfl, fun u hu y hx => by
  rcases right_three hu with ⟨a, _, _, e⟩ | ⟨s, hs, _, e⟩ | ⟨b, _, e⟩ <;> rw [e] at hx
  · simp at hx
  · simp only [List.cons_append, List.cons.injEq, true_and, List.append_assoc, List.nil_append] at hx
    obtain ⟨s', rfl, _⟩ := esc_pre t x s y hx
    rw [List.length_append] at hs
    omega
  · simp at hx⟩
theorem told_text_no {t rest : List UInt8} (h0 : ∀ c x, rest = c :: x → c = 0) (h : ∀ c x, rest = 0 :: c :: x → c ≠ 1 ∧ c ≠ 255) : KeyTold (2 :: (escL t ++ rest)) none0 0 false := .inr ⟨rfl, rfl, rfl, fun u hu y hx => by
  rcases right_three hu with ⟨a, _, _, e⟩ | ⟨s, hs, _, e⟩ | ⟨b, _, e⟩ <;> rw [e] at hx
  · simp at hx
  · simp only [List.cons_append, List.cons.injEq, true_and, List.append_assoc, List.nil_append] at hx
    obtain ⟨s', rfl, h2⟩ := esc_pre t rest s y hx
    cases s' with
    | nil => exact (h 1 _ h2).1 rfl
    | cons c s' =>
      by_cases hc : c = 0
      · subst hc; rw [escL_zero] at h2; exact (h 255 _ h2).2 rfl
      · rw [escL_else hc] at h2; exact hc (h0 c _ h2)
  · simp at hx⟩

/-- What is told of the values of whose keys bytes consist. -/
def ReadTold (l : List UInt8) (L : List Vd) (ok : Bool) : Prop := (ok = true ∧ allD L ∧ l = keysL L) ∨ (ok = false ∧ L = [] ∧ ∀ M, allD M → l ≠ keysL M)
theorem read_more {M : List Vd} {l rest : List UInt8} {v : Vd} {n : Nat} (hM : allD M) (h : l = keysL M ++ rest) (ht : KeyTold rest v n true) : allD (M ++ [v]) ∧ l = keysL (M ++ [v]) ++ rest.drop n := by
  obtain ⟨h1, _, h2⟩ := ht.take
  refine ⟨fun u hu => ?_, ?_⟩
  · rw [List.mem_append, List.mem_singleton] at hu
    rcases hu with hu | rfl
    · exact hM u hu
    · exact h1
  · rw [keysL_app, keysL, keysL, List.append_nil, List.append_assoc, ← h2]; exact h
theorem read_no {M : List Vd} {l rest : List UInt8} {v : Vd} {n : Nat} (hM : allD M) (h : l = keysL M ++ rest) (hr : rest ≠ []) (ht : KeyTold rest v n false) : ReadTold l [] false :=
  .inr ⟨rfl, rfl, fun N hN e => by
    obtain ⟨C, rfl, h2⟩ := keys_pre hM hN (h.symm.trans e)
    cases C with
    | nil => exact hr h2
    | cons c C => exact ht.none'.2.2 c (hN c (by simp)) _ h2⟩
theorem ReadTold.same {l : List UInt8} {L L' : List Vd} {ok ok' : Bool} (h : ReadTold l L ok) (h' : ReadTold l L' ok') : L = L' ∧ ok = ok' := by
  rcases h with ⟨rfl, h1, h2⟩ | ⟨rfl, rfl, h1⟩ <;> rcases h' with ⟨rfl, h1', h2'⟩ | ⟨rfl, rfl, h1'⟩
  · exact ⟨keys_inj h1 h1' (h2.symm.trans h2'), rfl⟩
  · exact absurd h2 (h1' _ h1)
  · exact absurd h2' (h1 _ h1')
  · exact ⟨rfl, rfl⟩

/-- The order of keys. -/
theorem numL_less : ∀ (n a b : Nat), a % 256 ^ n ≠ b % 256 ^ n → ∀ x y, Op.bytesLess (numL n a ++ x) (numL n b ++ y) = decide (a % 256 ^ n < b % 256 ^ n)
  | 0, a, b, h, _, _ => by simp [Nat.mod_one] at h
  | n + 1, a, b, h, x, y => by
    rw [numL, numL, List.cons_append, List.cons_append]
    rw [Nat.pow_succ, Nat.mod_mul, Nat.mod_mul] at h ⊢
    have hp : 0 < 256 ^ n := Nat.pow_pos (by omega)
    have ha := Nat.mod_lt a hp
    have hb := Nat.mod_lt b hp
    by_cases hc : a / 256 ^ n % 256 = b / 256 ^ n % 256
    · have e : UInt8.ofNat (a / 256 ^ n) = UInt8.ofNat (b / 256 ^ n) := UInt8.toNat_inj.1 (by rw [UInt8.toNat_ofNat', UInt8.toNat_ofNat']; exact hc)
      rw [e, bl_same, numL_less n a b (fun e => h (by rw [e, hc])), hc]
      congr 1
      rw [eq_iff_iff]
      omega
    · have e : UInt8.ofNat (a / 256 ^ n) ≠ UInt8.ofNat (b / 256 ^ n) := fun e => hc (by have := congrArg UInt8.toNat e; rw [UInt8.toNat_ofNat', UInt8.toNat_ofNat'] at this; exact this)
      rw [bl_ne e, UInt8.toNat_ofNat', UInt8.toNat_ofNat']
      congr 1
      rw [eq_iff_iff]
      generalize hA : a / 256 ^ n % 2 ^ 8 = A
      generalize hB : b / 256 ^ n % 2 ^ 8 = B
      have hA' : a / 256 ^ n % 256 = A := hA
      have hB' : b / 256 ^ n % 256 = B := hB
      rw [hA', hB'] at hc
      constructor
      · intro hlt
        have : 256 ^ n * (A + 1) ≤ 256 ^ n * B := Nat.mul_le_mul_left _ hlt
        rw [Nat.mul_add] at this
        omega
      · intro hlt
        rcases Nat.lt_or_ge A B with h' | h'
        · exact h'
        · have : 256 ^ n * (B + 1) ≤ 256 ^ n * A := Nat.mul_le_mul_left _ (by omega)
          rw [Nat.mul_add] at this
          omega
theorem esc_less : ∀ (s t : List UInt8), s ≠ t → ∀ x y, Op.bytesLess (escL s ++ 0 :: 1 :: x) (escL t ++ 0 :: 1 :: y) = Op.bytesLess s t
  | [], [], h, _, _ => absurd rfl h
  | [], d :: t, _, x, y => by
    by_cases hd : d = 0
    · subst hd; rw [escL_zero]; simp [escL, Op.bytesLess]
    · rw [escL_else hd]
      show Op.bytesLess (0 :: 1 :: x) (d :: (escL t ++ 0 :: 1 :: y)) = true
      rw [bl_ne (fun e => hd e.symm)]
      rw [decide_eq_true_iff]
      have : d.toNat ≠ 0 := fun e => hd (UInt8.toNat_inj.1 e)
      show 0 < d.toNat
      omega
  | c :: s, [], _, x, y => by
    by_cases hc : c = 0
    · subst hc; rw [escL_zero]; simp [escL, Op.bytesLess]
    · rw [escL_else hc]
      show Op.bytesLess (c :: (escL s ++ 0 :: 1 :: x)) (0 :: 1 :: y) = false
      rw [bl_ne hc]
      simp
  | c :: s, d :: t, h, x, y => by
    by_cases hcd : c = d
    · subst hcd
      have h' : s ≠ t := fun e => h (by rw [e])
      rw [bl_same]
      by_cases hc : c = 0
      · subst hc; rw [escL_zero, escL_zero]; simp only [List.cons_append]; rw [bl_same, bl_same]; exact esc_less s t h' x y
      · rw [escL_else hc, escL_else hc]; simp only [List.cons_append]; rw [bl_same]; exact esc_less s t h' x y
    · rw [bl_ne hcd]
      by_cases hc : c = 0
      · subst hc
        rw [escL_zero, escL_else (fun e => hcd e.symm)]
        simp only [List.cons_append]
        rw [bl_ne hcd]
      · by_cases hd : d = 0
        · subst hd
          rw [escL_zero, escL_else hc]
          simp only [List.cons_append]
          rw [bl_ne hcd]
        · rw [escL_else hc, escL_else hd]
          simp only [List.cons_append]
          rw [bl_ne hcd]
theorem key_less {v u : Vd} (hv : rightD v) (hu : rightD u) (h : v ≠ u) (x y : List UInt8) : Op.bytesLess (keyV v ++ x) (keyV u ++ y) = lessD v u := by
  rcases right_three hv with ⟨a, ha, rfl, e⟩ | ⟨s, hs, rfl, e⟩ | ⟨b, rfl, e⟩ <;> rcases right_three hu with ⟨a', ha', rfl, e'⟩ | ⟨s', hs', rfl, e'⟩ | ⟨b', rfl, e'⟩ <;> rw [e, e'] <;> simp only [List.cons_append, List.append_assoc, List.nil_append]
  · have hne : a ≠ a' := fun e => h (by rw [e])
    rw [bl_same, numL_less 8 a a' (by rw [Nat.mod_eq_of_lt ha, Nat.mod_eq_of_lt ha']; exact hne), Nat.mod_eq_of_lt ha, Nat.mod_eq_of_lt ha']
    simp only [lessD, lessB]
    rw [if_pos trivial, if_pos trivial]
    congr 1
    rw [eq_iff_iff]
    omega
  · rw [bl_ne (by decide)]; simp [lessD, lessB]
  · rw [bl_ne (by decide)]; simp [lessD, lessB]
  · rw [bl_ne (by decide)]; simp [lessD, lessB]
  · have hne : s ≠ s' := fun e => h (by rw [e])
    rw [bl_same, esc_less s s' hne]
    simp only [lessD, lessB]
    rw [if_pos trivial, if_neg (by decide), if_pos trivial, tl_mk, tl_mk]
  · rw [bl_ne (by decide)]; simp [lessD, lessB]
  · rw [bl_ne (by decide)]; simp [lessD, lessB]
  · rw [bl_ne (by decide)]; simp [lessD, lessB]
  · cases b <;> cases b' <;> simp [lessD, lessB, Op.bytesLess] at h ⊢

/-- Whether two values are the same. -/
def eqD (v u : Vd) : Bool := eqB v.k v.i v.s v.b u.k u.i u.s u.b
theorem eqD_iff (v u : Vd) : eqD v u = true ↔ v = u := by
  unfold eqD
  rw [eqB_iff]
  constructor
  · rintro ⟨h1, h2, h3, h4⟩
    cases v; cases u
    simp only at h1 h2 h3 h4
    rw [h1, h2, tl_ext h3, h4]
  · rintro rfl
    exact ⟨rfl, rfl, rfl, rfl⟩
theorem eqD_ne {v u : Vd} (h : eqD v u = false) : v ≠ u := fun e => by rw [(eqD_iff v u).2 e] at h; cases h
/-- Whether two lists are the same. -/
def sameL : List Vd → List Vd → Bool
  | [], [] => true
  | v :: A, u :: B => eqD v u && sameL A B
  | _, _ => false
theorem sameL_iff : ∀ A B, sameL A B = true ↔ A = B
  | [], [] => by simp [sameL]
  | [], u :: B => by simp [sameL]
  | v :: A, [] => by simp [sameL]
  | v :: A, u :: B => by rw [sameL, Bool.and_eq_true, eqD_iff, sameL_iff A B, List.cons.injEq]
/-- Whether a list is ahead of another one. -/
def belowL : List Vd → List Vd → Bool
  | _, [] => false
  | [], _ :: _ => true
  | v :: A, u :: B => if eqD v u = true then belowL A B else lessD v u
theorem keys_less : ∀ {A B : List Vd}, allD A → allD B → Op.bytesLess (keysL A) (keysL B) = belowL A B
  | [], [], _, _ => rfl
  | v :: A, [], _, _ => by rw [keysL, keysL, bl_nil]; rfl
  | [], u :: B, _, hB => by
    have := key_pos (hB u (by simp))
    rw [keysL, keysL, belowL]
    cases h : keyV u with
    | nil => rw [h] at this; simp at this
    | cons c r => rfl
  | v :: A, u :: B, hA, hB => by
    rw [belowL]
    split
    · rename_i h
      obtain rfl := (eqD_iff v u).1 h
      have : Op.bytesLess (keyV v ++ keysL A) (keyV v ++ keysL B) = Op.bytesLess (keysL A) (keysL B) := by
        rw [bl_drop (keyV v).length _ _ (by simp) (by simp) (by simp)]
        simp
      rw [keysL, keysL, this]
      exact keys_less (fun w hw => hA w (by simp [hw])) (fun w hw => hB w (by simp [hw]))
    · rename_i h
      rw [keysL, keysL]
      exact key_less (hA v (by simp)) (hB u (by simp)) (fun e => h ((eqD_iff v u).2 e)) _ _
theorem keys_same {A B : List Vd} (hA : allD A) (hB : allD B) : (keysL A == keysL B) = sameL A B := by
  rw [Bool.eq_iff_iff, beq_iff_eq, sameL_iff]
  exact ⟨keys_inj hA hB, fun e => by rw [e]⟩
theorem below_drop : ∀ (n : Nat) (A B : List Vd), n ≤ A.length → n ≤ B.length → A.take n = B.take n → belowL A B = belowL (A.drop n) (B.drop n)
  | 0, _, _, _, _, _ => by simp
  | n + 1, [], _, h, _, _ => by simp at h
  | n + 1, _ :: _, [], _, h, _ => by simp at h
  | n + 1, v :: A, u :: B, h1, h2, h => by
    simp only [List.take_succ_cons, List.cons.injEq] at h
    obtain ⟨rfl, h⟩ := h
    rw [belowL, if_pos ((eqD_iff v v).2 rfl), List.drop_succ_cons, List.drop_succ_cons]
    exact below_drop n A B (by simpa using h1) (by simpa using h2) h
theorem below_end (A B : List Vd) (n : Nat) (h1 : n ≤ A.length) (h2 : n ≤ B.length) (h : A.take n = B.take n) (he : n = A.length ∨ n = B.length) : belowL A B = decide (A.length < B.length) := by
  rw [below_drop n A B h1 h2 h]
  by_cases hb : n = B.length
  · subst hb
    rw [List.drop_length]
    have : ¬ A.length < B.length := by omega
    simp [belowL, this]
  · have ha : n = A.length := by rcases he with e | e; exact e; exact absurd e hb
    subst ha
    rw [List.drop_length, List.drop_eq_getElem_cons (by omega)]
    have : A.length < B.length := by omega
    simp [belowL, this]
theorem below_at (A B : List Vd) (n : Nat) (h1 : n < A.length) (h2 : n < B.length) (h : A.take n = B.take n) (he : eqD (A.getD n default) (B.getD n default) = false) : belowL A B = lessD (A.getD n default) (B.getD n default) := by
  rw [below_drop n A B (by omega) (by omega) h, List.drop_eq_getElem_cons h1, List.drop_eq_getElem_cons h2, belowL]
  have e1 : A.getD n default = A[n] := by simp [List.getD, h1]
  have e2 : B.getD n default = B[n] := by simp [List.getD, h2]
  rw [← e1, ← e2, if_neg (by rw [he]; simp)]
theorem same_no (A B : List Vd) (n : Nat) (h1 : n < A.length) (h2 : n < B.length) (he : eqD (A.getD n default) (B.getD n default) = false) : sameL A B = false := by
  cases hs : sameL A B
  · rfl
  · have := (sameL_iff A B).1 hs
    subst this
    rw [(eqD_iff _ _).2 rfl] at he
    cases he
theorem take_next (A B : List Vd) (n : Nat) (h1 : n < A.length) (h2 : n < B.length) (h : A.take n = B.take n) (he : eqD (A.getD n default) (B.getD n default) = true) : A.take (n + 1) = B.take (n + 1) := by
  have e1 : A.getD n default = A[n] := by simp [List.getD, h1]
  have e2 : B.getD n default = B[n] := by simp [List.getD, h2]
  rw [List.take_succ_eq_append_getElem h1, List.take_succ_eq_append_getElem h2, h, ← e1, ← e2, (eqD_iff _ _).1 he]
end Go.Proofs.YtjohiehlnbgdaaaDoor
